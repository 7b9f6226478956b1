import Derived.Test.YtcalkelgoekpfaaGreatDoorRdN
set_option linter.unusedSimpArgs false
set_option linter.unusedVariables false
set_option linter.defProp false
set_option linter.unusedSectionVars false
set_option maxHeartbeats 0
set_option maxRecDepth 100000
namespace Go.Proofs.YtcalkelgoekpfaaGreatDoor
open Go.RowKit Go.PlainAid Tryz
open Below renaming heap_alloc→dc,heap_setCell→dE
open Value renaming iface→pH,ownBlock→dl
open Lib renaming byteCells→en,contains_iff_indexByte→pY,replaceAll→eB,replaceK→fu,strCells→hP
open And renaming intro→cG
open Pure renaming pure→aG
open _root_.ByteArray renaming data_extract→hQ,ext→gL,size→kw
open Go.ByteArray renaming toList_eq→eC
open Option renaming some→H,none→F,isNone_iff_eq_none→wi,map_eq_some_iff→eM
open Bool renaming true→C,false→I
open List renaming length→ln,all_eq_true→dm,drop_length→qe,erase_cons→rf,getElem?_eq_some_iff→dG,getElem?_set_ne→kx,getElem?_set_self→qn,getLast?_eq_some_iff→eT,length_append→qb,length_reverse→l0,map_inj_right→wk,map_nil→rP,mem_append→dA,mem_cons→bZ,mem_cons_self→l3,mem_map→dW,mem_of_getLast?→ra,mem_of_mem_tail→rb,mem_reverse→dU,mem_singleton→cC,reverse→wb
open _root_.Array renaming size→zq
open Go renaming undef→qu
def RH:=@List.cons.injEq
section
variable {A B w aJ wl:J}{aI ks:List Nd}{L l:List O}{OF:List Nat}{Q:N->Prop}{R:RC}{a b c d f h i k lg lo m n P φ:Nat}{K:mh}{inV:Bool}{o:O->Option O}{p s x:O}{r:Ru}{sp:kR}{t:dj}{W U:N}
def TM(k:Nat)(w:J):Calls prog 46 #[.iface 76 (dq k)] w λe aJ=>e=ff (dq k)/\aJ=w:=by
 have j:∀(v:dB)(g:TypeId)(w:J),(Instr.typeAssert (.iface 76 v) g 76 C).run prog w=.ok (.tuple #[v,.bool C]) w:=λv g w=>by simp[Instr.typeAssert]
 go_wp2;go_ret;simp
theorem EX(g j:Nat)(k:Nat)(w:J)(v:dB)(q:w.heap[g]?=H (dr #[v,.pointer F] 70))(z:w.heap[j]?=H (dr #[.pointer F] 76))(u:g≠j)(U:j≠g):CallsD prog 45 #[dq g,dq j] (.panicking [{v:=.iface 76 (dq k),recovered:=I}]) w λe d aJ=>
   e=pG/\d=.panicking [{v:=.iface 76 (dq k),recovered:=C}]/\aJ.heap[g]?=H (dr #[gq,.pointer F] 70)/\aJ.heap[j]?=H (dr #[dq k] 76)/\Z [g,j] w aJ:=by
 have a:=aF q 0;have b:=aF q 1;have c:=aF z 0;have f0:=cY q 0;have f1:=cY q 1;have f:=cY z 0;dsimp at a b c;have E:Hid (∃W,W=((w.setCell ⟨g,0,F⟩ (gq)).setCell ⟨g,1,F⟩ (.pointer F)).setCell ⟨j,0,F⟩ (dq k)/\W.heap[g]?=H (dr #[gq,.pointer F] 70)/\W.heap[j]?=H (dr #[dq k] 76)/\Z [g,j] w W):=by refine⟨_,D,?_,?_,?_⟩;rw[dE _ _ _ _ u];exact bH (bH q 0 _) 1 _;refine bH (c:=#[.pointer F]) ?_ 0 _;grind[dE];grind[Z.setCell,Z.refl]
 refine callsD_of_wpS func45 D λo cs y=>?_;apply wpS_seq;apply wpS_region;simp[wpOpsS,go_sem,recoverD,y,ntmps45,Exit.thenS];have P:=y;refine wpS_of_wp ?_;have S:(#[dq g,dq j]++((Array.replicate 7 qu).setIfInBounds 1 (pH 76 (dq k))).setIfInBounds 0 (pH 76 (dq k)))=#[dq g,dq j,.iface 76 (dq k),.iface 76 (dq k),qu,qu,qu,qu,qu]:=rfl;rw[S];go_wp21;refine(TM k _).mono ?_;rintro e aJ⟨rfl,rfl⟩;go_wp2;have y:=P;have⟨W,hW,h1,h2,h3⟩:=E;rw[<-hW];cases o;simp_all[bodyPostS,results,results45]
def KB(W e:J):Prop:=∀(k:Nat)(c:io)(t:TypeId),W.heap[k]?=H (dr c t)->t∉[98,5]->e.heap[k]?=H (dr c t)
theorem KB.trans{a:J}(h:KB A B)(k:KB B a):KB A a:=λi c t g e=>k i c t (h i c t g e) e
def KB.q(h:Z [] A B):KB A B:=λi c t e _=>h.at e (by simp)
theorem KB.e{e:io}(h:Z [b] A B)(j:A.heap[b]?=H (dr e 98)):KB A B:=λi c t g o=>h.at g (by grind)
def MK(l:List UInt8)(s:O):en (l++s.data.toList)=en l++hP s:=by unfold en hP;simp
def iE(a:List O):List UInt8:=a.flatMap λs=>s.data.toList
def Ex(b a:List O):iE (b++a)=iE b++iE a:=GL ..
def RV(s g e:O):O:=⟨(eB s.data.toList g.data.toList e.data.toList).toArray⟩
def RP(w:J):Prop:=(∃m,w.cell? ⟨3,0,F⟩=H (G m))/\3<zq w.heap
theorem RP.kept(h:RP w)(e:Z [] w aJ):RP aJ:=by have⟨⟨m,hm⟩,hl⟩:=h;exact⟨⟨m,(e.cell hl (by simp)).trans hm⟩,kQ hl e.size⟩
def KS(h:Below w.heap.size w aJ):Z [] w aJ:=⟨h.os,h.tape,h.output,h.size,λk e _=>h.block k e⟩
def zZ(s:O):O:=RV (RV s uM lB) uh nS
def Cz(s:O):O:=RV (RV (zZ s) oY ky) eV qH
theorem Lk.map(h:Lk w b o):∃u q,w.heap[b]?=H (Obj.map u q):=by
 have v:=h.run ⟨#[]⟩ w D;have y:=sY (w:=w) (show prog.underlying 158=H (.map 9 204) by simp);have g:∀a,w.heap[b]?=H a->(∀c e f,a≠ .cells c e f)->(getObj b).run prog w=.ok a w:=by
  intro a z E;cases a with
  |cells c e f=>grind
  |_=>simp[getObj,Sem.run,z]
 cases hb:w.heap[b]? with
 |none=>
  grind[lt]
 |some a=>
  cases a with
  |map u q=>simp
  |cells c e f=>
   exfalso;have j:(getObj b).run prog w=.halt (Halt.stuck "getObj: a row of cells") w:=by simp[getObj,Sem.run,hb]
   simp[Instr.lookup,y,j,Result.andThen]at v
  |_=>
   exfalso;have j:=g _ hb (by simp);simp[Instr.lookup,y,j,Result.andThen,Go.stuck,Sem.run]at v
theorem Fr.map{bs:Nat}(h:Fr bs w aJ)(e:w.heap[b]?=wl.heap[b]?)(g:Lk wl b o):aJ.heap[b]?=w.heap[b]?:=h.calm (.inl (by rw[e];exact g.map))
theorem KT.map{bs:Nat}{T:List TypeId}(h:KT bs T w aJ)(e:w.heap[b]?=wl.heap[b]?)(g:Lk wl b o):aJ.heap[b]?=w.heap[b]?:=by have⟨es,ck,hm⟩:=g.map;have⟨S,hk,hS⟩:=h;grind[Z.block]
inductive J2 where
 |stop (e p:Nat)
 |done (σ:N) (L:List Sp)
 |stuck
def pD(R:RC)(W:N)(P:Nat)(t:dj):N:={W with E:=t.l6,a:=(qK (QR R W.a W.S) P).a}
def kq(R:RC)(o:O->Option O)(lg:Nat)(a:Nat->Nat):Nat->Nat->N->List Sp->J2
 |0,_,_,_=> .stuck
 |n+1,P,W,L=>match eA (QR R W.a W.S) o lg P with
  | .stop=> .stop 7 (a P)
  | .tok k m=>match nW (dx I sL) (iX (a P) (a m) k) (pD R W P (iX (a P) (a m) k))with
   | .stop e p=> .stop e p
   | .stuck=> .stuck
   | .ok _ U=>if sP k=0 then .done U L else kq R o lg a n m U (tu L ⟨(sP k:Int),a P,a m⟩)
structure F4(w:J)(bm bB bD r b:Nat)(Co:io)(R:RC)(g cap:Nat)(cut:Nat->Nat)(base:Nat)(wl:J)(ps bg:Nat)(σ:N)(v:dB)(L:List Sp)(wr:J):Prop where
 rel:∃fl w0 tv ta,fl 0=bD/\RF (SY w.heap.size bm bB r Co R bg ps w0 tv ta) fl σ wr
 bY:Pj wr r R g cap cut
 K:∃cA,wr.heap[g]?=H (dr cA 3)
 lk:wr.heap[b]?=wl.heap[b]?
 a:wr.heap[zq w.heap+1]?=H (dr #[v,.pointer F] 70)
 E:wr.heap[zq w.heap+2]?=H (dr #[.pointer F] 76)
 own:wr.ownsRow base 75 3 v (ln L) (kO L)
 kept:Z [] w wr
 le:ps<=R.A.size
 len:ln L<=ps
 A:zq w.heap<=base/\base<=zq wr.heap
 B:zq w.heap<=r
 pos:0<ln σ.d
theorem F4.next{bm bB m r:Nat}{l:io}{g S:Nat}{f:Nat->Nat}{Q:Nat}{p:Nat}{v:dB}{L:List Sp}{wr u:J}(h:F4 w bm bB m r b l R g S f Q wl P p W v L wr)(E:Z [r] wr u){d i:Nat}{o:O}(B:Rd u r (QR R o W.S) d i)(C:b≠r)(I:b<zq wl.heap)
  (a0:zq wl.heap<=zq wr.heap) (z:dB) (y:iB) (a2:AX u z y) (a1:ln y<=4096) (fr:Bool) (U:∀g,z.ownBlock=H g->zq wr.heap<=g):(∃a,a 0=m/\RF (SY w.heap.size bm bB r l R d i u z y) a {W with E:=fr,a:=o} u)/\Pj u r R g S f/\(∃s,u.heap[g]?=H (dr s 3))/\u.heap[b]?=wl.heap[b]?/\u.heap[zq w.heap+1]?=H (dr #[v,.pointer F] 70)/\u.heap[zq w.heap+2]?=H (dr #[.pointer F] 76)/\u.ownsRow Q 75 3 v (ln L) (kO L)/\Z [] w u:=by
 have⟨a,w0,tv,ta,h0,hrf⟩:=h.rel;have ne:∀{k:Nat} {c:io} {t:TypeId},wr.heap[k]?=H (dr c t)->t≠163->k∉[r]:=by intro k c t j n A;have e:=cC.1 A;subst e;rw[hrf.d]at j;simp at j;exact n j.2.symm
 refine⟨⟨a,h0,hrf.l [163] (.q E (λk j _=>by have e:=cC.1 j;subst e;exact⟨⟨_,_,_,hrf.d,by simp⟩,h.B⟩)) (λt _ n=>by grind) (by decide) B z y a2 a1 fr (λ_=>U) (λg x=>gR h.kept.size (U g x))⟩,h.bY.kept E,?_,(E.block b (kQ I a0) (by grind)).trans h.lk,E.at h.a (ne h.a (by decide)),E.at h.E (ne h.E (by decide)),E.ownsRow h.own ?_,h.kept.next E (by simpa using h.B)⟩
 grind[F4.K,Z.at];intro k j;rcases h.own.2 with⟨e,_⟩|⟨q,a3,D,e,_,aI,_⟩;rw[e]at j;cases j;rw[e]at j;have G:=jS j;grind
def JI(w:J)(e:Ending)(a:J):J2->Prop
 | .stop c p=>∃k,e=ff (.tuple #[.agg #[gq,.pointer F],dq k])/\iO a k c p/\Z [] w a
 | .done fin L=>∃v k E g,e=ff (.tuple #[.agg #[v,dq k],.pointer F])/\g 0=k/\RF E g fin a/\a.ownsRow w.heap.size 75 3 v (ln L) (kO L)/\(ln L)<=1024/\Z [] w a
 | .stuck=>False
theorem UQ{W:J}{p:Nat}{v:dB}(z:W.heap[zq w.heap+1]?=H (dr #[v,.pointer F] 70))(y:W.heap[zq w.heap+1+1]?=H (dr #[.pointer F] 76))(g:iO W k c p)(q:Z [] w W)(j:Z [zq w.heap+1,zq w.heap+1+1] W aJ):iO aJ k c p/\Z [] w aJ:=by refine⟨j.at g ?_,q.next j (λx u=> .inr ?_)⟩;intro o;rcases bZ.1 o with e|o;grind[iO];grind[iO];grind
def aef(R:RC)(o:O)(p:Bool)(P:Nat):qK (QR R o p) P=QR R (qK (QR R o p) P).a p:=by unfold qK;split<;>rfl
theorem aeI(s:O)(tv:dB)(Q d f l:Nat)(w:J)(ho:w.ownsRow Q 5 1 tv s.size (ji s))(B:s.size<=1024)(hd:d<=64)(hf:f<=32)(hl:l<=16)(hT:Pp w)(bX:RP w)(aA:∀av b,kq (vq s l av b) (fh KV) 8 (fF s) ((pq s).size+1) 0 (S0 d f l 0) []≠ .stuck):dS 32 #[tv,.agg #[G d,G f,G l]] w λe aJ=>∃av b,JI w e aJ (kq (vq s l av b) (fh KV) 8 (fF s) ((pq s).size+1) 0 (S0 d f l 0) []):=by
 have cx:∀(fn:Fn)(first A:io)(w:J),(Instr.makeFunc fn first A).run prog w=.ok (.func fn first A) w:=λ_ _ _ _=>D;obtain⟨w0,ae⟩:∃w0,w0=((w.alloc (dr #[G d,G f,G l] 67)).alloc (dr #[gq,.pointer F] 70)).alloc (dr #[.pointer F] 76):=⟨_,D⟩;have al:Z [] w w0:=by rw[ae];exact(((Z.refl _ _).alloc _).alloc _).alloc _
 have HZ:zq w0.heap=zq w.heap+3:=by rw[ae];simp
 have aL:w0.heap[zq w.heap]?=H (dr #[G d,G f,G l] 67):=by rw[ae,dc _ _ _ (by simp;omega),dc _ _ _ (by simp)];exact aY w _
 have bS:w0.heap[zq w.heap+1]?=H (dr #[gq,.pointer F] 70):=by
  rw[ae,dc _ _ _ (by simp)];have:=aY (w.alloc (dr #[G d,G f,G l] 67)) (dr #[gq,.pointer F] 70)
  simpa using this
 have bT:w0.heap[zq w.heap+2]?=H (dr #[.pointer F] 76):=by have:=aY ((w.alloc (dr #[G d,G f,G l] 67)).alloc (dr #[gq,.pointer F] 70)) (dr #[.pointer F] 76);rw[ae];simpa using this
 have CN:=M7 s tv Q (l:Int) w0 (al.ownsRow ho (λ_ _=>by simp)) B;have c0:=aF aL 0;have c1:=aF aL 1;have c2:=aF aL 2;dsimp at c0 c1 c2;have⟨ao,cp,htv⟩:=df ho;subst htv;have HW:=V ae.symm;have bj:=hT;clear ae
 go_enter_defers func32,ntmps32
 go_wp21;rw[HW.out];refine CN.mono ?_;rintro e w1⟨r,b,av,g,A,rfl,hr,hb,c4,bR,bK,bM,bf,bW,ab⟩;have g1:=ab.at aL (by simp);have d0:=aF g1 0;have d1:=aF g1 1;have d2:=aF g1 2;dsimp at d0 d1 d2;have bU:=bj.d (bm:=0) (.h (al.trans ab));have CB:=akp (d:Int) (f:Int) (l:Int) (.func 49) #[dq r] #[] w1 bU;have HB:=cG hr (cG hb c4);go_wp21;refine CB.mono ?_;rintro e w2⟨bm,bB,M,rfl,hN⟩;have a2:=hN.k;have bl:Rd w2 r (vq s l av b) 0 0:=bR.kept a2 (by simp);have⟨Co,fl,hfl,hrf⟩:=akq w.heap.size bm bB M r d f l w1 w2 (vq s l av b) hN bl D D hd hf hl (by grind) (by omega);obtain⟨R,hR⟩:∃R,R=vq s l av b:=⟨_,D⟩;have bL:R.A=pq s:=by rw[hR];rfl
 have cy:R.a=⟨#[]⟩:=by rw[hR];rfl
 have cz:R.e=I:=by rw[hR];rfl
 have cc:R.d=.map (H b):=by rw[hR];rfl
 have c8:R.lg=(8:Nat):=by rw[hR];rfl
 have ct:R.at_=(l:Int):=by rw[hR];rfl
 have bx:R.A.size<=1024:=by rw[bL,vz];have:=Je s s.size;omega
 rw[<-hR]at hrf;obtain⟨OF,hO⟩:∃OF,OF=kq R (fh KV) 8 (fF s) (R.A.size+1) 0 (S0 d f l 0) []:=⟨_,D⟩;have HO:=hO.symm;have an:Hid (∀e aJ,JI w e aJ OF->∃av b,JI w e aJ (kq (vq s l av b) (fh KV) 8 (fF s) ((pq s).size+1) 0 (S0 d f l 0) [])):=λe aJ h=>⟨av,b,by grind⟩;have bP:OF≠ .stuck:=by rw[hO,hR];exact aA av b
 have bQ:Hid (F4 w bm bB M r b Co R g A (fF s) w2.heap.size w2 0 0 (S0 d f l 0) (gq) [] w2):=V
  {rel:=⟨fl,w2,gq,[],hfl,hrf⟩
   lk:=rfl
   bY:=by have:=bK;rw[<-hR]at this;exact this.kept (a2.mono (by simp))
   K:=by have⟨cA,hA⟩:=bW;exact⟨cA,a2.at hA (by simp)⟩
   a:=a2.at (ab.at bS (by simp)) (by simp)
   E:=a2.at (ab.at bT (by simp)) (by simp)
   own:=mY _ _ _ _
   kept:=(al.trans ab).trans a2
   le:=eZ _
   len:=dF _
   A:=⟨gR (gR al.size ab.size) a2.size,dF _⟩
   B:=by omega
   pos:=by simp[S0]}
 have E:=V (bM.kept a2 (by simp));have bi:=bX;have cs:=(al.trans ab).trans a2;go_wp21
 go_loopw [] (λwr=>∃n P bg W v L,F4 w bm bB M r b Co R g A (fF s) w2.heap.size w2 P bg W v L wr/\kq R (fh KV) 8 (fF s) n P W L=OF/\R.A.size-P<n) (λwr=>R.A.size-(match wr.cell? ⟨r,3,F⟩with|some v=>(intOf v).toNat|none=>0))
 case atStart=>exact⟨R.A.size+1,0,0,_,_,[],bQ,HO,by omega⟩
 case round=>
  have⟨n,P,bg,W,v,L,h1,HGO,hnn⟩:=hrel;obtain⟨n,rfl⟩:∃k,n=k+1:=⟨n-1,by omega⟩;have bt:Rd wr r (QR R W.a W.S) bg P:=by have⟨_,_,_,_,_,hr⟩:=h1.rel;exact hr.d
  have P0:=bt.ps;have U:=h1;have c5:Gl wr r:=by have⟨aI,hl⟩:=bi.kept h1.kept;exact⟨aI,hl,λe=>by have:=h1.B;have:=bi.2;omega⟩
  have cg:xT wr r (QR R W.a W.S) g A b 8 (fh KV) (fF s):=⟨⟨h1.bY.B,h1.bY.ne,h1.bY.lt,h1.bY.at_⟩,⟨⟨kQ E.lt h1.A.2,E.short,λck aJ e=>E.run ck aJ (e.trans h1.lk)⟩,bf,cc,c8,by decide⟩,c5,bx⟩;have a4:=aks r (QR R W.a W.S) bg P g A b 8 (fh KV) (fF s) wr bt cg h1.le;rw[aef]at a4;have aw:P<R.A.size->zQ (QR R W.a W.S) P (eA (QR R W.a W.S) (fh KV) 8 P):=λh=>(Lc (R:=QR R W.a W.S) E.short bx h).1;have aX:P=R.A.size->eA (QR R W.a W.S) (fh KV) 8 P=.tok .Mw R.A.size:=λe=>by rw[e];exact TV (R:=QR R W.a W.S)
  have cq:=h1.le;rw[kq]at HGO;obtain⟨on,br⟩:∃on,on=(qK (QR R W.a W.S) P).a:=⟨_,D⟩;have bw:∀t,pD R W P t={W with E:=t.l6,a:=on}:=λt=>by rw[br];rfl
  rw[<-br]at a4;cases hT:eA (QR R W.a W.S) (fh KV) 8 P with
  |stop=>
   rw[hT]at a4 HGO;dsimp only at HGO;have CX:=V a4;have EO:=V HGO.symm;clear a4 HGO;go_wp21;refine CX.mono ?_;rintro e w3⟨k,rfl,aA,cw,ai⟩;have⟨_,_,_,_,_,hrf⟩:=U.rel;have b2:=hrf.d;have ne:∀{k:Nat} {c:io} {t:TypeId},wr.heap[k]?=H (dr c t)->t≠163->k∉[r]:=by intro k c t o ht aI;have e:=cC.1 aI;subst e;unfold Rd at b2;rw[b2]at o;simp at o;exact ht o.2.symm
   have a9:=ai.at U.a (ne U.a (by decide));have a8:w3.heap[zq w.heap+1+1]?=_:=ai.at U.E (ne U.E (by decide));have a6:=U.kept.next ai (by simpa using U.B);have S:=cG a9 (cG a8 (cG aA a6));go_wp2;refine leaves_cons (f:=45) (args:=#[dq (zq w.heap+1),dq (zq w.heap+1+1)]) (by simp) (by simp[go_sem]) ?_;refine(EX (zq w.heap+1) (zq w.heap+1+1) k w3 v S.1 S.2.1 (by omega) (by omega)).mono ?_;rintro e u' bA⟨rfl,rfl,t9,s9,k9⟩;have HF:=V (UQ S.1 S.2.1 S.2.2.1 S.2.2.2 k9);have q0:=aF t9 0;have q1:=aF t9 1;have q2:=aF s9 0;dsimp at q0 q1 q2;simp[Go.Leaves,settle,results,results32,go_sem,q0,q1,q2];refine an _ _ ?_;rw[EO.out];exact⟨k,D,HF.1,HF.2⟩
  |tok k m=>
   rw[hT]at a4 HGO;dsimp only at HGO;have cu:sP k=0->k= .Mw:=by cases k<;>simp[sP]
   have c3:Z6 k:=by rcases qp P R.A.size with h|h;have:=aw h;rw[hT]at this;exact this.2.2.2.2;have:=aX (by omega);rw[hT]at this;obtain⟨rfl,_⟩:=zG.tok.inj this;trivial
   have cb:sP k≠0->P<m/\m<=R.A.size:=by intro bb;rcases qp P R.A.size with h|h;have:=aw h;rw[hT]at this;exact⟨this.1,this.2.1⟩;have:=aX (by omega);rw[hT]at this;obtain⟨rfl,_⟩:=zG.tok.inj this;exact absurd D bb
   have b0:=gR (c3.len (fF s P) (fF s m)) (show 1024<=4096 by decide);rw[bw]at HGO;have CX:=V a4;clear a4;go_wp21;refine CX.mono ?_;rintro e w3⟨⟨vv,rfl,cj⟩,ai,ch⟩;obtain⟨T,x,tv,rfl,hV,b5,ci,bp,bq⟩:=cj.is b0;have⟨⟨fl,hfl,hrf⟩,a5,aB,aS,a9,a8,aU,a6⟩:=U.next ai ch bf E.lt U.A.2 tv _ bp b0 (iX (fF s P) (fF s m) k).l6 bq;obtain⟨t,ht⟩:∃t,t=iX (fF s P) (fF s m) k:=⟨_,D⟩;have z:=HGO;rw[<-ht]at hrf hV z;have hD:=λhh=>acn (SY w.heap.size bm bB r Co R P m w3 tv t.A) D D ci sL t (λ_=>D) fl _ w3 hrf hh;have bn:=hV (SY w.heap.size bm bB r Co R P m w3 tv t.A) D;cases hT1:nW (dx I sL) t {W with E:=t.l6,a:=on} with
   |stuck=>rw[hT1]at z;exact absurd z.symm bP
   |stop c p=>
    have cB:=hD (by rw[hT1];simp);rw[hT1]at cB z;dsimp only at z;have EO:=V z.symm;have C2:Hid (dS 51 #[dq bB,.iface T x] w3 λe a=>∃j,e=qi j/\iO a j c p/\Fr w.heap.size w3 a):=V (by rwa [bn]at cB);have HQ:=V (cG a9 (cG a8 a6));clear z HGO;go_wp21;refine C2.mono ?_;rintro e w4⟨k,rfl,aA,y⟩;have⟨a9,a8,a6⟩:=HQ;have aa:=y.d a9 (by decide);have aj:w4.heap[zq w.heap+1+1]?=_:=y.d a8 (by decide);have aR:=y.kept a6 (dF _);have S:=cG aa (cG aj (cG aA aR));go_wp2;refine leaves_cons (f:=45) (args:=#[dq (zq w.heap+1),dq (zq w.heap+1+1)]) (by simp) (by simp[go_sem]) ?_;refine(EX (zq w.heap+1) (zq w.heap+1+1) k w4 v S.1 S.2.1 (by omega) (by omega)).mono ?_;rintro e u' bA⟨rfl,rfl,t9,s9,k9⟩;have HF:=V (UQ S.1 S.2.1 S.2.2.1 S.2.2.2 k9);have q0:=aF t9 0;have q1:=aF t9 1;have q2:=aF s9 0;dsimp at q0 q1 q2;simp[Go.Leaves,settle,results,results32,go_sem,q0,q1,q2];refine an _ _ ?_;rw[EO.out];exact⟨k,D,HF.1,HF.2⟩
   |ok u X=>
    have cB:=hD (by rw[hT1];simp);rw[hT1]at cB z;dsimp only at z;have b1:0<ln ({W with E:=t.l6,a:=on}:N).d:=U.pos;have C2:Hid (dS 51 #[dq bB,.iface T x] w3 λe a=>e=pG/\∃aP,aP 0=M/\RF (SY w.heap.size bm bB r Co R P m w3 tv t.A) aP X a/\Fr w.heap.size w3 a/\0<ln X.d):=
     V (by
      rw[bn]at cB;exact cB.mono (λe a hL=>by have⟨aP,h5,h6,h7,h8,h9⟩:=hL;exact⟨h7,aP,(h5 0 b1).trans hfl,h8,h9,kQ b1 h6⟩))
    have HQ:=V (cG a5 (cG aB (cG aS (cG a9 (cG a8 (cG aU a6))))));have bk:=ai.size;clear HGO;go_wp21;refine C2.mono ?_;rintro e w4⟨rfl,b6,ar,az,y,bc⟩;have⟨a5,aB,aS,a9,a8,aU,a6⟩:=HQ;have cm:w4.heap[b]?=w2.heap[b]?:=(y.map aS E).trans aS;have aa:=y.d a9 (by decide);have aj:=y.d a8 (by decide);have aR:=y.kept a6 (dF _);have⟨cA,hA3⟩:=aB;have b7:=y.d hA3 (by decide);have bo:Pj w4 r R g A (fF s):=⟨a5.B,a5.ne,fp b7,λi hi=>by rw[aF b7,<-aF hA3];exact a5.at_ i hi⟩;have bd:w4.ownsRow w2.heap.size 75 3 v (ln L) (kO L):=by refine⟨aU.1,?_⟩;rcases aU.2 with e|⟨q,af,aM,e,h1,Y,r'⟩;exact .inl e;exact .inr ⟨q,af,aM,e,h1,y.d Y (by decide),r'⟩
    have aW:zq w2.heap<=zq w4.heap:=gR U.A.2 (gR bk y.size);have ak:=b5.kind w4;by_cases aQ:sP k=0
    .rw[aQ]at ak;have CK:=V ak;have b9:=z;rw[dw aQ]at b9;have EO:=V b9.symm;clear ak b9;have CD:=SI _ _ _ _ az;have eD:nV b6 0=dq M:=by unfold nV;rw[ar]
     rw[eD]at CD;have⟨ax,ac,hv⟩:=df bd;subst hv;have c0:=aF aa 0;have c1:=aF aa 1;have c2:=aF (show w4.heap[zq w.heap+1+1]?=_ from aj) 0;have f0:=cY aa 0;have f1:=cY aa 1;have f2:=cY (show w4.heap[zq w.heap+1+1]?=_ from aj) 0;dsimp at c0 c1 c2;have HX:=V (cG aa (cG aj (cG bd (cG aR (cG az ar)))));go_wp21;refine CK.mono ?_;rintro e w5⟨rfl,rfl⟩;go_wp21;refine CD.mono ?_;rintro e w5⟨rfl,rfl⟩;have⟨tb5,sb5,ow5,kw5,hrf5,au⟩:=HX;have bb:zq w.heap+1+1≠zq w.heap+1:=by omega
     have a1:(w5.setCell ⟨zq w.heap+1,1,F⟩ (dq M)).heap[zq w.heap+1]?=H (dr #[.slice ax (ln L) ac,dq M] 70):=bH tb5 1 _;have aE:(w5.setCell ⟨zq w.heap+1,1,F⟩ (dq M)).heap[zq w.heap+1+1]?=H (dr #[.pointer F] 76):=(dE _ _ _ _ bb).trans sb5;have E1:=V (oC a1 0 (.slice ax (ln L) ac) D);have E2:=V (oC a1 1 (dq M) D);have E3:=V (oC aE 0 (.pointer F) D);have q0:=aF a1 0;have q1:=aF a1 1;have q2:=aF aE 0;dsimp at q0 q1 q2;have C:Z [zq w.heap+1] w5 (w5.setCell ⟨zq w.heap+1,1,F⟩ (dq M)):=(Z.refl _ _).setCell (.inl (by simp)) _;have ag:Rd w5 r (QR R X.a X.S) P m:=hrf5.d;have cf:r∉[zq w.heap+1]:=by intro aI;have e:=cC.1 aI;unfold Rd at ag;rw[e,tb5]at ag;simp at ag
     have ah:=hrf5.l [70] (.q C (λk o _=>by have e:=cC.1 o;subst e;exact⟨⟨_,_,_,tb5,by simp⟩,by omega⟩)) (by decide) (by decide) (ag.kept C cf) (gq) [] (mY _ _ _ _) (eZ _) X.E (λ_ g K=>by simp[dl]at K) (λg K=>by simp[dl]at K)
     have HF:Hid (JI w (ff (.tuple #[.agg #[.slice ax (ln L) ac,dq M],.pointer F])) (w5.setCell ⟨zq w.heap+1,1,F⟩ (dq M)) OF):=by rw[EO.out];refine V ⟨_,M,_,b6,D,au,ah,?_,by have:=U.len;omega,kw5.setCell (.inr (by simp)) _⟩;refine gM (C.ownsRow ow5 (λq hq=>?_)) U.A.1;intro aI;have e:=cC.1 aI;subst e;rcases ow5.2 with⟨e2,_⟩|⟨q,af,aM,e2,_,Y,_⟩;rw[e2]at hq;cases hq;rw[e2]at hq;have e3:=jS hq;subst e3;rw[tb5]at Y;simp at Y
     go_wp2;rw[E1.out,E2.out,E3.out];refine leaves_cons (f:=45) (args:=#[dq (zq w.heap+1),dq (zq w.heap+1+1)]) (by simp) (by simp[go_sem]) ?_;refine(Um ⟨zq w.heap+1,0,F⟩ ⟨zq w.heap+1+1,0,F⟩ _).mono ?_;rintro e u' bA⟨rfl,rfl,rfl⟩;simp[Go.Leaves,settle,results,results32,go_sem,q0,q1,q2];exact an _ _ HF
    .have ca:=cb aQ;have CK:=V ak;have bh:=z;rw[di aQ]at bh;have cv:((sP k:Int)==0)=I:=beq_eq_false_iff_ne.2 (by omega);have bE:ln L<=1024:=by have:=U.len;have:=U.le;omega
     clear ak;have c9:=b5.dX;have co:=b5.nil;have CY:=So (fF s P:Int) (fF s m:Int) w4;have aW:zq w2.heap<=zq w4.heap:=gR U.A.2 (gR bk y.size);have HX:=V (cG bo (cG b7 (cG cm (cG aa (cG aj (cG bd (cG aR (cG az (cG ar aW)))))))));go_wp21;refine CK.mono ?_;rintro e w5⟨rfl,rfl⟩;go_wp21;refine CY.mono ?_;rintro e w6⟨rfl,C⟩;have⟨hat5,hA5,lk5,tb5,sb5,ow5,kw5,hrf5,au,big5⟩:=HX;have a1:=C.at tb5 (by simp);have a0:=C.ownsRow ow5 (λ_ _=>by simp);have⟨ax,ac,hv⟩:=df a0;subst hv;have c6:=aF a1 0;dsimp at c6;have CA:=Sb w2.heap.size _ L ⟨(sP k:Int),fF s P,fF s m⟩ w6 a0 (gR big5 C.size) (by omega);have HP:=V (cG (hat5.kept (C.mono (by simp))) (cG (C.at hA5 (by simp)) (cG ((C.block b (kQ E.lt big5) (by simp)).trans lk5) (cG a1 (cG (C.at sb5 (by simp)) (cG a0 (cG (kw5.trans C) (cG (hrf5.h C) (cG au (gR big5 C.size))))))))));go_wp21;refine CA.mono ?_;rintro e w7⟨v7,rfl,be,a3⟩;have⟨hat6,hA6,lk6,a1,aE,a0,kw6,ah,hfl6,big6⟩:=HP;have ne:∀{k:Nat} {c:io} {t:TypeId},w6.heap[k]?=H (dr c t)->t≠75->k∉(Value.slice ax (ln L) ac).ownBlock.toList:=by intro k c t o ht aI;rcases a0.2 with⟨e2,_⟩|⟨q,af,aM,e2,_,Y,_⟩;rw[e2]at aI;simp[dl]at aI;rw[e2]at aI;simp[dl]at aI;subst aI;rw[o]at Y;simp at Y;exact ht Y.2
     have b3:=ah.d;have cn:w7.heap[b]?=w2.heap[b]?:=(KT.map (bs:=zq w.heap) (T:=[75]) (.q a3 (λk o _=>by obtain⟨c,m,Y⟩:=rG a0 (by simpa using o);exact⟨⟨_,_,_,Y,by simp⟩,by have h7:=(a0.lt k (by simpa using o)).1;have h8:=U.A.1;omega⟩)) lk6 E).trans lk6
     have aK:=a3.at a1 (ne a1 (by decide));have bz:=a3.at aE (ne aE (by decide));have ap:=a3.at hA6 (ne hA6 (by decide));have ay:Rd w7 r (QR R X.a X.S) P m:=a3.at b3 (ne b3 (by decide));have aq:Pj w7 r R g A (fF s):=⟨hat6.B,hat6.ne,fp ap,λi hi=>by rw[aF ap,<-aF hA6];exact hat6.at_ i hi⟩;have cl:Z [] w w7:=kw6.next a3 (λx hx=> .inr (by have h7:=(a0.lt x (by simpa using hx)).1;have h8:=U.A.1;omega));have bu:=ah.l [75] (.q a3 (λk o _=>by obtain⟨c,m,Y⟩:=rG a0 (by simpa using o);exact⟨⟨_,_,_,Y,by simp⟩,by have h7:=(a0.lt k (by simpa using o)).1;have h8:=U.A.1;omega⟩)) (by decide) (by decide) ay (gq) [] (mY _ _ _ _) (eZ _) X.E (λ_ g K=>by simp[dl]at K) (λg K=>by simp[dl]at K)
     have⟨a7,p7,hv7⟩:=df be;subst hv7;have c7:=aF aK 0;have f7:=cY aK 0;dsimp at c7;have ad:Z [zq w.heap+1] w7 (w7.setCell ⟨zq w.heap+1,0,F⟩ (.slice a7 (ln (tu L ⟨(sP k:Int),fF s P,fF s m⟩)) p7)):=(Z.refl _ _).setCell (.inl (by simp)) _;have aT:∀{k:Nat} {c:io} {t:TypeId},w7.heap[k]?=H (dr c t)->t≠70->k∉[zq w.heap+1]:=by intro k c t o ht aI;have e:=cC.1 aI;subst e;rw[aK]at o;simp at o;exact ht o.2.symm
     have b4:Rd (w7.setCell ⟨zq w.heap+1,0,F⟩ (.slice a7 (ln (tu L ⟨(sP k:Int),fF s P,fF s m⟩)) p7)) r (QR R X.a X.S) P m:=ad.at ay (aT ay (by decide));have bv:=bu.l [70] (.q ad (λk o _=>by have e:=cC.1 o;subst e;exact⟨⟨_,_,_,aK,by simp⟩,by omega⟩)) (by decide) (by decide) b4 (gq) [] (mY _ _ _ _) (eZ _) X.E (λ_ g K=>by simp[dl]at K) (λg K=>by simp[dl]at K)
     have b8:=ad.at ap (aT ap (by decide));have HE:Hid (F4 w bm bB M r b Co R g A (fF s) w2.heap.size w2 m P X (.slice a7 (ln (tu L ⟨(sP k:Int),fF s P,fF s m⟩)) p7) (tu L ⟨(sP k:Int),fF s P,fF s m⟩) (w7.setCell ⟨zq w.heap+1,0,F⟩ (.slice a7 (ln (tu L ⟨(sP k:Int),fF s P,fF s m⟩)) p7))):=V
      {rel:=⟨b6,_,_,_,hfl6,bv⟩
       lk:=by
        rw[ad.block b (kQ E.out.lt (gR big6 a3.size)) (by intro aI;have e:=cC.1 aI;omega)]
        exact cn
       bY:=⟨aq.B,aq.ne,fp b8,λi hi=>by rw[aF b8,<-aF ap];exact aq.at_ i hi⟩
       K:=⟨_,b8⟩
       a:=bH aK 0 _
       E:=ad.at bz (aT bz (by decide))
       own:=ad.ownsRow be (λq hq=>by rcases be.2 with⟨e2,_⟩|⟨q',af,aM,e2,_,Y,_⟩;rw[e2]at hq;cases hq;rw[e2]at hq;have e3:=jS hq;subst e3;exact aT Y (by decide))
       kept:=cl.setCell (.inr (by simp)) _
       le:=ca.2
       pos:=bc
       len:=by have h8:=aac L ⟨(sP k:Int),fF s P,fF s m⟩;have h9:=U.len;omega
       A:=⟨U.A.1,gR (gR big6 a3.size) ad.size⟩
       B:=U.B}
     have P8:=b4.ps;have ba:R.A.size-m<R.A.size-P:=by omega
     generalize hlq:ln (tu L ⟨(sP k:Int),fF s P,fF s m⟩)=cr at *;go_wp2;go_roundw
     case rel=>exact⟨n,m,P,X,_,_,HE,bh,by omega⟩
     case measure=>rw[P8,P0];simpa [intOf]using ba
def BM(W:N):Prop:=6<=W.g\/W.g=5/\6<=W.kept
def En(r:pj Unit):Prop:=∀u U,r=.ok u U->BM U
theorem D8{b:Type}{m:M b}{f:b->M Unit}(h:∀a σ1,m W=.ok a σ1->En (f a σ1)):En ((m>>=f) W):=by
 intro u U e;rw[M.cW]at e;cases hm:m W with
 |ok a σ1=>rw[hm]at e;exact h a σ1 hm u U e
 |stop c p=>grind
 |stuck=>grind
def yO{m:M Unit}(h:En (m W)):En ((m>>=λ_=>(aG ():M Unit)) W):=D8 λa σ1 e u U g=>by cases g;exact h _ _ e
theorem vW{c e:Type}{m:M c}{f:c->M e}{b:e}(h:(m>>=f) W=.ok b U):∃a σ1,m W=.ok a σ1/\f a σ1=.ok b U:=by grind[M.cW]
def RB.e{r:pj Unit}(h:RB c W r):En r:=by rintro u U rfl;rcases h.2.1.sh with e|⟨e,g,_⟩|⟨e,_⟩;exact .inl (DP e);exact .inr ⟨e,DP g⟩;exact .inl (by omega)
section
variable {a b n:Nat}{bY:iB}{W:N}
def en6(g:W.g=6):En (dx I (n+1) 6 ⟨a,b,.dZ,bY⟩ W):=by intro u U e;cases e;exact .inl (by omega)
theorem en4:En (dx I (n+2) 4 ⟨a,b,.dZ,bY⟩ W):=by exact D8 λ_ σ1 _=>yO (m:=jg (dx _ (n+1)) ⟨a,b,.dZ,bY⟩) (W:={σ1 with g:=6}) (en6 D)
theorem en3:En (dx I (n+3) 3 ⟨a,b,.dZ,bY⟩ W):=by exact yO en4
theorem en2:En (dx I (n+4) 2 ⟨a,b,.dZ,bY⟩ W):=by refine D8 λ_ σ1 h=>yO ?_;obtain⟨_,_,_,h⟩:=vW h;obtain⟨_,_,_,h⟩:=vW h;obtain⟨_,X,_,h⟩:=vW h;cases h;exact en3
theorem en1:En (dx I (n+5) 1 ⟨a,b,.dZ,bY⟩ W):=by refine D8 λ_ σ1 h=>yO ?_;obtain⟨_,_,_,h⟩:=vW h;obtain⟨_,_,_,h⟩:=vW h;obtain⟨_,_,_,h⟩:=vW h;obtain⟨_,X,_,h⟩:=vW h;cases h;exact en2
theorem en0:En (dx I (n+6) 0 ⟨a,b,.dZ,bY⟩ W):=by exact yO en1
theorem VJ(E:4*64+8<=n)(z:vS ⟨a,b,.dZ,bY⟩)(o:kV W)(y:HS W.g W.A W.head)(P:wt W<995000)(j:ln W.L<4000):En (dx I (n+6) W.g ⟨a,b,.dZ,bY⟩ W):=by
 rcases y with⟨g,_⟩|⟨g,_⟩|⟨g,_⟩|⟨g,_⟩|⟨g,u⟩;rcases qp W.g 1 with v|v;grind[en0];have e:W.g=1:=by omega
 grind[en1];grind[en2];grind[en3];grind[en4];exact(JH 64 _ (by omega) _ W ⟨z,⟨o,u,g⟩,(λh=>by cases h),by omega,j,(by obtain⟨r,q⟩:=o;exact gR q.P q.L)⟩).e
theorem ajz(y:vS ⟨a,b,.dZ,bY⟩)(g:uU W)(hw:BA W<990000)(q:ln W.L<4000):En (dx I sL W.g ⟨a,b,.dZ,bY⟩ W):=by
 have a0:wt W<990000:=by unfold BA at hw;omega
 rcases g.d.1 with h|⟨j,v,o,aJ⟩|⟨j,v,o⟩;grind[VJ,uU.A];rw[j];obtain⟨c,_⟩:=Ge g.A o;exact yO (VJ (by omega) y (c.q D D D D D D D) aJ (by show wt W<_;omega) q)
 .rw[j];show En (kA (dx C 299) (dx I 299) ⟨a,b,.dZ,bY⟩ W);unfold kA;have k:=BI (n:=298) g.A o g.E (by grind[BA]);refine D8 λu σ1 e=>?_;rw[e]at k;obtain⟨z,S,a3,U,d,f,i,l,m,E,P⟩:=k;have hb:pz σ1.kept=C:=by rw[U];rcases v with e|e|e<;>(rw[e];rfl)
  exact yO (VJ (n:=293) (by omega) y (z.q D D D D D D D) (.inr (.inr (.inr (.inr ⟨hb,S⟩)))) (by show wt σ1<_;grind[BA]) (by grind))
def acm(q:vS ⟨a,b,.dZ,bY⟩)(g:uU W)(o:BA W<990000)(j:ln W.L<4000):En (nW (dx I sL) ⟨a,b,.dZ,bY⟩ W):=by show En (if W.P&&fG _ _ then pj.ok () _ else jg _ _ _);have e:fG (dj.d ⟨a,b,.dZ,bY⟩) AW=I:=(by decide+kernel:fG (⟨#[]⟩) _=I);rw[e,Bool.and_false];exact ajz q ⟨g.A.q D D D D D D D,g.d,g.E⟩ o j
end
def OA(R:RC)(W:N)(P:Nat)(t:dj):Mz (pD R W P t) t:=by intro h;have⟨a,b,k,bY⟩:=t;cases k<;>first|rfl|cases h
def CJ(g:uU W)(R:RC)(P:Nat)(t:dj):uU (pD R W P t):=⟨g.A.q D D D D D D D,g.d,g.E⟩
def air(R:RC)(a:Nat->Nat)(P:Nat)(W:N):J2->Prop
 | .stuck=>False
 | .stop _ p=>∃q,P<=q/\q<=R.A.size/\p=a q
 | .done U _=>uU U/\BA U<=BA W+580*(R.A.size+1-P)/\U.Q=W.Q/\U.R=W.R/\U.T=W.T/\BM U/\∀i s,fa W i s->fa U i s
def O6{k:DK}(g:IM o)(j:R.A.size<=1024)(a:P<=R.A.size)(e:eA R o lg P=.tok k m):Z6 k/\(sP k≠0->P<m/\m<=R.A.size):=by
 rcases qp P R.A.size with h|h;have:=(Lc (R:=R) (lg:=lg) g j h).1;rw[e]at this;exact⟨this.2.2.2.2,λ_=>⟨this.1,this.2.1⟩⟩;obtain rfl:P=R.A.size:=by omega
 rw[TV]at e;obtain⟨rfl,_⟩:=zG.tok.inj e;exact⟨trivial,λh=>absurd D h⟩
def OH{l:Nat->Nat}(hk:IM o)(F:R.A.size<=1024):∀(n P:Nat)(W:N)(L:List Sp),P<=R.A.size->R.A.size-P<n->uU W->BA W+580*(R.A.size+1-P)<990000->ln W.L+(R.A.size+1-P)<4000->air R l P W (kq R o lg l n P W L):=by
 intro n
 induction n with
 |zero=>intro P W L b B;omega
 |succ n ih=>
  intro P W L b B g aI hw;rw[kq];cases hT:eA (QR R W.a W.S) o lg P with
  |stop=>exact⟨P,dF _,b,D⟩
  |tok k m=>
   dsimp only;obtain⟨j,v⟩:Z6 k/\(sP k≠0->P<m/\m<=R.A.size):=O6 (R:=QR R W.a W.S) hk F b hT;have C:=Zz (iX (l P) (l m) k) (j.tok _ _) (CJ g R P (iX (l P) (l m) k)) (OA R W P _) (by show BA W<_;omega) (by show ln W.L<_;omega);have ha:(iX (l P) (l m) k).a=l P:=by cases k<;>rfl
   revert C;cases hT1:nW (dx I sL) (iX (l P) (l m) k) (pD R W P (iX (l P) (l m) k))with
   |stuck=>exact λh=>h.elim
   |stop c p=>
    intro h;refine⟨P,dF _,b,?_⟩;rw[<-ha];exact h
   |ok u X=>
    rintro⟨z,E,f,S,d,r,a⟩;have aJ:ln X.L<=ln W.L+1:=d;have a0:BA X<=BA W+580:=r;dsimp only;split;rename_i A;refine⟨z,by omega,E,f,S,?_,a⟩;cases k with
    |Mw=>exact acm ((j.tok _ _).resolve_left (by intro e;cases e)) (CJ g R P _) (by show BA W<_;omega) (by show ln W.L<_;omega) _ _ hT1
    |_=>cases A
    .rename_i y;obtain⟨M,G⟩:=v y;have h3:=ih m X (tu L ⟨(sP k:Int),l P,l m⟩) G (by omega) z (by omega) (by omega);revert h3;cases kq R o lg l n m X (tu L ⟨(sP k:Int),l P,l m⟩)with
     |stuck=>exact λh=>h
     |stop c p=>rintro⟨q,O,H,J⟩;exact⟨q,by omega,H,J⟩
     |done U L'=>rintro⟨b1,b2,b3,b4,t,w,x⟩;exact⟨b1,by omega,b3.trans E,b4.trans f,t.trans S,w,λi s q=>x i s (a i s q)⟩
theorem DI{l:Nat}{e:mh}(h:(S0 d f l a).h i=H e):e.E=F/\e.q=[]:=by grind[Tb]
theorem X0{l:Nat}(g:d<=64)(y:f<=32):uU (S0 d f l a):=⟨(⟨λ_=>0,{
  E:=⟨λi e p h P=>(by grind[DI]),λi e j h q=>(by rw[(DI h).2]at q;cases q),λi e h=>(by rw[(DI h).2];simp[eX]),λi e h k u=>(by rw[(DI h).2]at u;cases u)⟩
  K:=⟨λi e p h P=>(by grind[DI]),List.Pairwise.nil,λd h z=>by cases z⟩
  A:=λx o=>by cases o
  B:=λi E=>by cases E
  head:=λd g=>by cases g
  j:=λd g=>by cases g
  S:=λx v h=>by cases h
  P:=eZ _
  n:=eZ _
  L:=g
  Q:=y
  u:=rfl}⟩),⟨.inl (.inl ⟨eZ _,D,D⟩),BH.low (eZ _)⟩,λx o=>by cases o⟩
def VB{l:Nat}:BA (S0 d f l a)<=1000:=by show([ke _].sum+200*0<=1000);decide
def sw(R:RC)(av mv:dB)(lg a:Int):RC:={R with B:=av,d:=mv,lg:=lg,at_:=a}
def Yk(R:RC)(av mv:dB)(lg a:Int):∀(n i:Nat),R.A.size-i<=n->qZ (sw R av mv lg a) i=qZ R i
 |0,i,h=>by rw[qZ.eq_1 _ i,qZ.eq_1 R i,di (by show ¬i<R.A.size;omega),di (by omega)]
 |n+1,i,h=>by rw[qZ.eq_1 _ i,qZ.eq_1 R i];show(if i<R.A.size then (if pre (R.A.extract i R.A.size) e1=C then i+3 else if pre (R.A.extract i R.A.size) e2=C then i+4 else qZ _ _)else i)=_;split;rw[Yk R av mv lg a n _ (by omega)];rfl
def SE(R:RC)(av mv:dB)(lg at_:Int)(a:Nat):∀(n i:Nat),R.A.size-i<=n->kK (sw R av mv lg at_) a i=kK R a i
 |0,i,h=>by rw[kK.eq_1 _ a i,kK.eq_1 R a i,di (by show ¬i<R.A.size;omega),di (by omega)];rfl
 |n+1,i,h=>by rw[kK.eq_1 _ a i,kK.eq_1 R a i];show(if i<R.A.size then (if pre (R.A.extract i R.A.size) e1=C then R.A.extract a i else if pre (R.A.extract i R.A.size) e2=C then R.A.extract a i else kK _ a _)else wu _)=_;split;rw[SE R av mv lg at_ a n _ (by omega)];rfl
section
variable (R:RC)(av mv:dB)(l2 a:Int)(ha:R.at_<=a)(o:O->Option O)(lg:Nat)
include ha
theorem ahk(e:List O)(P:Nat)(h:pE R e P=I):pE (sw R av mv l2 a) e P=I:=by
 cases hq:pE _ e P with
 |false=>rfl
 |true=>
  have g:(!IZ e (sF R P)&&!decide (fU R P=R.A.size)&&decide (a<=(ln e)))=C:=hq;grind[pE]
theorem UU:∀(n:Nat)(L:iB)(i:Nat),R.A.size-i<=n->a=R.at_\/gQ R o lg L i≠ .stop->gQ (sw R av mv l2 a) o lg L i=gQ R o lg L i
 |0,L,i,h,_=>by have j:=pc (R:=R) (K:=i);rw[gQ.eq_1 (sw R av mv l2 a) o lg L i,gQ.eq_1 R o lg L i,dif_neg (by show ¬dY R i<R.A.size;omega),dif_neg (by omega)]
 |n+1,L,i,h,hh=>by
  have j:=pc (R:=R) (K:=i);rw[gQ.eq_1 R o lg L i]at hh;rw[gQ.eq_1 (sw R av mv l2 a) o lg L i,gQ.eq_1 R o lg L i];by_cases g:dY R i<R.A.size
  .rw[ug g]at hh;rw[ug (show dY (sw R av mv l2 a) i<(sw R av mv l2 a).A.size from g),ug g];have q:=rR (R:=R) (K:=dY R i);have u:=vL (R:=R) (K:=fU R (dY R i));have e:=UU n (oI R o lg L (dY R i)) (mP R (fU R (dY R i))) (by omega);show(if pre (R.A.extract (dY R i) R.A.size) eV=C then Pq.whole (dY R i+1) L else if pE (sw R av mv l2 a) (L.map (·.1)) (dY R i)=C then .stop else gQ (sw R av mv l2 a) o lg (oI R o lg L (dY R i)) (mP R (fU R (dY R i))))=_;by_cases b:pre (R.A.extract (dY R i) R.A.size) eV=C;grind;rw[di b]at hh;cases ht:pE R (L.map (·.1)) (dY R i)with
   |false=>
    grind[ahk]
   |true=>
    rw[ht]at hh;obtain rfl:=hh.resolve_right λh=>h D;rw[show pE (sw R av mv l2 R.at_) (L.map (·.1)) (dY R i)=C from ht];rfl
  grind[dY,sw]
def afm(g:O->iB->DK)(nm:O)(P:Nat)(h:a=R.at_\/qT R g nm (gQ R o lg [] P)≠ .stop):qT (sw R av mv l2 a) g nm (gQ (sw R av mv l2 a) o lg [] P)=qT R g nm (gQ R o lg [] P):=by rw[UU R av mv l2 a ha o lg _ [] _ (dF _) (h.imp id λh e=>h (by rw[e];rfl))];cases gQ R o lg [] P<;>rfl
theorem ae5(b P:Nat)(h:a=R.at_\/jr R o lg b P≠ .stop):jr (sw R av mv l2 a) o lg b P=jr R o lg b P:=by unfold jr at h|-;show(if sO R P=C then _ else _)=_;split;rename_i e;rw[dw e]at h;exact afm R av mv l2 a ha o lg .fin _ _ h;rfl
omit ha
def aas(P:Nat):kh (sw R av mv l2 a) P=kh R P:=by unfold kh;rw[Yk R av mv l2 a _ P (dF _)];rfl
def Wc(P:Nat):jY (sw R av mv l2 a) P=jY R P:=by unfold jY;rw[SE R av mv l2 a _ _ P (dF _)];rfl
include ha
theorem ahi(b P:Nat)(h:a=R.at_\/j7 R o lg b P≠ .stop):j7 (sw R av mv l2 a) o lg b P=j7 R o lg b P:=by unfold j7 at h|-;rw[aas,Wc];show(if sO R P=C then _ else if pre (R.A.extract P R.A.size) ⟨#[47]⟩=C then _ else _)=_;split;rename_i e;rw[dw e]at h;exact afm R av mv l2 a ha o lg .Q4 (xn R P) _ h;split;grind[ae5];rfl
def aho(P:Nat)(h:a=R.at_\/eA R o lg P≠ .stop):eA (sw R av mv l2 a) o lg P=eA R o lg P:=by unfold eA at h|-;show(if P=R.A.size then _ else if ((pJ R P).a.toList==[])=C then (if pre (R.A.extract P R.A.size) oY=C then _ else _)else _)=_;split;rfl;rename_i e;rw[di e]at h;split;rename_i g;rw[dw g]at h;split;rename_i j;rw[dw j]at h;exact ahi (pJ R P) av mv l2 a ha o lg P _ h;rfl;rfl
end
theorem aeV(R:RC)(av mv:dB)(b a:Int)(W:N)(P:Nat)(t:dj):pD (sw R av mv b a) W P t=pD R W P t:=by unfold pD qK;by_cases h:P=R.A.size;grind[QR,sw];rw[di (show ¬P=(QR (sw R av mv b a) _ _).A.size from h),di (show ¬P=(QR R W.a _).A.size from h)];rfl
def OI(R:RC)(av mv:dB)(b:Int)(o:O->Option O)(lg:Nat)(a:Nat->Nat):∀(n P:Nat)(W:N)(L:List Sp),kq (sw R av mv b R.at_) o lg a n P W L=kq R o lg a n P W L
 |0,_,_,_=>rfl
 |n+1,P,W,L=>by
  rw[kq,kq];have e:QR (sw R av mv b _) W.a W.S=sw (QR R _ _) av mv b R.at_:=rfl;rw[e,aho (QR R W.a _) av mv b R.at_ (Int.le_refl _) o lg P (.inl D)];cases eA _ o lg P with
  |stop=>rfl
  |tok k m=>
   dsimp only;rw[aeV];cases nW _ _ _ with
   |stuck=>rfl
   |stop c p=>rfl
   |ok u X=>
    dsimp only;rw[OI R av mv b o lg a n m X]
def pw(d f l:Nat)(s:O):J2:=kq (vq s l .nilFunc 0) (fh KV) 8 (fF s) ((pq s).size+1) 0 (S0 d f l 0) []
theorem OJ(d f l:Nat)(s:O)(av:dB)(b:Nat):kq (vq s l av b) (fh KV) 8 (fF s) ((pq s).size+1) 0 (S0 d f l 0) []=pw d f l s:=
 OI (vq s l _ 0) av _ 8 _ 8 _ _ _ _ _
theorem Ji(s:O):(pq s).size<=s.size:=by grind[vz,Je]
theorem Aq:∀x t,fh KV x=H t->t.size<=16:=by grind[eM,R8,fh]
theorem sn(d f l:Nat)(s:O)(q:s.size<=1024)(e:d<=64)(g:f<=32):air (vq s l .nilFunc 0) (fF s) 0 (S0 d f l 0) (pw d f l s):=by have j:=Ji s;have o:=VB (d:=d) (f:=f) (l:=l) (a:=0);refine OH Aq (by grind[vq]) _ _ _ _ (eZ _) ?_ (X0 e g) ?_ ?_;simp[vq];show BA _+580*((pq s).size+1-0)<990000;omega;show 0+((pq s).size+1-0)<4000;omega
theorem ON(s:O)(j:dB)(Q d f l:Nat)(w:J)(z:w.ownsRow Q 5 1 j s.size (ji s))(u:s.size<=1024)(o:d<=64)(q:f<=32)(y:l<=16)(v:Pp w)(g:RP w):dS 32 #[j,.agg #[G d,G f,G l]] w λe aJ=>JI w e aJ (pw d f l s):=by
 refine(aeI s j Q d f l w z u o q y v g (λav b h=>?_)).mono ?_;rw[OJ]at h;have:=sn d f l s u o q
 rwa [h]at this
 grind[OJ]
section
variable (R:RC)(cut:Nat->Nat)
def Gp(P:Nat)(W:N)(a:Nat)(Q:N->Prop):Prop:=∀k L,R.A.size-P<k->kq R (fh KV) 8 cut k P W L≠ .stuck->(∃p,kq R (fh KV) 8 cut k P W L=.stop 5 p)\/∃U e g,Q U/\R.A.size-a<e/\kq R (fh KV) 8 cut k P W L=kq R (fh KV) 8 cut e a U g
variable {R cut}
theorem Gp.refl{P:Nat}{W:N}{Q:N->Prop}(h:Q W):Gp R cut P W P Q:=λk L e _=> .inr ⟨W,k,L,h,e,D⟩
theorem Gp.trans{P a g:Nat}{W:N}{Q b:N->Prop}(h:Gp R cut P W a Q)(u:∀U,Q U->Gp R cut a U g b):Gp R cut P W g b:=by intro k L y o;rcases h k L y o with v|⟨U,E,q,z,j,e⟩;exact .inl v;rw[e]at o|-;exact u U z E q j o
theorem Gp.mono{P a:Nat}{W:N}{Q b:N->Prop}(h:Gp R cut P W a Q)(g:∀U,Q U->b U):Gp R cut P W a b:=h.trans λU e=>Gp.refl (g U e)
def Ns{b:Type}(m:M b)(W:N)(Q:b->N->Prop):Prop:=m W≠ .stuck->(∃p,m W=.stop 5 p)\/∃a U,m W=.ok a U/\Q a U
theorem Ns.bind{b j:Type}{m:M b}{f:b->M j}{W:N}{Q:b->N->Prop}{c:j->N->Prop}(h:Ns m W Q)(o:∀a U,Q a U->Ns (f a) U c):Ns (m>>=f) W c:=by intro g;rw[M.cW]at g|-;rcases(h (λe=>g (by rw[e])))with⟨p,e⟩|⟨a,U,e,q⟩;grind;rw[e]at g|-;exact o a U q g
theorem Ns.ok{b:Type}{m:M b}{W U:N}{a:b}{Q:b->N->Prop}(h:m W=.ok a U)(e:Q a U):Ns m W Q:=λ_=> .inr ⟨a,U,h,e⟩
theorem Ns.eq{b:Type}{m a:M b}{W:N}{Q:b->N->Prop}(h:m W=a W)(e:Ns a W Q):Ns m W Q:=by unfold Ns at e|-;grind
theorem Ns.pure{b:Type}{a:b}{W:N}{Q:b->N->Prop}(h:Q a W):Ns (aG a:M b) W Q:=Ns.ok D h
theorem Ns.mono{c:Type}{m:M c}{W:N}{Q b:c->N->Prop}(h:Ns m W Q)(j:∀a U,Q a U->b a U):Ns m W b:=λo=>(h o).imp id λ⟨a,U,e,g⟩=>⟨a,U,e,j a U g⟩
abbrev fV(W:N)(t:dj):N:={W with P:=I,K:=t.a}
def T5(t:dj)(W:N)(Q:N->Prop):Prop:=W.P=I/\∀n,4<=n->Ns (dx I n W.g t) (fV W t) λ_=>Q
def W5(t:dj)(W:N)(Q:N->Prop):Prop:=W.P=I/\∀n,5<=n->Ns (dx I n W.g t) (fV W t) λ_=>Q
theorem T5.mono{t:dj}{W:N}{Q a:N->Prop}(h:T5 t W Q)(g:∀U,Q U->a U):T5 t W a:=⟨h.1,λn e=>Ns.mono (h.2 n e) λ_=>g⟩
def T5.e{t:dj}{W:N}{Q a:N->Prop}(h:T5 t W Q)(e:∀U,Q U->a U):W5 t W a:=⟨h.1,λn g=>Ns.mono (h.2 n (by omega)) λ_=>e⟩
theorem Rk{W:N}{t:dj}(e:W.P=I)(g:t.k≠ .ic):nW (dx I sL) t W=dx I sL W.g t (fV W t):=by
 let ⟨a,b,k,bY⟩:=t
 cases k with
 |ic=>grind
 |_=>
  unfold nW;dsimp only;rw[e];rfl
theorem Gp.step{P m:Nat}{W:N}{Q:N->Prop}{k:DK}(o:eA (QR R W.a W.S) (fh KV) 8 P=.tok k m)(u:sP k≠0)(q:(iX (cut P) (cut m) k).k≠ .ic)(v:P<m/\m<=R.A.size)(j:W5 (iX (cut P) (cut m) k) (pD R W P (iX (cut P) (cut m) k)) Q):Gp R cut P W m Q:=by
 intro n L y g;cases n with
 |zero=>omega
 |succ n=>
  rw[kq,o]at g|-;dsimp at g|-;rw[Rk j.1 q]at g|-;rcases j.2 sL (by decide) (λe=>g (by rw[e]))with⟨p,e⟩|⟨a,U,e,z⟩
  all_goals grind
end
def BV:Tn:=.tx ⟨#[]⟩
def wH(W:N):Nat->Nd->Tn
 |0,_=>BV
 |k+1,.el i=>match W.h i with
  |some e=> .el e.name e.A (e.q.map (wH W k))
  |none=>BV
 |_+1,.tx i=>match W.d[i]? with
  |some (.tx s)=> .tx s
  |_=>BV
 |_+1,.cm i=>match W.d[i]? with
  |some (.cm s)=> .cm s
  |_=>BV
 |_+1,.dt i=>match W.d[i]? with
  |some (.dt s)=> .dt s
  |_=>BV
theorem TF(g:Nd->Tn)(f:Nd->Nd):∀ks:List Nd,(∀k∈ks,ik w (g k) (f k))->sC w (ks.map g) (ks.map f)
 |[],_=>by simp[sC]
 |k::ks,h=>by exact⟨by grind,TF g f ks (λx e=>h x (gS _ e))⟩
theorem YH{E:fS}{L:pi}(h:fk E L W w){r:Nat->Nat}(o:fg r W){B:Nat}(u:∀i,i<ln W.d->r i<=B):∀(k:Nat)(g:Nd),W.q g=C->(∀i,g=.el i->B-r i+1<k)->1<=k->ik w (wH W k g) (Nd.map L.K g)
 |0,_,_,_,h1=>absurd h1 (by omega)
 |k+1,.el i,hk,hi,_=>by
  have⟨e,he⟩:=Option.isSome_iff_exists.1 (hk);have⟨a1,a2,a3⟩:=h.B i _ (N.eH he);have z:=hi i D;show ik w (match W.h i with|some e=> .el e.name e.A _|none=>BV) _
  rw[he];simp;refine⟨_,_,_,_,⟨a1.dP,gM a1.row (eZ _),a1.le,a1.A⟩,a2,a3,(TF (wH W k) (Nd.map L.K) e.q ?_)⟩;intro x q;refine YH h o u k x (o.E.g i e he x q) ?_ (by omega);intro j v;subst v;have⟨ej,g1,g2⟩:=o.E.q i e j he (o9.2 q);have y:=o.K.E j ej i g1 g2;grind[N.n]
 |k+1,.tx i,hk,_,_=>by
  unfold N.q at hk;show ik w (match W.d[i]? with|some (.tx s)=> .tx s|_=>BV) _
  cases hq:W.d[i]? with
  |none=>grind
  |some g=>
   cases g with
   |tx s=>exact h.B i _ hq
   |el e=>grind
   |cm s=>grind
   |dt s=>grind
 |k+1,.cm i,hk,_,_=>by
  unfold N.q at hk;show ik w (match W.d[i]? with|some (.cm s)=> .cm s|_=>BV) _
  cases hq:W.d[i]? with
  |none=>grind
  |some g=>
   cases g with
   |cm s=>exact h.B i _ hq
   |el e=>grind
   |tx s=>grind
   |dt s=>grind
 |k+1,.dt i,hk,_,_=>by
  unfold N.q at hk;show ik w (match W.d[i]? with|some (.dt s)=> .dt s|_=>BV) _
  cases hq:W.d[i]? with
  |none=>grind
  |some g=>
   cases g with
   |dt s=>exact h.B i _ hq
   |el e=>grind
   |tx s=>grind
   |cm s=>grind
mutual
def XZ(W:N)(lo n:Nat):Tn->Nd->Prop
 | .el nm bY ks,.el i=>i<n/\lo<=i/\∃e,W.d[i]?=H (.el e)/\e.name=nm/\e.A=bY/\qW W lo n ks e.q
 | .tx s,.tx i=>i<n/\lo<=i/\W.d[i]?=H (.tx s)
 | .cm s,.cm i=>i<n/\lo<=i/\W.d[i]?=H (.cm s)
 | .dt s,.dt i=>i<n/\lo<=i/\W.d[i]?=H (.dt s)
 |_,_=>False
def qW(W:N)(lo n:Nat):List Tn->List Nd->Prop
 |[],[]=>True
 |t::ts,k::ks=>XZ W lo n t k/\qW W lo n ts ks
 |_,_=>False
end
mutual
theorem XZ.q{j o:Nat}(g:∀i,i<n->lo<=i->i<o/\j<=i/\U.d[i]?=W.d[i]?):∀(t:Tn)(q:Nd),XZ W lo n t q->XZ U j o t q
 | .el nm bY ks,.el i,h=>by obtain⟨u,v,e,y,z,E,P⟩:=h;obtain⟨a,b,c⟩:=g i u v;exact⟨a,b,e,c.trans y,z,E,qW.q g ks e.q P⟩
 | .tx s,.tx i,h=>by obtain⟨a,b,c⟩:=g i h.1 h.2.1;exact⟨a,b,c.trans h.2.2⟩
 | .cm s,.cm i,h=>by obtain⟨a,b,c⟩:=g i h.1 h.2.1;exact⟨a,b,c.trans h.2.2⟩
 | .dt s,.dt i,h=>by obtain⟨a,b,c⟩:=g i h.1 h.2.1;exact⟨a,b,c.trans h.2.2⟩
 | .el _ _ _,.tx _,h=>h.elim
 | .el _ _ _,.cm _,h=>h.elim
 | .el _ _ _,.dt _,h=>h.elim
 | .tx _,.el _,h=>h.elim
 | .tx _,.cm _,h=>h.elim
 | .tx _,.dt _,h=>h.elim
 | .cm _,.el _,h=>h.elim
 | .cm _,.tx _,h=>h.elim
 | .cm _,.dt _,h=>h.elim
 | .dt _,.el _,h=>h.elim
 | .dt _,.tx _,h=>h.elim
 | .dt _,.cm _,h=>h.elim
theorem qW.q{e j:Nat}(g:∀i,i<n->lo<=i->i<j/\e<=i/\U.d[i]?=W.d[i]?):∀(ts:List Tn)(ks:List Nd),qW W lo n ts ks->qW U e j ts ks
 |[],[],_=>trivial
 |t::ts,k::ks,h=>⟨XZ.q g t k h.1,qW.q g ts ks h.2⟩
 |[],_::_,h=>h.elim
 |_::_,[],h=>h.elim
end
def qW.e:∀{ts g:List Tn} {ks e:List Nd},qW W lo n ts ks->qW W lo n g e->qW W lo n (ts++g) (ks++e)
 |[],_,[],_,_,h=>h
 |_::_,_,_::_,_,h,h'=>⟨h.1,qW.e h.2 h'⟩
 |[],_,_::_,_,h,_=>h.elim
 |_::_,_,[],_,h,_=>h.elim
mutual
def ET:Tn->Nat
 | .el _ _ ks=>1+Da ks
 |_=>1
def Da:List Tn->Nat
 |[]=>0
 |t::ts=>max (ET t) (Da ts)
end
mutual
theorem XZ.tn:∀(t:Tn)(g:Nd)(k:Nat),XZ W lo n t g->ET t<=k->wH W k g=t
 | .el nm bY ks,.el i,0,_,hk=>by simp[ET]at hk
 | .el nm bY ks,.el i,k+1,h,hk=>by
  obtain⟨_,_,e,j,rfl,rfl,o⟩:=h;show(match W.h i with|some e=>Tn.el e.name e.A (e.q.map (wH W k))|none=>BV)=_
  rw[N.iQ j];show Tn.el e.name e.A (e.q.map (wH W k))=_;rw[qW.tn ks e.q k o (by simp[ET]at hk;omega)]
 | .tx s,.tx i,k,h,hk=>by
  cases k with
  |zero=>simp[ET]at hk
  |succ k=>show(match W.d[i]? with|some (.tx s)=>Tn.tx s|_=>BV)=_;rw[h.2.2]
 | .cm s,.cm i,k,h,hk=>by
  cases k with
  |zero=>simp[ET]at hk
  |succ k=>show(match W.d[i]? with|some (.cm s)=>Tn.cm s|_=>BV)=_;rw[h.2.2]
 | .dt s,.dt i,k,h,hk=>by
  cases k with
  |zero=>simp[ET]at hk
  |succ k=>show(match W.d[i]? with|some (.dt s)=>Tn.dt s|_=>BV)=_;rw[h.2.2]
 | .el _ _ _,.tx _,_,h,_=>h.elim
 | .el _ _ _,.cm _,_,h,_=>h.elim
 | .el _ _ _,.dt _,_,h,_=>h.elim
 | .tx _,.el _,_,h,_=>h.elim
 | .tx _,.cm _,_,h,_=>h.elim
 | .tx _,.dt _,_,h,_=>h.elim
 | .cm _,.el _,_,h,_=>h.elim
 | .cm _,.tx _,_,h,_=>h.elim
 | .cm _,.dt _,_,h,_=>h.elim
 | .dt _,.el _,_,h,_=>h.elim
 | .dt _,.tx _,_,h,_=>h.elim
 | .dt _,.cm _,_,h,_=>h.elim
theorem qW.tn:∀(ts:List Tn)(ks:List Nd)(k:Nat),qW W lo n ts ks->Da ts<=k->ks.map (wH W k)=ts
 |[],[],_,_,_=>rfl
 |t::ts,nd::ks,k,h,hk=>by rw[Fy,XZ.tn t nd k h.1 (by simp[Da]at hk;omega),qW.tn ts ks k h.2 (by simp[Da]at hk;omega)]
 |[],_::_,_,h,_=>h.elim
 |_::_,[],_,h,_=>h.elim
end
structure Sg(σ:N)(OF:List Nat)(c:Nat)(ec:mh):Prop where
 A:σ.A=OF.map H
 K:OF.getLast?=H c
 u:σ.h c=H ec
 B:∀x∈σ.B,x=F
 q:σ.U=I
 pp:∀x∈σ.A,fG (σ.l7 x) jV=I
 E:∀i,H i∈σ.A->∃e,σ.h i=H e
theorem Sg.last(h:Sg W OF c K):W.last=H c:=by obtain⟨e,rfl⟩:=eT.1 h.K;unfold N.last dT;rw[h.A];simp;omega
def Sg.place(h:Sg W OF c K):ja W=.ok (c,ln K.q) W:=by unfold ja iS fM;rw[h.last];simp[h.q,h.u]
theorem Sg.v(h:Sg W OF c K):iF W=.ok () W:=by
 have:ln W.B-W.e=0:=by
  unfold N.e;cases hr:W.B.reverse with
  |nil=>grind[l0]
  |cons x r=>
   have g:=h.B x (by grind[l3]);have e:=mf ln hr;simp at e;subst g;simp[N.iT,N.Qq,e]
 unfold iF;rw[this];rfl
structure ZZ(σ:N)(c:Nat)(ec:mh)(nm:O)(bY:iB)(σ':N):Prop where
 st:σ'={σ with d:=σ'.d,A:=σ.A++[H (ln σ.d)],E:=I}
 le:ln σ'.d=ln σ.d+1
 B:σ'.d[ln σ.d]?=H (.el ⟨nm,bY,H c,[]⟩)
 A:σ'.d[c]?=H (.el {ec with q:=ec.q++[.el (ln σ.d)]})
 j:∀i,i<ln σ.d->i≠c->σ'.d[i]?=σ.d[i]?
 E:ln σ.A<σ.Q
theorem Ns.jN(t:dj):Ns (jN t) W λj U=>j=ln W.d/\U=W.il (.el ⟨t.name,t.h,F,[]⟩) I:=by intro e;unfold Go.Proofs.YtcalkelgoekpfaaGreatDoor.jN at e|-;grind
theorem Ns.jz{j:Nat}{e:mh}(o:W.h c=H K)(q:W.h j=H e):Ns (jz (c,k) j) W λ_ U=>U=(W.l c {K with q:=ins K.q k (.el j)}).l j {e with E:=H c}:=by intro g;unfold Go.Proofs.YtcalkelgoekpfaaGreatDoor.jz at g|-;grind
theorem Ns.nK{x:fW}:Ns (nK x) W λ_ U=>U={W with A:=W.A++[x]}/\(ln W.A)<W.Q:=by intro e;unfold Go.Proofs.YtcalkelgoekpfaaGreatDoor.nK at e|-;grind
theorem Ns.insert{nm:O}{bY:iB}(e:W.h c=H K){o:Type}{f:M o}{Q:o->N->Prop}(z:∀U,ZZ W c K nm bY U->Ns f U Q):Ns (do Go.Proofs.YtcalkelgoekpfaaGreatDoor.jz (c,ln K.q) (ln W.d);Go.Proofs.YtcalkelgoekpfaaGreatDoor.nK (H (ln W.d));f:M o) (W.il (.el ⟨nm,bY,F,[]⟩) I) Q:=by
 let S:=N.eH e
 let g:(W.il (.el ⟨nm,bY,F,[]⟩) I).h c=H K:=N.iQ (by show(W.d++[_])[c]?=_;grind)
 let j:(W.il (.el ⟨nm,bY,F,[]⟩) I).h (ln W.d)=H ⟨nm,bY,F,[]⟩:=N.iQ (by show(W.d++[_])[ln W.d]?=_;simp)
 refine Ns.bind (Ns.jz g j) λ_ σ3 u=>Ns.bind Ns.nK λ_ q ⟨v,y⟩=>z q ?_;subst u v;refine⟨D,?_,?_,?_,λi P E=>?_,y⟩;simp[N.l,N.il];simp[N.l,N.il];simp[N.l,N.il,(by omega),ins];grind;simp[N.l,N.il];grind
theorem Sg.y(h:Sg W OF c K)(nd:zE):ja (W.il nd I)=.ok (c,ln K.q) (W.il nd I):=by
 let e:(W.il nd I).h c=H K:=N.iQ (by show(W.d++[_])[c]?=_;grind[List.getElem?_append_left,Sg.u,N.eH])
 let j:(W.il nd I).last=H c:=h.last
 unfold ja iS fM
 let g:(W.il nd I).U=I:=h.q
 grind
def Sg.eE(h:Sg W OF c K)(t:dj):Ns (eE t) W λ_ U=>ZZ W c K t.name t.h U:=by refine Ns.bind (Ns.jN t) λj σ1 ⟨q,g⟩=>Ns.bind ?_ λ_ _ h=>Ns.pure h;subst q g;refine Ns.bind (Ns.ok (Q:=λe U=>e=(c,ln K.q)/\U=_) (h.y _) ⟨D,D⟩) λe X ⟨u,o⟩=>?_;subst u o;exact Ns.insert h.u λ_ h=>Ns.pure h
theorem Sg.nm(h:Sg W OF c K):W.nm c=K.name:=by unfold N.nm;rw[h.u]
theorem Sg.close(h:Sg W OF c K){p b:O->Bool}(j:p K.name=C):iY p b W=.ok C {W with A:=W.A.dropLast}:=by
 obtain⟨e,rfl⟩:=eT.1 h.K
 let o:W.A.reverse=H c::(e.map H).reverse:=by rw[h.A];simp
 let g:p (W.l7 (H c))=C:=by show p (W.nm c)=C;exact h.nm▸j
 unfold iY;rw[dw];unfold N.BE;have:(N.xq W p (H c::(e.map H).reverse))=(e.map H).reverse:=by rw[N.xq,dw g]
 grind[List.dropLast_singleton];unfold N.gH;rw[o,N.px,dw g]
structure Chr(σ:N)(c:Nat)(ec:mh)(s:O)(σ':N):Prop where
 st:σ'={σ with d:=σ'.d}
 le:ln σ'.d=ln σ.d+1
 B:σ'.d[ln σ.d]?=H (.tx s)
 A:σ'.d[c]?=H (.el {ec with q:=ec.q++[.tx (ln σ.d)]})
 j:∀i,i<ln σ.d->i≠c->σ'.d[i]?=σ.d[i]?
theorem Sg.DD(h:Sg W OF c K)(t:dj)(z:∀i,K.q.getLast?≠H (.tx i)):Ns (gh t) W λ_ U=>Chr W c K t.d U:=by
 let v:=N.n h.u
 let E:=N.eH h.u
 refine Ns.bind (Ns.ok (Q:=λg U=>g=(c,ln K.q)/\U=W) h.place ⟨D,D⟩) λg X ⟨u,j⟩=>?_;subst u j;refine Ns.bind ?_ λ_ _ h=>Ns.pure h;intro e
 let q:(if ln K.q=0 then F else K.q[ln K.q-1]?)=K.q.getLast?:=by rw[List.getLast?_eq_getElem?];split;grind;rfl
 unfold qd at e|-;rw[h.u]at e|-;dsimp only at e|-;rw[q]at e|-;split;refine .inr ⟨(),(X.add (.tx t.d)).l c {K with q:=ins K.q (ln K.q) (.tx (ln X.d))},?_,D,?_,?_,?_,λi y o=>?_⟩;grind;simp[N.l,N.add];show((X.d++[_]).set c _)[ln X.d]?=_;grind;simp[N.l,N.add,ins];grind;simp[N.l,N.add];grind;grind
theorem Sg.join(h:Sg W OF c K)(t:dj){g:O}(y:K.q.getLast?=H (.tx i))(q:W.d[i]?=H (.tx g)):Ns (gh t) W λ_ U=>U={W with d:=W.d.set i (.tx (g++t.d))}:=by
 refine Ns.bind (Ns.ok (Q:=λj U=>j=(c,ln K.q)/\U=W) h.place ⟨D,D⟩) λj X ⟨v,o⟩=>?_;subst v o;refine Ns.bind ?_ λ_ _ h=>Ns.pure h;intro e
 let u:(if ln K.q=0 then F else K.q[ln K.q-1]?)=H (.tx i):=by grind
 unfold qd at e|-;rw[h.u]at e|-;dsimp at e|-;rw[u]at e|-;dsimp at e|-;rw[q];dsimp;split;split;exact .inr ⟨(),_,D,D⟩;grind;grind
theorem lK(e:sT[m]?=H sp)(j:eI sp t=r)(g:t.k≠ .ic):dx I (n+1) m t=jp I (dx C n) (dx I n) r t:=by grind[AH,CO]
theorem lE(o:W.g=m)(g:sT[m]?=H sp)(u:eI sp t=r)(e:W.P=I)(j:t.k≠ .ic)(h:∀n,3<=n->Ns (jp I (dx C n) (dx I n) r t) (fV W t) λ_=>Q):T5 t W Q:=by refine⟨e,λn q=>?_⟩;obtain⟨k,rfl⟩:∃k,n=k+1:=⟨n-1,by omega⟩;grind[lK]
theorem qs{w:M Unit}(o:W.g=m)(e:sT[m]?=H sp)(q:eI sp t=.dX k)(g:W.P=I)(j:t.k≠ .ic)(u:∀n,Ot I (dx C n) (dx I n) t k=w)(h:Ns w (fV W t) λ_=>Q):T5 t W Q:=
 lE o e q g j λn _=>by
  let e2:jp _ _ _ (.dX k) t=w:=u n
  grind
def R4(W:N)(t:dj):Prop:=W.g=6\/W.g=9/\eI oE t=.qX 6\/W.g=13/\eI tX t=.qX 6
theorem sG{w:M Unit}(e:R4 W t)(o:eI ib t=r)(u:W.P=I)(g:t.k≠ .ic)(q:∀n,jp I (dx C n) (dx I n) r t=w)(h:Ns w (fV W t) λ_=>Q):T5 t W Q:=by
 refine⟨u,λn v=>?_⟩;obtain⟨k,rfl⟩:∃k,n=k+1+1:=⟨n-2,by omega⟩
 let e2:dx I (k+1+1) W.g t=w:=by rcases e with e|⟨e,j⟩|⟨e,j⟩;rw[e];exact(lK D o g).trans (q _);rw[e];exact(lK D j g).trans ((lK D o g).trans (q _));rw[e];exact(lK D j g).trans ((lK D o g).trans (q _))
 grind
def zv(R:Option (List (List O×Ru)))(nm:O):Bool:=(R.getD []).all λp=>!cZ p.1 nm
theorem yb{R:Option (List (List O×Ru))}{nm:O}(h:zv R nm=C):uC R nm=.nil:=by
 cases R with
 |none=>rfl
 |some R=>
  show(lV R nm).getD .nil=.nil;have:lV R nm=F:=by
   unfold zv at h
   induction R with
   |nil=>rfl
   |cons p R ih=>
    grind[lV]
  grind
def Sg.e(h:Sg W OF c K)(t:dj):Sg (fV W t) OF c K:=⟨h.A,h.K,h.u,h.B,h.q,h.pp,h.E⟩
def UC{p b:O->Bool}:∀L:iU,(∀x∈L,p (W.l7 x)=I)->W.px p b L=I
 |[],_=>rfl
 |x::r,h=>by unfold N.px;rw[h x (js ..),di (nofun),UC r λy e=>h y (gS _ e)];split<;>rfl
theorem Sg.V0(h:Sg W OF c K):my W=.ok () W:=by
 let e:iY (cZ [(jV)]) DR W=.ok I W:=by unfold iY;unfold N.gH;rw[UC _ λx g=>?_];simp;simp[cZ,(h.pp x (dU.1 g))]
 unfold my;rw[M.cW,e];rfl
def F3(W:N)(U:N):Prop:=U={W with A:=W.A.dropLast}
theorem Ns.close(h:Sg W OF c K){p b:O->Bool}(e:p K.name=C):Ns (do let _ <-iY p b;return ():M Unit) W λ_=>F3 W:=
 Ns.bind (Ns.ok (h.close e) rfl) λ_ _ h=>Ns.pure h
theorem lR(nm:O):cZ [nm] nm=C:=by simp[cZ,fG]
section
variable {W:N}{OF:List Nat}{c:Nat}{K:mh}{a b:Nat}{bY:iB}
theorem Sg.block(h:Sg W OF c K)(t:dj):Ns (lc t) W λ_ U=>ZZ W c K t.name t.h U:=
 Ns.bind (Q:=λ_ U=>U=W) (Ns.ok h.V0 rfl) λ_ U e=>by subst e;exact Ns.bind (h.eE _) λ_ _ h=>Ns.pure h
def Sg.other(h:Sg W OF c K)(t:dj):Ns (jB t) W λ_ U=>ZZ W c K t.name t.h U:=
 Ns.bind (Q:=λ_ U=>U=W) (Ns.ok h.v rfl) λ_ U e=>by subst e;exact Ns.bind (h.eE _) λ_ _ h=>Ns.pure h
theorem abz(h:Sg W OF c K)(e:W.P=I){nm:O}(g:R4 W ⟨a,b,.start nm,bY⟩)(j:zv ib.start nm=C):T5 ⟨a,b,.start nm,bY⟩ W λU=>ZZ (fV W ⟨a,b,.start nm,bY⟩) c K nm bY U:=
 sG g (r:=.dX 116) (by unfold eI;dsimp only;rw[yb j];rfl) e (nofun) (λ_=>D) ((h.e _).other _)
theorem aaK(h:Sg W OF c K)(e:W.P=I)(g:R4 W ⟨a,b,.stop K.name,bY⟩)(j:zv ib.stop K.name=C):T5 ⟨a,b,.stop K.name,bY⟩ W (F3 (fV W ⟨a,b,.stop K.name,bY⟩)):=
 sG g (r:=.dX 118) (by unfold eI;dsimp only;rw[yb j];rfl) e (nofun) (λ_=>D) (Ns.bind (Ns.close (h.e _) (lR _)) λ_ _ h=>Ns.pure h)
theorem aby(h:Sg W OF c K)(e:W.P=I){nm:O}(g:R4 W ⟨a,b,.start nm,bY⟩)(j:nm=gw\/nm=iK):T5 ⟨a,b,.start nm,bY⟩ W λU=>ZZ (fV W ⟨a,b,.start nm,bY⟩) c K nm bY U:=
 sG g (r:=.dX 187) (by rcases j with rfl|rfl<;>kernel_rfl) e (nofun) (λ_=>D) ((h.e _).block _)
theorem aaJ(h:Sg W OF c K)(g:W.P=I)(j:R4 W ⟨a,b,.stop K.name,bY⟩)(o:K.name=gw\/K.name=iK):T5 ⟨a,b,.stop K.name,bY⟩ W (F3 (fV W ⟨a,b,.stop K.name,bY⟩)):=
 sG j (r:=.dX 205) (by rcases o with e|e<;>rw[e]<;>kernel_rfl) g (nofun) (λ_=>D) (Ns.close (h.e _) (lR _))
theorem akU(h:Sg W OF c K)(o:W.P=I)(q:R4 W ⟨a,b,.start eN,bY⟩)(y:K.name=iK):T5 ⟨a,b,.start eN,bY⟩ W λU=>ZZ (fV W ⟨a,b,.start eN,bY⟩) c K eN bY U:=
 sG q (r:=.item _) (by kernel_rfl) o (by simp) (λ_=>D) (by
  let e:iY (cZ [eN]) Rx (fV W ⟨a,b,.start eN,bY⟩)=.ok I (fV W ⟨a,b,.start eN,bY⟩):=by
   unfold iY;rw[di];unfold N.gH
   let g:=h.e ⟨a,b,.start eN,bY⟩
   obtain⟨j,rfl⟩:=eT.1 g.K
   let v:(fV W ⟨a,b,.start eN,bY⟩).A.reverse=H c::(j.map H).reverse:=by rw[g.A];simp
   rw[v,N.px]
   let u:(fV W ⟨a,b,.start eN,bY⟩).l7 (H c)=iK:=by show N.nm _ c=_;rw[g.nm,y]
   rw[u,di (by decide+kernel),dw (by decide+kernel)];simp
  exact Ns.bind (Q:=λ_ U=>U=fV W _) (Ns.ok e D) λ_ U e=>by subst e;exact Ns.bind ((h.e _).block _) λ_ _ h=>Ns.pure h)
theorem aj1(h:Sg W OF c K)(e:W.P=I)(g:R4 W ⟨a,b,.stop eN,bY⟩)(j:K.name=eN):T5 ⟨a,b,.stop eN,bY⟩ W (F3 (fV W ⟨a,b,.stop eN,bY⟩)):=
 sG g (r:=.dX 207) (by kernel_rfl) e (nofun) (λ_=>D) (Ns.close (h.e _) (by grind[lR]))
end
def Z0(W:N)(c:Nat)(a:mh)(nm:O)(bY:iB)(U:N):Prop:=∃σ1,ZZ W c a nm bY σ1/\U={σ1 with A:=W.A}
section
variable {W:N}{OF:List Nat}{c:Nat}{K:mh}{a b:Nat}{bY:iB}
theorem Sg.Fs(h:Sg W OF c K)(t:dj):Ns (jA t) W λ_ U=>Z0 W c K t.name t.h U:=
 Ns.bind (h.eE t) λ_ σ1 g=>Ns.bind (Ns.ok D ⟨σ1,g,by
  let e:σ1.A=W.A++[H (ln W.d)]:=by rw[g.st]
  unfold N.pop;grind⟩) λ_ _ h=>Ns.pure h
def UH(h:Sg W OF c K)(g:W.P=I){nm:O}(j:R4 W ⟨a,b,.start nm,bY⟩)(o:nm=iC\/nm=jt):T5 ⟨a,b,.start nm,bY⟩ W λU=>Z0 (fV W ⟨a,b,.start nm,bY⟩) c K nm bY U:=
 sG j (r:=.dX 198) (by rcases o with rfl|rfl<;>kernel_rfl) g (nofun) (λ_=>D)
  (Ns.bind (Q:=λ_ U=>U=fV W _) (Ns.ok (h.e _).v rfl) λ_ U e=>by subst e;exact Ns.bind ((h.e _).Fs _) λ_ _ h=>Ns.pure h)
def akT(h:Sg W OF c K)(g:W.P=I)(j:R4 W ⟨a,b,.start jU,bY⟩):T5 ⟨a,b,.start jU,bY⟩ W λU=>Z0 (fV W ⟨a,b,.start jU,bY⟩) c K jU bY U:=
 sG j (r:=.dX 190) (by kernel_rfl) g (nofun) (λ_=>D)
  (Ns.bind (Q:=λ_ U=>U=fV W _) (Ns.ok (h.e _).V0 rfl) λ_ U e=>by subst e;exact Ns.bind ((h.e _).Fs _) λ_ _ h=>Ns.pure h)
structure JF(σ:N)(c:Nat)(ec:mh)(nd:zE)(k:Nat->Nd)(σ':N):Prop where
 st:σ'={σ with d:=σ'.d}
 le:ln σ'.d=ln σ.d+1
 B:σ'.d[ln σ.d]?=H nd
 A:σ'.d[c]?=H (.el {ec with q:=ec.q++[k (ln σ.d)]})
 j:∀i,i<ln σ.d->i≠c->σ'.d[i]?=σ.d[i]?
theorem Gk{nd:zE}{k:Nat->Nd}(j:W.h c=H K):Ns (kZ (c,ln K.q) nd k) W λ_ U=>JF W c K nd k U:=by
 let u:=N.eH j
 intro g
 let e:(W.add nd).h c=H K:=N.iQ (by show(W.d++[_])[c]?=_;grind)
 unfold kZ wB at g|-;rw[e]at g|-;dsimp only at g|-;split;refine .inr ⟨(),(W.add nd).l c _,D,D,?_,?_,?_,λi q o=>?_⟩;grind[N.l,N.add];show((W.d++[_]).set c _)[ln W.d]?=_;grind;grind[N.l,N.add,ins];show((W.d++[_]).set c _)[i]?=_;grind;grind
def Sg.dz(h:Sg W OF c K){s:O}{a b:Nat}{bY:iB}:Ns (iq ja ⟨a,b,.dz s,bY⟩) W λ_ U=>JF W c K (.cm s) .cm U:=
 Ns.bind (Q:=λe U=>e=(c,ln K.q)/\U=W) (Ns.ok h.place ⟨rfl,rfl⟩) λe X ⟨j,g⟩=>by subst j g;exact Ns.bind (Gk h.u) λ_ _ h=>Ns.pure h
def acS(h:Sg W OF c K)(e:W.P=I){s:O}(g:R4 W ⟨a,b,.dz s,bY⟩):T5 ⟨a,b,.dz s,bY⟩ W λU=>JF (fV W ⟨a,b,.dz s,bY⟩) c K (.cm s) .cm U:=
 sG g (rfl) e (nofun) (λ_=>D) ((h.e _).dz (a:=a) (b:=b) (bY:=bY))
end
def D4(m:Nat)(p:O):Prop:=∀{W:N} {OF:List Nat} {c:Nat} {K:mh} {a b:Nat} {bY:iB} {Q:N->Prop},Sg W OF c K->W.P=I->W.g=m->Ns (gh ⟨a,b,.fI p,bY⟩) (fV W ⟨a,b,.fI p,bY⟩) (λ_=>Q)->T5 ⟨a,b,.fI p,bY⟩ W Q
section
variable {W:N}{OF:List Nat}{c:Nat}{K:mh}{a b:Nat}{bY:iB}
def Ss(s:O):eI ib ⟨a,b,.fI s,bY⟩=.dX 114:=by show(if fP s then _ else _)=_;split<;>kernel_rfl
theorem Sg.body(h:Sg W OF c K)(t:dj)(j:kN t.d=I){Q:N->Prop}(g:Ns (gh t) W λ_=>Q):Ns (jL t) W λ_=>Q:=by
 unfold jL;rw[j];exact Ns.bind (Q:=λ_ U=>U=W) (Ns.ok h.v D) λ_ U e=>by subst e;exact Ns.bind g λ_ _ h=>Ns.pure h
end
theorem adN(j:m=6\/m=9\/m=13)(q:kN s=I):D4 m s:=λh g e o=>
 sG ((by
   rcases(e▸j)with h|h|h;exact .inl h
   .refine .inr (.inl ⟨h,?_⟩);show(if fP s then _ else _)=_;split<;>kernel_rfl
   .refine .inr (.inr ⟨h,?_⟩);show(if fP s then _ else _)=_;split<;>kernel_rfl)) (Ss s) g (nofun) (λ_=>D) ((h.e _).body ⟨_,_,.fI s,_⟩ q o)
def KG(s:O):D4 5 s:=λ_ g e j=>
 qs e rfl (k:=103) (by show(if fP s then _ else _)=_;split<;>kernel_rfl) g (nofun) (λ_=>D) j
theorem aj5(j:m=3\/m=4\/m=10)(q:fP s=C):D4 m s:=by
 intro W OF c K a b bY Q _ g e o;rcases j with rfl|rfl|rfl
 all_goals exact qs e D (((λsp=>dw q) _).trans (rfl)) g (nofun) (λ_=>D) o
abbrev bs(l:List UInt8):O:=⟨l.toArray⟩
theorem gG(l:List UInt8):(bs l).size=ln l:=by simp[kw]
theorem Ha{A L:List UInt8}{c:UInt8}:bt (bs (A++c::L)) (ln A)=(c.toNat:Int):=by
 let h:ln A<(bs (A++c::L)).size:=by rw[gG];simp
 unfold bt;rw[ug h];have:(bs _)[ln A]=c:=by show(A++c::L).toArray[ln A]=c;simp
 rw[this]
theorem tF(A B a:List UInt8):(bs (A++(B++a))).extract (ln A) (ln A+ln B)=bs B:=by apply rW;grind[hQ]
theorem lZ(A B:List UInt8):(bs (A++B)).extract (ln A) (bs (A++B)).size=bs B:=by apply rW;grind[gG,hQ]
theorem LJ{q:Int->Bool}:∀(x A L:List UInt8){y:UInt8},(∀c∈x,q (c.toNat:Int)=I)->q (y.toNat:Int)=C->gZ q (bs (A++(x++y::L))) (ln A)=ln A+ln x
 |[],A,L,y,_,hy=>by grind[E8,Ha]
 |c::x,A,L,y,hx,hy=>by
  rw[E7];have:=LJ x (A++[c]) L (λd e=>hx d (gS _ e)) hy;grind
  all_goals grind[gG,Ha]
def xD(p L:List UInt8):pre (bs (p++L)) (bs p)=C:=by
 unfold pre
 let e:(bs (p++L)).extract 0 (bs p).size=bs p:=by
  rw[gG]
  simpa using (tF [] p L)
 rw[e,gG,gG];simp
theorem QS{c d:UInt8}(L:List UInt8)(h:c≠d):pre (bs (c::L)) (bs [d])=I:=by
 unfold pre
 let e:(bs (c::L)).extract 0 (bs [d]).size=bs [c]:=by
  rw[gG]
  simpa using (tF [] [c] L)
 have:((bs [c]).toList==(bs [d]).toList)=I:=by simpa using h
 grind
theorem amB(c:UInt8):(c.toNat:Int).toNat.toUInt8=c:=by grind[UInt8.ofNat_toNat]
theorem uB(S:List UInt8)(c:UInt8):fw (bs S) (c.toNat:Int)=S.contains c:=by grind[amB,pY,fw]
theorem LQ{l:List UInt8}(h:∀c∈l,¬(65<=c.toNat/\c.toNat<=90)):small (bs l)=bs l:=by unfold small;apply rW;grind
theorem uD{l:List UInt8}(h:(0:UInt8)∉l):jG (bs l)=bs l:=by
 let j:Lib.index l [0]= -1:=by
  rw[Lib.index_one]
  let o:=Lib.indexByte_ge l 0
  let e:=pY l 0
  let g:l.contains 0=I:=by simpa using h
  rw[g]at e;have:=of_decide_eq_false e.symm;omega
 let q:∀k,fu [0] [239,191,189] k l=l:=λk=>by
  cases k with
  |zero=>rfl
  |succ k=>rw[fu,j];rfl
 apply rW;show(eB l [0] [239,191,189]).toArray=l.toArray;unfold eB Lib.replace;grind
abbrev P2:List UInt8:=[32,9,10,12]
section
variable {R:RC}{o:O->Option O}{lg:Nat}
theorem AC(S x A L:List UInt8){y:UInt8}(g:∀c∈x,S.contains c=I)(j:S.contains y=C):gZ (fw (bs S)) (bs (A++(x++y::L))) (ln A)=ln A+ln x:=
 LJ x A L (λc e=>by grind[uB]) (by grind[uB])
theorem AB(S x A L:List UInt8){y:UInt8}(g:∀c∈x,S.contains c=C)(j:S.contains y=I):gZ (λc=>!fw (bs S) c) (bs (A++(x++y::L))) (ln A)=ln A+ln x:=
 LJ x A L (λc e=>by grind[uB]) (by grind[uB])
structure ZX(nm:List UInt8):Prop where
 ex:∃a l,nm=a::l/\[32,9,10,12,47,62].contains a=I/\∀c∈l,[32,9,10,12,47,62,61].contains c=I
 sm:∀c∈nm,¬(65<=c.toNat/\c.toNat<=90)
 A:(0:UInt8)∉nm
theorem aia{A nm v L:List UInt8}{S:iB}(g:R.A=bs (A++(32::nm++(61::34::v++34::L))))(f:ZX nm)(i:(34:UInt8)∉v)(hl:(ln S:Int)<R.at_):gQ R o lg S (ln A)=gQ R o lg (qP S (bs nm) (jG ⟨(ql o lg (bs v)).toArray⟩)) (ln A+(ln nm+ln v+4)):=by
 obtain⟨⟨a,l,rfl,ha,U⟩,a0,W⟩:=f
 let j:dY R (ln A)=ln (A++[32]):=by
  unfold dY;rw[g];have:=AB [32,9,10,12,47] [32] A (l++(61::34::v++34::L)) (y:=a) (by simp) (by grind)
  simpa using this
 let b:R.A=bs ((A++[32])++(a::l++(61::34::v++34::L))):=by rw[g];simp
 let q:fU R (dY R (ln A))=ln (A++32::a::l):=by
  unfold fU;rw[j,g];have:=AC [32,9,10,12,47,62,61] l (A++[32,a]) (34::v++34::L) (y:=61) U (by decide)
  simpa [Nat.add_assoc,Nat.add_comm,Nat.add_left_comm]using this
 let aJ:R.A.extract (dY R (ln A)) R.A.size=bs (a::l++(61::34::v++34::L)):=by rw[j,b];exact lZ _ _
 let a1:sF R (dY R (ln A))=bs (a::l):=by
  unfold sF;rw[q,j,b];have:ln (A++32::a::l)=ln (A++[32])+ln (a::l):=by simp;omega
  rw[this,tF,LQ a0,uD W]
 let E:ld R (fU R (dY R (ln A)))=ln (A++32::a::l):=by
  unfold ld;rw[q,g];have:=AB P2 [] (A++32::a::l) (34::v++34::L) (y:=61) (by simp) (by decide)
  simpa using this
 let u:pre (R.A.extract (ln (A++32::a::l)) R.A.size) IL=C:=by
  let e:R.A=bs ((A++32::a::l)++(61::34::v++34::L)):=by rw[g];simp
  rw[e,lZ];exact xD [61] _
 let P:ld R (ln (A++32::a::l)+1)=ln (A++32::a::l)+1:=by
  unfold ld;rw[g];have:=AB P2 [] (A++32::a::l++[61]) (v++34::L) (y:=34) (by simp) (by decide)
  simpa [Nat.add_assoc]using this
 let d:pre (R.A.extract (ln (A++32::a::l)+1) R.A.size) mg=C:=by
  let e:R.A=bs ((A++32::a::l++[61])++(34::v++34::L)):=by rw[g];simp
  let e2:ln (A++32::a::l)+1=ln (A++32::a::l++[61]):=by simp;omega
  rw[e2,e,lZ];exact xD [34] _
 let z:gZ (fw mg) R.A (ln (A++32::a::l)+1+1)=ln (A++32::a::l)+1+1+ln v:=by
  rw[g];have:=AC [34] v (A++32::a::l++[61,34]) L (y:=34) (λc h=>by grind) (by decide)
  simpa [Nat.add_assoc]using this
 let a2:mP R (fU R (dY R (ln A)))=ln A+(ln (a::l)+ln v+4):=by
  unfold mP;rw[E,dw u,P];unfold qR quoted;rw[dw d,z];unfold fZ
  let e:R.A=bs ((A++32::a::l++61::34::v)++(34::L)):=by rw[g];simp
  let e2:ln (A++32::a::l)+1+1+ln v=ln (A++32::a::l++61::34::v):=by simp;omega
  rw[e2,e,lZ,dw (show pre (bs (34::L)) mg=C from xD [34] L)];simp[kw];omega
 let a3:nk o lg R (fU R (dY R (ln A)))=jG ⟨(ql o lg (bs v)).toArray⟩:=by
  unfold nk;rw[E,dw u,P];unfold lH;rw[dw d,z]
  let e:R.A=bs ((A++32::a::l++[61,34])++(v++34::L)):=by rw[g];simp
  let e2:ln (A++32::a::l)+1+1=ln (A++32::a::l++[61,34]):=by simp;omega
  rw[e2,e,tF]
 rw[gQ.eq_1 R o lg S (ln A),ug,di,di];grind[oI];grind[pE]
 all_goals grind[QS,gG]
end
def akO(nm:List UInt8):Bool:=KV.all λp=>!(nm.isPrefixOf p.1.data.toList&&decide (ln nm<p.1.data.toList.length))
theorem amd{nm L:List UInt8}{t:O}(q:akO nm=C)(E:fh KV (bs nm)=H t)(z:nm.getLast?=H 59):∀d,d<=ln L->pu (fh KV) (bs (38::(nm++L))) inV (ln nm+d)=ln nm+1/\pZ (fh KV) (bs (38::(nm++L))) inV (ln nm+d)=t:=by
 let u:∀d,d<=ln L->(bs (38::(nm++L))).extract 1 (1+(ln nm+d))=bs (nm++L.take d):=λd e=>by have:=tF [38] (nm++L.take d) (L.drop d);grind[qb,List.take_append_drop]
 intro d
 induction d with
 |zero=>
  intro e
  let v:=u 0 e
  grind[eT,Ha,pu,pZ]
 |succ d ih=>
  intro e
  let g:fh KV (bs (nm++L.take (d+1)))=F:=(by
    unfold fh;rw[Option.map_eq_none_iff,List.find?_eq_none];intro p j o
    let g:=dm.1 q p j
    let y:=by exact rW (uT o)
    grind[List.length_pos_iff])
  grind[pu,pZ]
theorem aeL{nm L:List UInt8}{t:O}(z:akO nm=C)(y:fh KV (bs nm)=H t)(v:nm.getLast?=H 59)(u:ln nm<=8)(g:nm.head?≠H 35):jc (fh KV) 8 (bs (38::(nm++L))) inV=ln nm+1/\kU (fh KV) 8 (bs (38::(nm++L))) inV=t:=by
 obtain⟨a,l,rfl⟩:∃a l,nm=a::l:=by cases nm<;>grind
 let j:pre (bs (38::(a::l++L))) tk=I:=by
  unfold pre
  let e:(bs (38::(a::l++L))).extract 0 2=bs [38,a]:=by simpa using (tF [] [38,a] (l++L))
  let e2:tk.size=2:=rfl
  rw[e2,e];have:((bs [38,a]).toList==tk.toList)=I:=by
   rw[th,th]
   simpa using g
  rw[this,Bool.and_false]
 let o:pre (bs (38::(a::l++L))) uM=C:=xD [38] _
 let q:min 8 ((bs (38::(a::l++L))).size-1)=ln (a::l)+min (8-(ln (a::l))) (ln L):=by rw[gG];simp at u|-;omega
 unfold jc kU;rw[j,o,q];exact amd z y v _ (Nat.min_le_right _ _)
theorem Ut{c:UInt8}{L:List UInt8}(h:c≠38):jc o lg (bs (c::L)) inV=0:=by
 let g:pre (bs (c::L)) tk=I:=by
  cases hq:pre (bs (c::L)) tk with
  |false=>rfl
  |true=>
   unfold pre at hq;simp only[fq,beq_iff_eq]at hq
   let e:=hq.2
   rw[th,th]at e
   let j:=(show(c::L).take 2=((bs (c::L)).extract 0 2).data.toList by grind[hQ]).trans e
   grind
 grind[QS,jc]
def lp(v:Bool):List UInt8->List UInt8
 |[]=>[]
 |c::t=>
  if c=38 then [38,97,109,112,59]++lp v t
  else if c=34/\v=C then [38,113,117,111,116,59]++lp v t
  else if c=60/\v=I then [38,108,116,59]++lp v t
  else if c=62/\v=I then [38,103,116,59]++lp v t
  else match c,t with
   |194,160::t'=>[38,110,98,115,112,59]++lp v t'
   |c,t=>c::lp v t
theorem abR{c:UInt8}{L:List UInt8}(h:c≠38):ql o lg (bs (c::L))=c::ql o lg (bs L):=by
 rw[ql.eq_1,di (nofun),dw (Ut h)]
 let e1:=by simpa using tF [] [c] L
 let e2:=lZ [c] L
 grind
structure Vz(nm:List UInt8)(t:List UInt8):Prop where
 L:akO nm=C
 K:fh KV (bs nm)=H (bs t)
 E:nm.getLast?=H 59
 A:ln nm<=8
 B:nm.head?≠H 35
theorem Vz.val{nm t:List UInt8}(h:Vz nm t)(L:List UInt8):ql (fh KV) 8 (bs (38::(nm++L)))=t++ql (fh KV) 8 (bs L):=by obtain⟨e,g⟩:=aeL h.L h.K h.E h.A h.B;rw[ql.eq_1,di (nofun),e];grind[lZ]
def aeO:Vz [97,109,112,59] [38]:=⟨D,D,D,by decide,nofun⟩
def ahI:Vz [113,117,111,116,59] [34]:=⟨D,D,D,by decide,nofun⟩
def Zg:Vz [110,98,115,112,59] [194,160]:=⟨D,D,D,by decide,nofun⟩
def amo:Vz [108,116,59] [60]:=⟨D,D,D,by decide,nofun⟩
def amn:Vz [103,116,59] [62]:=⟨D,D,D,by decide,nofun⟩
theorem GH:∀v:List UInt8,ql (fh KV) 8 (bs (lp C v))=v
 |[]=>by rw[ql.eq_1];rfl
 |c::t=>by have j:=GH t;unfold lp;by_cases e:c=38;rw[dw e,e];exact(aeO.val _).trans (by rw[j];rfl);rw[di e];by_cases g:c=34;rw[g];exact(ahI.val _).trans (by rw[j];rfl);rw[di (λh=>g h.1),di (by simp),di (by simp)];split;rename_i t';exact(Zg.val _).trans (by rw[(GH t')];rfl);grind[abR]
theorem Qw:∀v:List UInt8,(34:UInt8)∉lp C v
 |[]=>by simp[lp]
 |c::t=>by have j:=Qw t;unfold lp;by_cases e:c=38;rw[dw e];simp[j];rw[di e];by_cases g:c=34;rw[dw ⟨g,D⟩];simp[j];rw[di (λh=>g h.1),di (by simp),di (by simp)];split;rename_i t';simp[(Qw t')];grind
theorem BK{A:Nat->O×O}(h:∀i,i<n->(A i).1≠s):∀(k i:Nat),n-i<=k->jZ A n s i=I
 |0,i,hk=>by grind[jZ]
 |k+1,i,hk=>by rw[jZ];split;rw[BK h k _ (by omega)];grind[gL,eC,Array.toList_inj];rfl
theorem WQ{g:List O}(h:s∉g):IZ g s=I:=BK (λi j e=>h (by rw[<-e];show g.getD i _∈g;grind)) _ 0 (dF _)
abbrev JC:=List (List UInt8×List UInt8)
def VO(a:List UInt8×List UInt8):List UInt8:=32::a.1++(61::34::lp C a.2++[34])
def tw(bY:JC):List UInt8:=bY.flatMap VO
def qJ(bY:JC):iB:=bY.map λa=>(bs a.1,bs a.2)
section
variable {R:RC}
theorem L9:∀(bY:JC)(A L:List UInt8)(g:JC),R.A=bs (A++(tw bY++62::L))->(∀a∈bY,ZX a.1/\(0:UInt8)∉a.2)->((g++bY).map (·.1)).Nodup->((ln (g++bY):Nat):Int)<=R.at_->gQ R (fh KV) 8 (qJ g) (ln A)=.whole (ln A+ln (tw bY)+1) (qJ (g++bY))
 |[],A,L,g,hR,_,_,_=>by
  let e:R.A=bs (A++([]++62::L)):=hR
  let z:dY R (ln A)=ln A:=by
   unfold dY;rw[e]
   simpa using AB [32,9,10,12,47] [] A L (y:=62) (by simp) (by decide)
  rw[gQ.eq_1,ug (by grind[gG]),z,e,lZ,dw (show pre (bs ([]++62::L)) eV=C from xD [62] L)];simp[tw]
 |a::bY,A,L,g,hR,ha,hn,hl=>by
  let e:R.A=bs (A++(32::a.1++(61::34::lp C a.2++34::(tw bY++62::L)))):=by rw[hR];simp[tw,VO]
  rw[aia e (ha a (js ..)).1 (Qw _) (by grind[qJ]),GH]
  let o:jG ⟨a.2.toArray⟩=bs a.2:=uD (ha a (js ..)).2
  rw[o]
  let q:qP (qJ g) (bs a.1) (bs a.2)=qJ (g++[a]):=by unfold qP;rw[WQ];simp[qJ];intro v;simp[qJ]at v;grind
  rw[q]
  let j:ln A+(ln a.1+ln (lp C a.2)+4)=ln (A++VO a):=by simp[VO];omega
  rw[j,L9 bY (A++VO a) L (g++[a]) (by rw[hR];simp[tw]) (λb u=>ha b (gS _ u)) (by grind) (by grind)];grind[qb,tw]
end
structure tr(nm:List UInt8):Prop where
 ex:∃a l,nm=a::l/\97<=a.toNat/\a.toNat<=122
 no:∀c∈nm,[32,9,10,12,47,62].contains c=I
 sm:∀c∈nm,¬(65<=c.toNat/\c.toNat<=90)
 A:(0:UInt8)∉nm
section
variable {R:RC}
theorem afl{A nm M:List UInt8}{y:UInt8}(g:R.A=bs (A++(nm++y::M)))(j:tr nm)(o:[32,9,10,12,47,62].contains y=C):sO R (ln A)=C/\vw R (ln A)=ln A+ln nm/\xn R (ln A)=bs nm:=by
 let e:vw R (ln A)=ln A+ln nm:=by unfold vw;rw[g];exact AC _ nm A M j.no o
 refine⟨?_,e,?_⟩;grind[tr.ex,Ha,gG,sO];grind[tF,LQ,tr.sm,uD,tr.A,xn]
theorem go_of0{P:Nat}(h:R.a=⟨#[]⟩):pJ R P=R:=by unfold pJ;cases R<;>grind
theorem Be{A L:List UInt8}{o:O->Option O}{lg:Nat}(h:R.a=⟨#[]⟩)(e:R.A=bs (A++60::L)):eA R o lg (ln A)=j7 R o lg (ln A) (ln A+1):=by unfold eA;rw[di (by grind[gG]),go_of0 h,dw (by grind[eC]),e,lZ,dw (show pre (bs (60::L)) _=C from xD [60] L)]
theorem aek{A nm L:List UInt8}{bY:JC}(h:R.a=⟨#[]⟩)(j:R.A=bs (A++60::(nm++(tw bY++62::L))))(q:tr nm)(ha:∀a∈bY,ZX a.1/\(0:UInt8)∉a.2)(u:(bY.map (·.1)).Nodup)(v:((ln bY:Nat):Int)<=R.at_):eA R (fh KV) 8 (ln A)=.tok (.Q4 (bs nm) (qJ bY)) (ln A+1+ln nm+ln (tw bY)+1):=by
 rw[Be h j]
 let ⟨y,M,e,hy⟩:=(show∃y M,tw bY++62::L=y::M/\[32,9,10,12,47,62].contains y=C by
   cases bY with
   |nil=>exact⟨62,L,D,D⟩
   |cons a bY=>exact⟨32,_,D,D⟩)
 let e1:R.A=bs ((A++[60])++(nm++y::M)):=by grind
 let ⟨h1,h2,h3⟩:=afl e1 q hy
 let e2:ln (A++[60])=ln A+1:=by simp
 rw[e2]at h1 h2 h3
 let g:=L9 bY (A++60::nm) L [] (by rw[j];simp) ha (by grind) (by grind)
 let o:ln (A++60::nm)=ln A+1+ln nm:=by grind
 rw[o]at g;unfold j7;rw[dw h1,h2,h3];show qT R _ _ (gQ R _ 8 (qJ []) _)=_;rw[g];rfl
theorem TW{A nm L:List UInt8}(h:R.a=⟨#[]⟩)(g:R.A=bs (A++60::47::(nm++62::L)))(v:tr nm)(y:0<=R.at_):eA R (fh KV) 8 (ln A)=.tok (.fin (bs nm) []) (ln A+2+ln nm+1):=by
 rw[Be h g]
 let e1:R.A=bs ((A++[60,47])++(nm++62::L)):=by rw[g];simp
 let ⟨h1,h2,h3⟩:=afl e1 v (by decide)
 let e2:ln (A++[60,47])=ln A+1+1:=by simp
 rw[e2]at h1 h2 h3
 let j:=L9 [] (A++60::47::nm) L [] (by rw[g];simp[tw]) (by simp) (by simp) (by grind)
 let o:ln (A++60::47::nm)=ln A+1+1+ln nm:=by simp;omega
 rw[o]at j
 let q:sO R (ln A+1)=I:=by
  let e:bt R.A (ln A+1)=47:=by
   have:R.A=bs ((A++[60])++47::(nm++62::L)):=by rw[g];simp
   rw[this,show ln A+1=ln (A++[60]) by simp,Ha];rfl
  unfold sO;rw[e];simp
 let u:pre (R.A.extract (ln A+1) R.A.size) ⟨#[47]⟩=C:=by
  have:R.A=bs ((A++[60])++47::(nm++62::L)):=by rw[g];simp
  rw[this,show ln A+1=ln (A++[60]) by simp,lZ];exact xD [47] _
 unfold j7;rw[q,di (by simp),dw u];unfold jr;rw[dw h1,h2,h3];show qT R _ _ (gQ R (fh KV) 8 (qJ []) _)=_;rw[j];rfl
def FG{o:O->Option O}{lg:Nat}{A L:List UInt8}{c:UInt8}(e:R.A=bs (A++c::L))(g:c≠38):mZ R o lg (ln A)=.tok (.DD (bs [c])) (ln A+1):=by
 unfold mZ nu mx;rw[e,lZ,Ut g,dw D,dw D]
 let e1:=by simpa using tF [] [c] L
 rw[e1]
theorem NN{A nm t L:List UInt8}(e:R.A=bs (A++38::(nm++L)))(h:Vz nm t):mZ R (fh KV) 8 (ln A)=.tok (.DD (bs t)) (ln A+(ln nm+1)):=by grind[aeL,Vz.L,Vz.K,Vz.E,Vz.A,Vz.B,lZ,mZ,nu,mx]
theorem Lb{o:O->Option O}{lg:Nat}{A L:List UInt8}{c:UInt8}(h:R.a=⟨#[]⟩)(e:R.A=bs (A++c::L))(g:c≠60):eA R o lg (ln A)=mZ R o lg (ln A):=by unfold eA;rw[di (by grind[gG]),go_of0 h,dw (by grind[eC]),di];rw[e,lZ,QS L g];decide
end
theorem tU(a p:List UInt8):pre (bs a) (bs p)=p.isPrefixOf a:=by grind[gG,eC,hQ,List.prefix_iff_eq_take,pre]
structure vO(t:List UInt8):Prop where
 no:∀j,j<ln t->[45,45,62].isPrefixOf (t.drop j++[45,45,62])=I/\[45,45,33,62].isPrefixOf (t.drop j++[45,45,62])=I
 st:t.head?≠H 62/\[45,62].isPrefixOf t=I
 A:(0:UInt8)∉t
theorem Uc{p x y:List UInt8}(h:ln p<=ln x):p.isPrefixOf (x++y)=p.isPrefixOf x:=by grind[List.prefix_of_prefix_length_le]
section
variable {R:RC}
theorem acX{A t L:List UInt8}(P:R.A=bs (A++(t++45::45::62::L)))(h:vO t):∀d,d<=ln t->kK R (ln A) (ln A+(ln t-d))=bs t/\qZ R (ln A+(ln t-d))=ln A+ln t+3:=by
 let v:∀j,j<=ln t->R.A.extract (ln A+j) R.A.size=bs (t.drop j++45::45::62::L):=λj q=>by
  let e:R.A=bs ((A++t.take j)++(t.drop j++45::45::62::L)):=by rw[P];congr 1;rw[oX,<-oX (t.take j),Mu]
  grind[lZ]
 let y:∀j,j<=ln t->ln A+j<R.A.size:=λj q=>by grind[gG]
 intro d
 induction d with
 |zero=>
  intro _
  let o:=v (ln t) (dF _)
  let g:=y (ln t) (dF _)
  let z:pre (bs (45::45::62::L)) e1=C:=xD [45,45,62] L
  rw[Nat.sub_zero,kK.eq_1,qZ.eq_1,dw g,dw g,o,qe,tA,dw z,dw z];grind[tF]
 |succ d ih=>
  intro aJ
  let q:ln t-(d+1)<ln t:=by omega
  let o:=v (ln t-(d+1)) (by omega)
  let g:=y (ln t-(d+1)) (by omega)
  let W:=ih (by omega)
  let E:ln A+(ln t-(d+1))+1=ln A+(ln t-d):=by omega
  let ⟨n1,n2⟩:=h.no _ q
  let u:t.drop (ln t-(d+1))++45::45::62::L=(t.drop (ln t-(d+1))++[45,45,62])++L:=by simp
  let S:pre (bs (t.drop (ln t-(d+1))++45::45::62::L)) e1=I:=by rw[show e1=bs [45,45,62]from D,tU,u,Uc (by simp),n1]
  let U:pre (bs (t.drop (ln t-(d+1))++45::45::62::L)) e2=I:=by rw[show e2=bs [45,45,33,62]from D,tU,u,Uc (by simp;omega),n2]
  rw[kK.eq_1,qZ.eq_1,dw g,dw g,o,S,U,E];grind
theorem aeg{A t L:List UInt8}{o:O->Option O}{lg:Nat}(h:R.a=⟨#[]⟩)(g:R.A=bs (A++60::33::45::45::(t++45::45::62::L)))(j:vO t):eA R o lg (ln A)=.tok (.Sy (bs t)) (ln A+4+ln t+3):=by
 rw[Be h g]
 let e1:R.A=bs ((A++[60,33,45,45])++(t++45::45::62::L)):=by rw[g];simp
 let c:R.A=bs ((A++[60])++33::45::45::(t++45::45::62::L)):=by rw[g];simp
 let u:R.A.extract (ln A+1) R.A.size=bs (33::45::45::(t++45::45::62::L)):=by rw[c,show ln A+1=ln (A++[60]) by simp,lZ]
 let q:sO R (ln A+1)=I:=by
  let e:bt R.A (ln A+1)=33:=by rw[c,show ln A+1=ln (A++[60]) by simp,Ha];rfl
  unfold sO;rw[e];simp
 let e2:ln (A++[60,33,45,45])=ln A+1+3:=by simp
 let ⟨c1,c2⟩:=acX e1 j (ln t) (dF _)
 rw[Nat.sub_self,Nat.add_zero,e2]at c1 c2
 let v:R.A.extract (ln A+1+3) R.A.size=bs (t++45::45::62::L):=by rw[<-e2,e1,lZ]
 let y:pre (bs (t++45::45::62::L)) eV=I:=by
  rw[tU];cases t with
  |nil=>rfl
  |cons a t=>
   let ha:a≠62:=by simpa using j.st.1
   grind
 let z:pre (bs (t++45::45::62::L)) wQ=I:=by
  rw[tU];have:=j.st.2
  match t,this with
  |[],_=>rfl
  |[a],_=>
   grind
  |a::b::t,h=>grind
 unfold j7;rw[q,di (by simp),u,QS _ (by decide),di (by simp),dw (show pre (bs (33::45::45::(t++45::45::62::L))) uL=C from xD [33,45,45] _)];grind[uD,vO.A,jY,kh]
end
abbrev PX:List UInt8:=[33,68,79,67,84,89,80,69]
structure Vw(nm:List UInt8):Prop where
 no:∀c∈nm,[32,9,10,12,62].contains c=I
 sm:∀c∈nm,¬(65<=c.toNat/\c.toNat<=90)
 A:(0:UInt8)∉nm
section
variable {R:RC}
theorem aeh{A nm L:List UInt8}{o:O->Option O}{lg:Nat}(h:R.a=⟨#[]⟩)(g:R.A=bs (A++60::(PX++32::(nm++62::L))))(j:Vw nm):∃q,eA R o lg (ln A)=.tok (.dtp (bs nm) q) (ln A+10+ln nm+1):=by
 rw[Be h g]
 let b:R.A=bs ((A++[60])++(PX++32::(nm++62::L))):=by rw[g];simp
 let S:ln A+1=ln (A++[60]):=by simp
 let P:R.A.extract (ln A+1) R.A.size=bs (PX++32::(nm++62::L)):=by rw[b,S,lZ]
 let f:sO R (ln A+1)=I:=by
  let e:bt R.A (ln A+1)=33:=by have:R.A=bs ((A++[60])++33::([68,79,67,84,89,80,69]++32::(nm++62::L))):=b;rw[this,S,Ha];rfl
  unfold sO;rw[e];simp
 let i:xi R gy (ln A+1)=C:=by
  unfold xi;rw[P]
  let aJ:(bs (PX++32::(nm++62::L))).extract 0 8=bs PX:=by simpa using tF [] PX (32::(nm++62::L))
  let c:gy.size=8:=rfl
  rw[c,aJ]
  let d:R.A.size=ln A+1+(8+(1+(ln nm+(1+ln L)))):=by rw[g,gG];simp;omega
  rw[d,sx (by omega),Bool.true_and,th,th];decide+kernel
 let m:ln (A++60::PX)=ln A+1+8:=by simp
 let z:ua R (ln A+1+8)=ln A+1+8+1:=by
  unfold ua
  let e:R.A=bs ((A++60::PX)++(32::(nm++62::L))):=by rw[g];simp
  let ⟨y,M,e9,hy⟩:∃y M,nm++62::L=y::M/\P2.contains y=I:=by
   cases nm with
   |nil=>exact⟨62,L,D,by decide⟩
   |cons a nm=>exact⟨a,_,D,by have:=j.no a (js ..);grind⟩
  rw[e,e9,<-m];have:=AB P2 [32] (A++60::PX) M (y:=y) (by simp) hy
  simpa using this
 let U:ln (A++60::(PX++[32]))=ln A+1+8+1:=by simp
 let u:R.A=bs ((A++60::(PX++[32]))++(nm++62::L)):=by rw[g];simp
 let E:D6 R (ln A+1+8)=ln A+1+8+1+ln nm:=by unfold D6;rw[z,u,<-U];exact AC [32,9,10,12,62] nm _ L j.no (by decide)
 let l:P5 R (ln A+1+8)=bs nm:=by unfold P5;rw[z,E,u,<-U,tF,LQ j.sm,uD j.A]
 let k:pC R (D6 R (ln A+1+8))=ln A+10+ln nm+1:=by
  unfold pC
  let v:R.A=bs ((A++60::(PX++32::nm))++([]++62::L)):=by rw[g];simp
  let W:ln A+1+8+1+ln nm=ln (A++60::(PX++32::nm)):=by simp;omega
  let B:gZ (fw eV) R.A (ln A+1+8+1+ln nm)=ln A+1+8+1+ln nm:=by rw[v,W];simpa using AC [62] [] (A++60::(PX++32::nm)) L (y:=62) (by simp) (by decide)
  rw[E,B];unfold fZ;rw[W,v,lZ,dw (show pre (bs ([]++62::L)) eV=C from xD [62] L)];simp[kw]
 refine⟨Ld R (ln A+1+8),?_⟩;unfold j7;rw[f,di (by simp),P,show(⟨#[47]⟩:O)=bs [47]from D,tU,di (by simp),show uL=bs [33,45,45]from D,tU,di (by simp),dw i,l,k]
end
def tt(b:UInt8):UInt8:=if 65<=b.toNat/\b.toNat<=90 then b+32 else b
def oQ(nm a:List UInt8):Bool:=[60,47].isPrefixOf a&&decide (ln nm<ln (a.drop 2))&&(((a.drop 2).take (ln nm)).map tt==nm)&&[32,9,10,12,47,62].contains ((a.drop 2).getD (ln nm) 0)
theorem PJ{a:List UInt8}(h:n<ln a):bt (bs a) n=((a.getD n 0).toNat:Int):=by
 let e:a=a.take n++a.getD n 0::a.drop (n+1):=by rw[Ce,qM h];simp
 grind[Ha]
section
variable {R:RC}
theorem Jj{A nm a:List UInt8}(v:R.A=bs (A++a)):wm R (bs nm) (ln A)=oQ nm a:=by
 unfold wm oQ;rw[v,lZ]
 let q:I3 (bs a)=[60,47].isPrefixOf a:=by unfold I3 Lib.hasPrefix;rfl
 by_cases j:[60,47].isPrefixOf a=C
 let u:PV (bs a)=bs (a.drop 2):=by unfold PV Lib.trimPrefix;rw[dw (by exact j)];rfl
 rw[q,j,u,gG,gG];simp only[Bool.true_and];by_cases g:ln nm<ln (a.drop 2);rw[sx g,PJ g];simp only[Bool.true_and]
 let e:(bs (a.drop 2)).extract 0 (ln nm)=bs ((a.drop 2).take (ln nm)):=by apply rW;simp[List.extract_eq_take_drop]
 let e2:(small (bs ((a.drop 2).take (ln nm)))).toList=((a.drop 2).take (ln nm)).map tt:=by rw[th];unfold small;simp;rfl
 let o:(bs nm).toList=nm:=by rw[th]
 rw[e,e2,o,uB];grind;grind
theorem Yo{nm a:List UInt8}{c:UInt8}(h:c≠60):oQ nm (c::a)=I:=by unfold oQ;grind
theorem adh{nm L:List UInt8}(h:∀c∈nm,¬(65<=c.toNat/\c.toNat<=90)):oQ nm (60::47::(nm++62::L))=C:=by
 let e:nm.map tt=nm:=by rw[Pg (g:=id)];simp;grind[tt]
 unfold oQ;simp[e]
theorem EN{A b nm:List UInt8}{o:O->Option O}{lg:Nat}(h:R.a=bs nm)(u:nm≠[])(e:R.A=bs (A++b))(g:b≠[])(j:oQ nm b=I):eA R o lg (ln A)=mO R o lg (ln A)/\qK R (ln A)=R:=by
 let a:¬(ln A)=R.A.size:=by rw[e,gG];simp;exact g
 let q:pJ R (ln A)=R:=by unfold pJ;rw[h,Jj e,j];cases R;simp;exact h.symm
 grind[eC,eA,qK]
theorem aei{A b nm:List UInt8}{o:O->Option O}{lg:Nat}(h:R.a=bs nm)(e:R.A=bs (A++b))(g:b≠[])(j:oQ nm b=C):eA R o lg (ln A)=eA {R with a:=⟨#[]⟩} o lg (ln A)/\qK R (ln A)={R with a:=⟨#[]⟩}:=by
 let a:¬(ln A)=R.A.size:=by rw[e,gG];simp;exact g
 let q:pJ R (ln A)={R with a:=⟨#[]⟩}:=by unfold pJ;rw[h,Jj e,j];rfl
 grind[go_of0,eA,qK]
theorem abO{A a:List UInt8}{c:UInt8}{o:O->Option O}{lg:Nat}(g:R.e=C)(e:R.A=bs (A++c::a))(j:c≠0):mO R o lg (ln A)=.tok (.DD (bs [c])) (ln A+1):=by unfold mO;rw[dw g,e];rw[show ln A+1=ln A+ln [c] from D];rw[show A++c::a=A++([c]++a)from D,(tF A [c] a),uD (by grind)]
theorem afy{A b:List UInt8}{c:UInt8}{o:O->Option O}{lg:Nat}(q:R.e=I)(a:R.A=bs (A++c::b))(u:c≠0)(e:c≠38):mO R o lg (ln A)=.tok (.DD (bs [c])) (ln A+1):=by obtain⟨g,j⟩:=zG.tok.inj (FG a e);unfold mO;rw[q,di (nofun),j,DK.DD.inj g,uD (by grind)]
theorem aid{A nm t L:List UInt8}(g:R.e=I)(e:R.A=bs (A++38::(nm++L)))(h:Vz nm t)(j:(0:UInt8)∉t):mO R (fh KV) 8 (ln A)=.tok (.DD (bs t)) (ln A+(ln nm+1)):=by have:=NN e h;grind[uD,mZ,mO]
end
structure Sm(σ σ':N):Prop where
 A:σ'.A=σ.A
 B:σ'.B=σ.B
 head:σ'.head=σ.head
 j:σ'.j=σ.j
 g:σ'.g=σ.g
 K:σ'.L=σ.L
 q:σ'.U=σ.U
 W:σ'.W=σ.W
 a:σ'.a=σ.a
 Q:σ'.Q=σ.Q
 R:σ'.R=σ.R
 E:σ'.P=I
theorem Sm.trans{a b c:N}(h:Sm a b)(e:Sm b c):Sm a c:=⟨e.A.trans h.A,e.B.trans h.B,e.head.trans h.head,e.j.trans h.j,e.g.trans h.g,e.K.trans h.K,e.q.trans h.q,e.W.trans h.W,e.a.trans h.a,e.Q.trans h.Q,e.R.trans h.R,e.E⟩
theorem QE(h:R.a=⟨#[]⟩):qK R P=R:=by grind[go_of0,qK]
abbrev l5(W:N)(t:dj):N:={W with E:=t.l6}
theorem aeT(h:W.a=⟨#[]⟩):pD R W P t=l5 W t:=by grind[QE,pD,QR]
def aeU(h:qK (QR R W.a W.S) P=QR R W.a W.S):pD R W P t=l5 W t:=by unfold pD;rw[h];rfl
theorem Gp.tok{a:Nat->Nat}{k:DK}(e:W.a=⟨#[]⟩)(g:eA (QR R W.a W.S) (fh KV) 8 P=.tok k m)(j:sP k≠0)(o:(iX (a P) (a m) k).k≠ .ic)(q:P<m/\m<=R.A.size)(u:W5 (iX (a P) (a m) k) (l5 W (iX (a P) (a m) k)) Q):Gp R a P W m Q:=
 Gp.step g j o q (by rw[aeT e];exact u)
def Sg.g(h:Sg W OF c K)(t:dj):Sg (l5 W t) OF c K:=⟨h.A,h.K,h.u,h.B,h.q,h.pp,h.E⟩
inductive Vx:List UInt8->List UInt8->Prop
 |nil:Vx [] []
 |one {c:UInt8} {w s:List UInt8}:c≠38->c≠60->c≠0->Vx w s->Vx (c::w) (c::s)
 |ref {nm t w s:List UInt8}:Vz nm t->t≠[]->(0:UInt8)∉t->Vx w s->Vx (38::(nm++w)) (t++s)
theorem ER:∀s:List UInt8,(0:UInt8)∉s->Vx (lp I s) s
 |[],_=> .nil
 |c::t,h=>by
  let v:c≠0:=λe=>h (by grind)
  have u:(0:UInt8)∉t:=λe=>h (gS _ e);have q:=ER t u;unfold lp;by_cases g:c=38;rw[dw g,g];exact Vx.ref (t:=[38]) aeO (by simp) (by simp) q;rw[di g,di (by simp)];by_cases j:c=60;rw[dw ⟨j,D⟩,j];exact Vx.ref (t:=[60]) amo (by simp) (by simp) q;rw[di (λh=>j h.1)];by_cases o:c=62;rw[dw ⟨o,D⟩,o];exact Vx.ref (t:=[62]) amn (by simp) (by simp) q;rw[di (λh=>o h.1)];split;rename_i t';exact Vx.ref (t:=[194,160]) Zg (by simp) (by simp) (ER t' λe=>u (gS _ e));grind[Vx.one]
theorem adT{l:List UInt8}(h:(0:UInt8)∉l):kN (bs l)=I:=by grind[eC,kN,fG]
def ajG(a b:List UInt8):bs a++bs b=bs (a++b):=by apply rW;simp
structure Pk(σ:N)(c:Nat)(ec:mh)(s:List UInt8)(σ':N):Prop where
 sm:Sm σ σ'
 le:ln σ'.d=ln σ.d+1
 B:σ'.d[ln σ.d]?=H (.tx (bs s))
 A:σ'.d[c]?=H (.el {ec with q:=ec.q++[.tx (ln σ.d)]})
 j:∀i,i<ln σ.d->i≠c->σ'.d[i]?=σ.d[i]?
 E:σ'.kept=σ.kept
 pl:σ'.S=σ.S
theorem Sg.key(h:Sg W OF c K)(j:U.d[c]?=H (.el {K with q:=aI}))(q:∀i,i<ln W.d->i≠c->U.d[i]?=W.d[i]?):∀i e,W.h i=H e->∃g,U.h i=H g/\g.name=e.name:=λi e o=>by grind[Sg.u,N.iQ,N.eH]
theorem Sg.j(h:Sg W OF c K)(g:U.d[c]?=H (.el {K with q:=aI}))(j:∀i,i<ln W.d->i≠c->U.d[i]?=W.d[i]?):∀x∈W.A,U.l7 x=W.l7 x:=λx o=>by
 cases x with
 |none=>rfl
 |some i=>
  let ⟨e,he⟩:=h.E i o
  let ⟨e',he',hn⟩:=h.key g j i e he
  show U.nm i=W.nm i;unfold N.nm;grind
theorem Sg.S(h:Sg W OF c K)(g:U.A=W.A)(u:U.B=W.B)(o:U.U=W.U)(j:U.d[c]?=H (.el {K with q:=aI}))(q:∀i,i<ln W.d->i≠c->U.d[i]?=W.d[i]?):Sg U OF c {K with q:=aI}:=by refine⟨g.trans h.A,h.K,N.iQ j,λx e=>h.B x (by grind),o.trans h.q,λx e=>?_,λi v=>?_⟩;rw[g]at e;rw[h.j j q x e];grind[pp];grind[Sg.E,key]
def Sg.after(h:Sg W OF c K)(e:Sm W U)(g:U.d[c]?=H (.el {K with q:=aI}))(j:∀i,i<ln W.d->i≠c->U.d[i]?=W.d[i]?):Sg U OF c {K with q:=aI}:=h.S e.A e.B e.q g j
inductive Mv(R:RC)(oT:O)(pl:Bool)(m:Nat):Nat->Nat->List UInt8->Prop
 |nil {ps:Nat}:Mv R oT pl m ps ps []
 |cons {ps q q':Nat} {p s:List UInt8}:eA (QR R oT pl) (fh KV) 8 ps=.tok (.DD (bs p)) q->qK (QR R oT pl) ps=QR R oT pl->ps<q->q<=R.A.size->p≠[]->D4 m (bs p)->Mv R oT pl m q q' s->Mv R oT pl m ps q' (p++s)
theorem Mv.none{e:O}{pl:Bool}{q:Nat}{s:List UInt8}(h:Mv R e pl m P q s)(g:s=[]):q=P:=by cases h<;>grind[List.append_eq_nil_iff]
theorem ahw{pl:Bool}(u:∀p:List UInt8,(0:UInt8)∉p->D4 m (bs p)){w s:List UInt8}(o:Vx w s):∀{A L:List UInt8},R.A=bs (A++(w++L))->Mv R ⟨#[]⟩ pl m (ln A) (ln (A++w)) s:=by
 induction o with
 |nil=>grind[Mv.nil]
 |@one c w s h1 h2 h3 o ih=>
  intro A L j
  let e:(QR R ⟨#[]⟩ pl).A=bs (A++c::(w++L)):=j
  let g:R.A=bs ((A++[c])++(w++L)):=by rw[j];simp
  let h:=ih g
  rw[show(A++[c])++w=A++c::w by simp]at h;refine Mv.cons (p:=[c]) (q:=ln (A++[c])) ?_ (QE D) (by simp) (by grind[gG]) (by simp) (u _ (by grind)) h;rw[Lb D e h2,FG e h1];simp
 |@ref nm p w s h1 h2 h3 o ih=>
  intro A L j
  let e:(QR R ⟨#[]⟩ pl).A=bs (A++38::(nm++(w++L))):=by show R.A=_;rw[j];simp
  let g:R.A=bs ((A++38::nm)++(w++L)):=by rw[j];simp
  let h:=ih g
  rw[show(A++38::nm)++w=A++38::(nm++w) by simp]at h;refine Mv.cons ?_ (QE D) (by simp) (by grind[gG]) h2 (u _ h3) h;rw[Lb D e (by decide),NN e h1];simp
section
variable {R:RC}{cut:Nat->Nat}{W:N}{OF:List Nat}{c:Nat}{K:mh}
theorem abJ(h:Sg W OF c K){P m:Nat}{p y:List UInt8}{U:N}(g:Pk W c K y U)(o:eA (QR R W.a W.S) (fh KV) 8 P=.tok (.DD (bs p)) m)(u:qK (QR R W.a W.S) P=QR R W.a W.S)(j:P<m/\m<=R.A.size)(q:D4 W.g (bs p)):Gp R cut P U m (Pk W c K (y++p)):=by
 let v:=(h.after g.sm g.A g.j).g (iX (cut P) (cut m) (.DD (bs p)))
 rw[<-g.sm.a,<-g.pl]at o u;refine Gp.step o (show(1)≠0 by decide) (nofun) j ?_;rw[aeU u];refine T5.e (q v g.sm.E g.sm.g ((v.e _).join _ (by simp) g.B)) λz e=>?_;subst e
 let E:=N.n h.u
 refine⟨⟨g.sm.A,g.sm.B,g.sm.head,g.sm.j,g.sm.g,g.sm.K,g.sm.q,g.sm.W,g.sm.a,g.sm.Q,g.sm.R,D⟩,?_,?_,?_,λi q a=>?_,g.E,g.pl⟩;grind[Pk.le];rw[qn (by rw[g.le];omega)];rfl
 all_goals grind[Pk.A,Pk.j]
theorem abK(h:Sg W OF c K){P m:Nat}{s:List UInt8}(o:Mv R W.a W.S W.g P m s):∀{g:List UInt8} {U:N},Pk W c K g U->Gp R cut P U m (Pk W c K (g++s)):=by
 induction o with
 |nil=>grind[Gp.refl]
 |cons h1 h2 h3 h4 _ h5 _ ih=>
  intro g U j;rw[<-oX];exact Gp.trans (abJ h j h1 h2 ⟨h3,h4⟩ h5) λ_ e=>ih e
theorem Mb(h:Sg W OF c K)(u:W.P=I)(v:∀i,K.q.getLast?≠H (.tx i)){P m:Nat}{s:List UInt8}(y:Mv R W.a W.S W.g P m s)(g:s≠[]):Gp R cut P W m (Pk W c K s):=by
 cases y with
 |nil=>grind
 |@cons _ q _ p s h1 h2 h3 h4 _ h5 h6=>
  refine Gp.trans (Gp.step h1 (show(1:Nat)≠0 by decide) (by simp[iX]) ⟨h3,h4⟩ ?_) λ_ o=>abK h h6 o;rw[aeU h2]
  let g:=h.g (iX (cut P) (cut q) (.DD (bs p)))
  refine T5.e (h5 g u D ((g.e _).DD _ v)) λj e=>?_
  let ⟨e1,e2,e3,e4,e5⟩:=e
  refine⟨?_,e2,e3,e4,e5,by rw[e1],by rw[e1]⟩;constructor<;>grind
end
structure Dk(σ:N)(OF:List Nat)(c:Nat)(ec:mh)(ts:List Tn)(σ':N):Prop where
 le:ln σ.d<=ln σ'.d
 g:∃ks,σ'.d[c]?=H (.el {ec with q:=ec.q++ks})/\qW σ' (ln σ.d) (ln σ'.d) ts ks
 j:∀i,i<ln σ.d->i≠c->σ'.d[i]?=σ.d[i]?
structure Dn(σ:N)(OF:List Nat)(c:Nat)(ec:mh)(ts:List Tn)(σ':N):Prop where
 sm:Sm σ σ'
 A:Dk σ OF c ec ts σ'
section
variable {W σ1 X σ3:N}{OF:List Nat}{c:Nat}{K:mh}{t t':dj}{nm:O}{bY:iB}{ts us:List Tn}
def Sm.e(e:W.P=I):Sm W W:=⟨D,D,D,D,D,D,D,D,D,D,D,e⟩
theorem Dn.le(h:Dn W OF c K ts σ1):ln W.d<=ln σ1.d:=h.A.le
theorem Dn.g(h:Dn W OF c K ts σ1):∃ks,σ1.d[c]?=H (.el {K with q:=K.q++ks})/\qW σ1 (ln W.d) (ln σ1.d) ts ks:=h.A.g
theorem Dn.j(h:Dn W OF c K ts σ1):∀i,i<ln W.d->i≠c->σ1.d[i]?=W.d[i]?:=h.A.j
structure Z3(σ:N)(OF:List Nat)(c:Nat)(ec:mh):Prop where
 mem:c∈OF
 lt:∀i∈OF,i<ln σ.d
 u:σ.h c=H ec
def Sg.mem(h:Sg W OF c K):c∈OF:=ra h.K
theorem Sg.lt(h:Sg W OF c K){i:Nat}(g:i∈OF):i<ln W.d:=by
 let ⟨e,he⟩:=h.E i (by rw[h.A];grind)
 exact N.n he
def Sg.z(h:Sg W OF c K):Z3 W OF c K:=⟨h.mem,λ_=>h.lt,h.u⟩
theorem Dk.nil(h:Z3 W OF c K):Dk W OF c K [] W:=⟨dF _,⟨[],by rw[yy];exact N.eH h.u,by trivial⟩,by grind⟩
theorem Dn.nil(h:Sg W OF c K)(e:W.P=I):Dn W OF c K [] W:=⟨Sm.e e,Dk.nil h.z⟩
def Dk.z{a:List Nd}(h:Z3 W OF c K)(e:Dk W OF c K ts σ1)(j:σ1.d[c]?=H (.el {K with q:=K.q++a})):Z3 σ1 OF c {K with q:=K.q++a}:=⟨h.mem,λi g=>kQ (h.lt i g) e.le,N.iQ j⟩
def Dn.e{a:List Nd}(h:Sg W OF c K)(e:Dn W OF c K ts σ1)(g:σ1.d[c]?=H (.el {K with q:=K.q++a})):Sg σ1 OF c {K with q:=K.q++a}:=h.after e.sm g e.j
theorem Dk.trans(h:Z3 W OF c K)(j:Dk W OF c K ts σ1){a:List Nd}(v:σ1.d[c]?=H (.el {K with q:=K.q++a}))(o:Dk σ1 OF c {K with q:=K.q++a} us X):Dk W OF c K (ts++us) X:=by
 let ⟨ks1,e1,r1⟩:=j.g
 let ⟨ks2,e2,r2⟩:=o.g
 have:a=ks1:=by rw[v]at e1;injection e1 with e;injection e with e;injection e with _ _ _ e;exact List.append_cancel_left e
 subst this;refine⟨gR j.le o.le,⟨a++ks2,by grind,qW.e (qW.q (λi g q=>⟨kQ g o.le,q,o.j i g λe=>absurd (h.lt _ h.mem) (by omega)⟩) _ _ r1) (qW.q (λi g q=>⟨g,gR j.le q,D⟩) _ _ r2)⟩,λi g u=>(o.j i (kQ g j.le) u).trans (j.j i g u)⟩
theorem Dn.trans(h:Sg W OF c K)(e:Dn W OF c K ts σ1){a:List Nd}(j:σ1.d[c]?=H (.el {K with q:=K.q++a}))(g:Dn σ1 OF c {K with q:=K.q++a} us X):Dn W OF c K (ts++us) X:=⟨e.sm.trans g.sm,Dk.trans h.z e.A j g.A⟩
theorem Dn.tx(h:Sg W OF c K){s:List UInt8}(e:Pk W c K s σ1):Dn W OF c K [.tx (bs s)] σ1:=
 ⟨e.sm,by rw[e.le];omega,⟨_,e.A,by
  refine⟨⟨by rw[e.le];omega,dF _,e.B⟩,?_⟩;unfold qW;trivial⟩,e.j⟩
theorem Dn.leaf{nd:zE}{k:Nat->Nd}{T:Tn}(h:Z3 W OF c K)(g:∀{U:N} {lo n i:Nat},i<n->lo<=i->U.d[i]?=H nd->XZ U lo n T (k i))(e:JF (fV (l5 W t) t) c K nd k σ1):Dn W OF c K [T] σ1:=by
 let ⟨e1,e2,e3,e4,e5⟩:=e
 refine⟨?_,by grind,⟨_,e4,by grind,by trivial⟩,e5⟩;constructor<;>grind
theorem Dn.cm(h:Z3 W OF c K){s:O}(e:JF (fV (l5 W t) t) c K (.cm s) .cm σ1):Dn W OF c K [.cm s] σ1:=Dn.leaf h (λa b c=>by unfold XZ;grind) e
theorem Dn.Fs(h:Sg W OF c K)(o:Z0 (fV (l5 W t) t) c K nm bY σ1):Dn W OF c K [.el nm bY []] σ1:=by obtain⟨q,⟨e1,e2,e,g,j,_⟩,rfl⟩:=o;refine⟨?_,by grind,⟨_,g,⟨by grind,dF _,_,e,D,D,by trivial⟩,by trivial⟩,j⟩;constructor<;>grind
def qV(W:N)(c:Nat)(b:mh)(nm:O)(bY:iB)(md:Nat)(a:iU)(U:N):Prop:=∃σ1,ZZ W c b nm bY σ1/\U={σ1 with g:=md,B:=a}
def zS(W:N)(md:Nat)(a:iU)(U:N):Prop:=U={W with A:=W.A.dropLast,g:=md,B:=a}
def ZZ.e(h:ZZ W c K nm bY σ1):qV W c K nm bY W.g W.B σ1:=⟨σ1,h,by
 let e1:σ1.g=W.g:=by rw[h.st]
 let e2:σ1.B=W.B:=by rw[h.st]
 rw[<-e1,<-e2]⟩
def sQ{W U:N}:∀L:iU,(∀x∈L,U.l7 x=W.l7 x)->jq U L=jq W L
 |[],_=>rfl
 |x::L,h=>by unfold jq;rw[h x (js ..),sQ L λy e=>h y (gS _ e)]
structure Nw(σ:N)(OF:List Nat)(nm:O)(md:Nat)(ac:iU)(σ1:N):Prop where
 a:σ1.a=σ.a
 E:σ1.P=I
 K:σ1.L=σ.L
 g:σ1.g=md
 B:σ1.B=ac
 Q:σ1.Q=σ.Q
 R:σ1.R=σ.R
 A:ln OF<σ.Q
 j:∀x∈σ.A,σ1.l7 x=σ.l7 x
 v:jq σ1 σ1.A.reverse=if de nm=6 then jq σ σ.A.reverse else de nm
theorem qV.e{md:Nat}{b:iU}(h:Sg W OF c K)(d:fG nm jV=I)(u:∀x∈b,x=F)(a:qV (fV (l5 W t) t) c K nm bY md b σ1):Sg σ1 (OF++[ln W.d]) (ln W.d) ⟨nm,bY,H c,[]⟩/\Nw W OF nm md b σ1:=by
 obtain⟨g,⟨e1,e2,q,E,P,aJ⟩,rfl⟩:=a
 let v:g.A=W.A++[H (ln W.d)]:=by rw[e1]
 let z:g.l7 (H (ln W.d))=nm:=by simp[N.l7,N.nm,(N.iQ q)]
 let S:=h.j (U:=g) E P
 refine⟨⟨by grind[Sg.A],by simp,N.iQ q,u,by grind[Sg.q],λx j=>?_,λi o=>?_⟩,⟨?_,?_,?_,D,D,?_,?_,?_,S,?_⟩⟩;rcases dA.1 (v▸j)with j|j;show fG (g.l7 x) _=I;grind[Sg.pp];rw[cC.1 j];show fG (g.l7 (H (ln W.d))) _=I;grind;rcases dA.1 (v▸o)with o|o
 let ⟨e,he⟩:=h.E i o
 let ⟨e',he',_⟩:=h.key (U:=g) E P i e he
 exact⟨e',he'⟩;have:=cC.1 o;injection this with this;subst this;exact⟨_,N.iQ q⟩;grind;grind;grind;grind;grind;have:ln W.A=ln OF:=by rw[h.A];simp
 grind
 let U:jq {g with g:=md,B:=b} W.A.reverse=jq W W.A.reverse:=sQ _ λx z=>S x (dU.1 z)
 let y:jq {g with g:=md,B:=b} g.A.reverse=jq {g with g:=md,B:=b} (H (ln W.d)::W.A.reverse):=mf _ (by rw[v];simp)
 refine y.trans ?_;show(if de (g.l7 (H (ln W.d)))=6 then jq {g with g:=md,B:=b} W.A.reverse else de (g.l7 (H (ln W.d))))=_;rw[z,U]
theorem Dk.el{a:N}(h:Z3 W OF c K)(e2:ln a.d=ln W.d+1)(q:a.d[c]?=H (.el {K with q:=K.q++[.el (ln W.d)]}))(u:∀i,i<ln W.d->i≠c->a.d[i]?=W.d[i]?)(y:σ1.d=a.d){e:fW}{b:List Nat}(g:Dk σ1 b (ln W.d) ⟨nm,bY,e,[]⟩ ts X)(v:σ3.d=X.d):Dk W OF c K [.el nm bY ts] σ3:=by
 let ⟨ks,k1,k2⟩:=g.g
 let o:=g.j
 let j:=h.lt _ h.mem
 refine⟨by grind,⟨[.el _],?_,⟨by grind,dF _,⟨nm,bY,e,[]++ks⟩,by grind,D,D,?_⟩,by trivial⟩,by grind⟩
 all_goals grind[qW.q]
theorem Dn.el{md:Nat}{a:iU}(h:Sg W OF c K)(u:qV (fV (l5 W t) t) c K nm bY md a σ1)(j:Dn σ1 (OF++[ln W.d]) (ln W.d) ⟨nm,bY,H c,[]⟩ ts X)(v:zS (fV (l5 X t') t') W.g W.B σ3):Dn W OF c K [.el nm bY ts] σ3:=by
 obtain⟨g,⟨e1,e2,y,o,q,z⟩,rfl⟩:=u
 let e:=j.sm
 subst v;refine⟨?_,Dk.el (σ1:={g with g:=md,B:=a}) h.z e2 o q D j.A D⟩;rw[e1]at e;refine⟨?_,D,e.head,e.j,D,e.K,e.q,e.W,e.a,e.Q,e.R,D⟩;rw[e.A];simp
def yF(W e:N):Prop:=e.a=W.a/\∀(t:dj)(Q:N->Prop),t.k≠ .ic->(∀s,t.k≠ .fI s)->T5 t (l5 W t) Q->W5 t (l5 e t) Q
theorem yF.refl(W:N):yF W W:=⟨D,λ_ _ _ _ h=>h.e λ_ h=>h⟩
def Dw(W:N)(a:List Nat)(c:Nat)(b:mh)(ts:List Tn)(U:N):Prop:=∃X,Dn W a c b ts X/\yF X U
end
def iV(nm:List UInt8)(bY:JC):List UInt8:=60::(nm++(tw bY++[62]))
def jo(nm:List UInt8):List UInt8:=60::47::(nm++[62])
def IU(t:List UInt8):List UInt8:=60::33::45::45::(t++[45,45,62])
structure zF(R:RC)(bY:JC):Prop where
 nm:∀a∈bY,ZX a.1/\(0:UInt8)∉a.2
 nd:(bY.map (·.1)).Nodup
 le:((ln bY:Nat):Int)<=R.at_
section
variable {R:RC}{cut:Nat->Nat}{W:N}{OF:List Nat}{c:Nat}{K:mh}{A nm L:List UInt8}{bY:JC}{Q:N->Prop}
theorem Ai(g:W.a=⟨#[]⟩)(o:R.A=bs (A++(iV nm bY++L)))(u:tr nm)(ha:zF R bY)(v:∀a b,W5 ⟨a,b,.start (bs nm),qJ bY⟩ (l5 W ⟨a,b,.start (bs nm),qJ bY⟩) Q):Gp R cut (ln A) W (ln (A++iV nm bY)) Q:=by
 let e:(QR R W.a W.S).A=bs (A++60::(nm++(tw bY++62::L))):=by show R.A=_;rw[o];simp[iV]
 let j:=aek g e u ha.nm ha.nd ha.le
 let q:ln A+1+ln nm+ln (tw bY)+1=ln (A++iV nm bY):=by simp[iV];omega
 rw[q]at j;refine Gp.tok g j (show(2)≠0 by decide) (nofun) ⟨by grind,by grind[gG]⟩ (v _ _)
theorem Qh(j:W.a=⟨#[]⟩)(q:R.A=bs (A++(jo nm++L)))(u:tr nm)(g:0<=R.at_)(v:∀a b,W5 ⟨a,b,.stop (bs nm),[]⟩ (l5 W ⟨a,b,.stop (bs nm),[]⟩) Q):Gp R cut (ln A) W (ln (A++jo nm)) Q:=by
 let e:(QR R W.a W.S).A=bs (A++60::47::(nm++62::L)):=by show R.A=_;rw[q];simp[jo]
 let o:=TW j e u g
 let g:ln A+2+ln nm+1=ln (A++jo nm):=by simp[jo];omega
 rw[g]at o;refine Gp.tok j o (show(3)≠0 by decide) (nofun) ⟨by grind,by grind[gG]⟩ (v _ _)
theorem adD{t:List UInt8}(g:W.a=⟨#[]⟩)(o:R.A=bs (A++(IU t++L)))(u:vO t)(v:∀a b,W5 ⟨a,b,.dz (bs t),[]⟩ (l5 W ⟨a,b,.dz (bs t),[]⟩) Q):Gp R cut (ln A) W (ln (A++IU t)) Q:=by
 let e:(QR R W.a W.S).A=bs (A++60::33::45::45::(t++45::45::62::L)):=by show R.A=_;rw[o];simp[IU]
 let j:=aeg (o:=fh KV) (lg:=8) g e u
 let q:ln A+4+ln t+3=ln (A++IU t):=by simp[IU];omega
 rw[q]at j;refine Gp.tok g j (show(4)≠0 by decide) (nofun) ⟨by grind,by grind[gG]⟩ (v _ _)
theorem aiJ{w:List UInt8}{ts:List Tn}{md:Nat}{f:iU}{j:N}(h:Sg W OF c K)(v:yF W j)(q:W.a=⟨#[]⟩)(S:R.A=bs (A++(iV nm bY++(w++(jo nm++L)))))(y:tr nm)(ha:zF R bY)(l:fG (bs nm) jV=I)(o:∀x∈f,x=F)
  (B:∀a b,T5 ⟨a,b,.start (bs nm),qJ bY⟩ (l5 W ⟨a,b,.start (bs nm),qJ bY⟩) (qV (fV (l5 W ⟨a,b,.start (bs nm),qJ bY⟩) ⟨a,b,.start (bs nm),qJ bY⟩) c K (bs nm) (qJ bY) md f))
  (d:∀σ1,Sg σ1 (OF++[ln W.d]) (ln W.d) ⟨bs nm,qJ bY,H c,[]⟩->Nw W OF (bs nm) md f σ1->Gp R cut (ln (A++iV nm bY)) σ1 (ln ((A++iV nm bY)++w)) (Dw σ1 (OF++[ln W.d]) (ln W.d) ⟨bs nm,qJ bY,H c,[]⟩ ts))
  (U:∀X aI a b,Sg X (OF++[ln W.d]) (ln W.d) ⟨bs nm,qJ bY,H c,aI⟩->X.P=I->X.g=md->X.B=f->(∀x∈W.A,X.l7 x=W.l7 x)->T5 ⟨a,b,.stop (bs nm),[]⟩ (l5 X ⟨a,b,.stop (bs nm),[]⟩) (zS (fV (l5 X ⟨a,b,.stop (bs nm),[]⟩) ⟨a,b,.stop (bs nm),[]⟩) W.g W.B)):Gp R cut (ln A) j (ln (A++(iV nm bY++(w++jo nm)))) (Dn W OF c K [.el (bs nm) (qJ bY) ts]):=by
 let E:(A++(iV nm bY++(w++jo nm)))=((A++iV nm bY)++w)++jo nm:=by simp
 rw[E];refine Gp.trans (Q:=λσ1=>∃t,qV (fV _ t) c K _ _ md f σ1) (Ai (v.1.trans q) S y ha λa b=>v.2 _ _ (nofun) (nofun) (T5.mono (B a b) λ_ h=>⟨_,h⟩)) λσ1 ⟨t,u⟩=>?_
 let ⟨g1,n1⟩:=qV.e h l o u
 refine Gp.trans (d σ1 g1 n1) λz ⟨X,e,g⟩=>?_
 let ⟨ks,hk,hr⟩:=e.g
 let k:=g1.A
 exact Qh (g.1.trans (e.sm.a.trans (n1.a.trans q))) (L:=L) (by grind) y (Int.le_trans (Int.natCast_nonneg _) ha.le) λa b=>g.2 _ _ (nofun) (nofun) (T5.mono (U X _ a b (e.e g1 hk) e.sm.E (e.sm.g.trans n1.g) (e.sm.B.trans n1.B) (λx i=>(g1.j hk e.j x (by grind[Sg.A])).trans (n1.j x i))) λσ3 P=>Dn.el h u e P)
end
def G0:Tn->Bool
 | .tx _=>C
 |_=>I
def GO:List Tn->Bool
 |t::_=>G0 t
 |[]=>I
structure Bn(nm:O):Prop where
 c1:zv oE.start nm=C
 c2:zv tX.start nm=C
 e:zv oE.stop nm=C
 B:zv tX.stop nm=C
 E:fG nm jV=I
 A:de nm=6
def Is(p nm:O):Prop:=zv ib.start nm=C/\zv ib.stop nm=C\/(nm=gw\/nm=iK)\/nm=eN/\p=iK
section
variable {W:N}{OF:List Nat}{c:Nat}{K:mh}{a b:Nat}{bY:iB}{nm:O}
theorem DO(g:W.g=6\/W.g=9\/W.g=13)(h:Bn nm):R4 W ⟨a,b,.start nm,bY⟩:=by rcases g with e|e|e;exact .inl e;refine .inr (.inl ⟨e,?_⟩);unfold eI;dsimp only;rw[yb h.c1];rfl;refine .inr (.inr ⟨e,?_⟩);unfold eI;dsimp only;rw[yb h.c2];rfl
theorem ags(g:W.g=6\/W.g=9\/W.g=13)(h:Bn nm):R4 W ⟨a,b,.stop nm,bY⟩:=by rcases g with e|e|e;exact .inl e;refine .inr (.inl ⟨e,?_⟩);unfold eI;dsimp only;rw[yb h.e];rfl;refine .inr (.inr ⟨e,?_⟩);unfold eI;dsimp only;rw[yb h.B];rfl
def agr{s:O}(g:W.g=6\/W.g=9\/W.g=13):R4 W ⟨a,b,.dz s,bY⟩:=by rcases g with e|e|e;exact .inl e;exact .inr (.inl ⟨e,D⟩);exact .inr (.inr ⟨e,D⟩)
theorem akS(h:Sg W OF c K)(j:W.P=I)(o:W.g=6\/W.g=9\/W.g=13)(q:Bn nm)(g:Is K.name nm):T5 ⟨a,b,.start nm,bY⟩ W λU=>ZZ (fV W ⟨a,b,.start nm,bY⟩) c K nm bY U:=by
 rcases g with e|e|⟨rfl,e⟩
 all_goals grind[abz,DO,aby,akU]
theorem aj0{p:O}(h:Sg W OF c K)(j:W.P=I)(o:W.g=6\/W.g=9\/W.g=13)(q:Bn K.name)(g:Is p K.name):T5 ⟨a,b,.stop K.name,bY⟩ W (F3 (fV W ⟨a,b,.stop K.name,bY⟩)):=by
 rcases g with e|e|⟨e,_⟩
 all_goals grind[aaK,ags,aaJ,aj1]
end
theorem PK{w:M Unit}(g:W.g=3\/R4 W t/\eI ib t=.qX 3)(j:eI gI t=r)(v:W.P=I)(e:t.k≠ .ic)(o:∀n,jp I (dx C n) (dx I n) r t=w)(h:Ns w (fV W t) λ_=>Q):T5 t W Q:=by
 refine⟨v,λn y=>?_⟩;obtain⟨k,rfl⟩:∃k,n=k+1+1+1:=⟨n-3,by omega⟩
 let e2:dx I (k+1+1+1) W.g t=w:=by rcases g with g|⟨g|⟨g,q⟩|⟨g,q⟩,u⟩;rw[g];exact(lK D j e).trans (o _);rw[g];exact(lK D u e).trans ((lK D j e).trans (o _));rw[g];exact(lK D q e).trans ((lK D u e).trans ((lK D j e).trans (o _)));rw[g];exact(lK D q e).trans ((lK D u e).trans ((lK D j e).trans (o _)))
 grind
def UG{bY:iB}(h:Sg W OF c K)(e:W.P=I)(g:W.g=3\/R4 W ⟨a,b,.start dy,bY⟩):T5 ⟨a,b,.start dy,bY⟩ W λU=>Z0 (fV W ⟨a,b,.start dy,bY⟩) c K dy bY U:=
 PK (g.imp id λh=>⟨h,by kernel_rfl⟩) (r:=.dX 104) (by kernel_rfl) e (nofun) (λ_=>D) ((h.e _).Fs _)
def Jr(W:N)(c:Nat)(a:mh)(nm:O)(bY:iB)(pl:Bool)(U:N):Prop:=∃σ1,ZZ W c a nm bY σ1/\U={σ1 with a:=nm,S:=pl,kept:=W.g,g:=5}
section
variable {W:N}{OF:List Nat}{c:Nat}{K:mh}{a b:Nat}{bY:iB}
def Sg.ai2(h:Sg W OF c K)(t:dj)(pl:Bool):Ns (lu t pl) W λ_ U=>Jr W c K t.name t.h pl U:=
 Ns.bind (h.eE t) λ_ σ1 g=>Ns.ok (U:={σ1 with a:=t.name,S:=pl,kept:=σ1.g,g:=5}) D ⟨σ1,g,by
  let e:σ1.g=W.g:=by rw[g.st]
  rw[e]⟩
def abC(h:Sg W OF c K)(e:W.P=I)(g:W.g=3\/R4 W ⟨a,b,.start bO,bY⟩):T5 ⟨a,b,.start bO,bY⟩ W λU=>Jr (fV W ⟨a,b,.start bO,bY⟩) c K bO bY I U:=
 PK (g.imp id λh=>⟨h,by kernel_rfl⟩) (r:=.dX 105) (by kernel_rfl) e (nofun) (λ_=>D) (Ns.bind ((h.e _).ai2 _ _) λ_ _ h=>Ns.pure h)
def abA(h:Sg W OF c K)(e:W.P=I)(g:W.g=3\/R4 W ⟨a,b,.start aN,bY⟩):T5 ⟨a,b,.start aN,bY⟩ W λU=>Jr (fV W ⟨a,b,.start aN,bY⟩) c K aN bY C U:=
 PK (g.imp id λh=>⟨h,by kernel_rfl⟩) (r:=.dX 106) (by kernel_rfl) e (nofun) (λ_=>D) (Ns.bind ((h.e _).ai2 _ C) λ_ _ h=>Ns.pure h)
end
def xB(s:List UInt8):List Tn:=if s=[]then []else [.tx (bs s)]
theorem abM{nm a:List UInt8}(q:nm≠[]){w s:List UInt8}(o:Vx w s):∀{A:List UInt8},R.A=bs (A++(w++a))->Mv R (bs nm) I 5 (ln A) (ln (A++w)) s:=by
 induction o with
 |nil=>grind[Mv.nil]
 |@one c w s h1 h2 h3 o ih=>
  intro A j
  let e:(QR R (bs nm) I).A=bs (A++c::(w++a)):=j
  let g:R.A=bs ((A++[c])++(w++a)):=by rw[j];simp
  let h:=ih g
  rw[show(A++[c])++w=A++c::w by simp]at h
  let ⟨a1,a2⟩:=EN (o:=fh KV) (lg:=8) D q e (by simp) (Yo h2)
  refine Mv.cons (p:=[c]) ?_ a2 (by simp) (by grind[gG]) (by simp) (KG _) h;rw[a1,afy D e h3 h1];simp
 |@ref r p w s h1 h2 h3 o ih=>
  intro A j
  let e:(QR R (bs nm) I).A=bs (A++38::(r++(w++a))):=by show R.A=_;rw[j];simp
  let g:R.A=bs ((A++38::r)++(w++a)):=by rw[j];simp
  let h:=ih g
  rw[show(A++38::r)++w=A++38::(r++w) by simp]at h
  let ⟨a1,a2⟩:=EN (o:=fh KV) (lg:=8) D q e (by simp) (Yo (by decide))
  refine Mv.cons ?_ a2 (by simp) (by grind[gG]) h2 (KG _) h;rw[a1,aid D e h1 h3];simp
theorem OX{nm a:List UInt8}(g:nm≠[]):∀{s A:List UInt8},(0:UInt8)∉s->(∀i,i<ln s->oQ nm (s.drop i++a)=I)->R.A=bs (A++(s++a))->Mv R (bs nm) C 5 (ln A) (ln (A++s)) s
 |[],A,_,_,_=>by grind[Mv.nil]
 |c::s,A,h0,he,hR=>by
  let e:(QR R (bs nm) C).A=bs _:=hR
  let h:=OX g (A:=A++[c]) (λh=>h0 (gS _ h)) (λi q=>by simpa using he (i+1) (by simp;omega)) (by rw[hR];simp)
  rw[show(A++[c])++s=A++c::s by simp]at h;obtain⟨j,o⟩:=EN (R:=QR R (bs nm) C) D g e (by simp) (by grind);refine Mv.cons (p:=[c]) ?_ o (by simp) (by grind[gG]) (by simp) (KG _) h;rw[j,abO D e (λe=>h0 (by grind))];simp
section
variable {R:RC}{cut:Nat->Nat}{W:N}{OF:List Nat}{c:Nat}{K:mh}{A nm L:List UInt8}{bY:JC}
theorem adE{w s:List UInt8}{pl:Bool}{v:N}(h:Sg W OF c K)(U:yF W v)(m:W.a=⟨#[]⟩)(d:R.A=bs (A++(iV nm bY++(w++(jo nm++L)))))(f:tr nm)(ha:zF R bY)(p:fG (bs nm) jV=I)(n:∀c∈nm,¬(65<=c.toNat/\c.toNat<=90))
  (u:∀a b,T5 ⟨a,b,.start (bs nm),qJ bY⟩ (l5 W ⟨a,b,.start (bs nm),qJ bY⟩) (Jr (fV (l5 W ⟨a,b,.start (bs nm),qJ bY⟩) ⟨a,b,.start (bs nm),qJ bY⟩) c K (bs nm) (qJ bY) pl))
  (r:Mv R (bs nm) pl 5 (ln (A++iV nm bY)) (ln ((A++iV nm bY)++w)) s):Gp R cut (ln A) v (ln (A++(iV nm bY++(w++jo nm)))) (Dn W OF c K [.el (bs nm) (qJ bY) (xB s)]):=by
 let z:0<=R.at_:=Int.le_trans (Int.natCast_nonneg _) ha.le
 let l:(A++(iV nm bY++(w++jo nm)))=((A++iV nm bY)++w)++jo nm:=by simp
 rw[l];refine Gp.trans (Q:=λσ1=>∃t,Jr (fV (l5 W t) t) c K (bs nm) (qJ bY) pl σ1) (Ai (U.1.trans m) d f ha λa b=>U.2 _ _ (by simp) (by simp) (T5.mono (u a b) λ_ h=>⟨_,h⟩)) λσ1 ⟨t,o,P,e1⟩=>?_
 let ⟨g0,n0⟩:=qV.e (t:=t) h p (h.B) P.e
 let y:Sg σ1 (OF++[ln W.d]) (ln W.d) ⟨bs nm,qJ bY,H c,[]⟩:=by rw[e1];exact⟨g0.A,g0.K,g0.u,g0.B,g0.q,g0.pp,g0.E⟩
 let E:σ1.a=bs nm/\σ1.S=pl/\σ1.kept=W.g/\σ1.g=5/\σ1.P=I:=by rw[e1];exact⟨D,D,D,D,n0.E⟩
 let ⟨E,x2,x3,x4,x5⟩:=E
 refine Gp.trans (a:=ln ((A++iV nm bY)++w)) (Q:=λX=>Dn σ1 (OF++[ln W.d]) (ln W.d) ⟨bs nm,qJ bY,H c,[]⟩ (xB s) X/\X.kept=W.g/\X.S=pl) ?_ λX ⟨j,k2,B⟩=>?_;by_cases u:s=[];rw[r.none u,u];exact Gp.refl ⟨Dn.nil y x5,x3,x2⟩;refine Gp.mono (Mb y x5 (λi e=>nomatch e) (by grind) u) λX S=>⟨?_,S.E.trans x3,S.pl.trans x2⟩;grind[Dn.tx,xB]
 let x:X.a=bs nm:=j.sm.a.trans E
 let ⟨ks,hk,hr⟩:=j.g
 let F:=j.e y hk
 let e:(QR R (bs nm) pl).A=bs (((A++iV nm bY)++w)++60::47::(nm++62::L)):=by show R.A=_;rw[d];simp[jo]
 let ⟨a1,a2⟩:=aei (R:=QR R (bs nm) pl) (o:=fh KV) (lg:=8) D e (by simp) (adh n)
 let aJ:=TW (R:=QR R ⟨#[]⟩ pl) D e f z
 let hl:ln ((A++iV nm bY)++w)+2+ln nm+1=ln (((A++iV nm bY)++w)++jo nm):=by simp[jo];omega
 rw[hl]at aJ
 let q:=a1.trans aJ
 rw[<-x,<-B]at q;refine Gp.step q (show(3:Nat)≠0 by decide) (by simp[iX]) ⟨by simp[jo],by grind[gG]⟩ ?_
 let er:∀t,pD R X (ln ((A++iV nm bY)++w)) t={X with E:=t.l6,a:=⟨#[]⟩}:=λt=>by grind[pD]
 rw[er];refine T5.e (qs (m:=5) (sp:=yp) (k:=113) (w:=xh) (Q:=λσ3=>∃t:dj,σ3={X with E:=t.l6,a:=⟨#[]⟩,P:=I,K:=t.a,A:=X.A.dropLast,g:=X.kept}) (j.sm.g.trans x4) D D j.sm.E (by simp[iX]) (λ_=>D) (Ns.ok (a:=()) D ⟨_,D⟩)) λσ3 ⟨t',h3⟩=>?_
 let k:Dn o (OF++[ln W.d]) (ln W.d) ⟨bs nm,qJ bY,H c,[]⟩ (xB s) {X with a:=o.a,g:=o.g}:=by
  let g:=j.sm
  rw[e1]at g;refine⟨⟨g.A,g.B,g.head,g.j,D,g.K,g.q,g.W,D,g.Q,g.R,g.E⟩,?_,⟨ks,hk,?_⟩,?_⟩;have:=j.le;grind;grind[qW.q];grind[Dn.j]
 refine Dn.el (t:=t) (t':=t') h P.e k ?_
 let C:X.B=W.B:=j.sm.B.trans (by grind[Nw.B])
 grind[Nw.a,zS]
end
def Sg.clear(h:Sg W OF c K){p:O->Bool}(q:p K.name=C):W.qv p=W:=by
 obtain⟨j,rfl⟩:=eT.1 h.K
 let g:W.A.reverse=H c::(j.map H).reverse:=by rw[h.A];simp
 let o:W.l7 (H c)=K.name:=h.nm
 let e:(W.mW (λs=>!(p s||cZ [(aC)] s)) W.A.reverse).reverse=W.A:=by rw[g];unfold N.mW;rw[o,q];simp only[Bool.true_or,Bool.not_true,uS,AO];rw[<-g,List.reverse_reverse]
 unfold N.qv;rw[e]
theorem Av{a:iU}(h:∀x∈a,x=F):∀x∈a++[F],x=F:=λx e=>by grind
def Ns.mark(h:ln W.B<W.R):Ns (gN F) W λ_ U=>U={W with B:=W.B++[F]}:=by intro _;unfold gN;rw[di (by omega)];exact .inr ⟨_,_,D,D⟩
theorem Xg(a:iU):mc (a++[F]) F=a:=by unfold mc;simp
section
variable {W:N}{OF:List Nat}{c:Nat}{K:mh}{a b:Nat}{bY:iB}{nm:O}
def Sg.Jl(h:Sg W OF c K)(t:dj)(m:Nat):Ns (do Go.Proofs.YtcalkelgoekpfaaGreatDoor.eE t;iA m;return ():M Unit) W λ_=>qV W c K t.name t.h m W.B:=
 Ns.bind (h.eE t) λ_ σ1 e=>Ns.ok D ⟨σ1,e,by
  have:σ1.B=W.B:=by rw[e.st]
  rw[<-this]⟩
def Sg.nN(h:Sg W OF c K){a:List O}(g:cZ a K.name=C)(t:dj)(m:Nat):Ns (uw a m t) W λ_=>qV W c K t.name t.h m W.B:=
 Ns.bind (Q:=λ_ U=>U=W) (Ns.ok rfl (h.clear g)) λ_ U e=>by subst e;exact h.Jl t m
theorem Sg.table(h:Sg W OF c K)(t:dj):Ns (tZ t) W λ_=>qV W c K t.name t.h 7 W.B:=
 Ns.bind (Q:=λ_ U=>U=W) (Ns.ok (a:=()) (by
  unfold xa;grind[V0]) rfl) λ_ U e=>by
  subst e;exact h.Jl t 7
theorem Sg.agv(h:Sg W OF c K)(o:cZ [aH] K.name=C)(j:ln W.B<W.R)(t:dj):Ns (oF t) W λ_=>qV W c K t.name t.h 9 (W.B++[F]):=
 Ns.bind (Q:=λ_ U=>U=W) (Ns.ok rfl (h.clear o)) λ_ U e=>by
  subst e;exact Ns.bind (Ns.mark j) λ_ X e=>by
   subst e;exact Ns.mono (((show Sg {U with B:=(U.B++[F])} OF c K from⟨h.A,h.K,h.u,(Av h.B),h.q,h.pp,h.E⟩)).Jl t 9) λ_ σ3 ⟨σ1,g,e⟩=>⟨{σ1 with B:=U.B},⟨by
    have:=g.st;grind,g.le,g.B,g.A,g.j,g.E⟩,e⟩
theorem Sg.cell(h:Sg W OF c K)(j:cZ [dK] K.name=C)(o:ln W.B<W.R)(t:dj):Ns (qF t) W λ_=>qV W c K t.name t.h 13 (W.B++[F]):=
 Ns.bind (Q:=λ_ U=>U=W) (Ns.ok rfl (h.clear j)) λ_ U e=>by
  subst e;exact Ns.bind (h.eE t) λ_ σ1 g=>Ns.bind (Q:=λ_ X=>X={σ1 with g:=13}) (Ns.ok D D) λ_ X e=>by
   let e1:σ1.B=U.B:=by rw[g.st]
   let e2:σ1.R=U.R:=by rw[g.st]
   exact Ns.bind (Ns.mark (by grind)) λ_ σ3 e=>Ns.pure ⟨σ1,g,by
    grind⟩
def Sg.mD(h:Sg W OF c K){a:List O}(e:cZ a K.name=C)(m:Nat):Ns (mD a m) W λb U=>b=C/\zS W m W.B U:=
 Ns.bind (Q:=λb U=>b=C/\U={W with A:=W.A.dropLast}) (Ns.ok (h.close e) ⟨rfl,rfl⟩) λb U ⟨e1,e2⟩=>by subst e1 e2;exact Ns.ok D ⟨D,D⟩
theorem Sg.N3(h:Sg W OF c K){d:List O}(g:cZ d K.name=C)(m:Nat){a:iU}(ha:W.B=a++[F]):Ns (jn d m) W λb U=>b=C/\zS W m a U:=
 Ns.bind (h.mD g m) λb U ⟨e1,e2⟩=>by subst e1;subst e2;refine Ns.bind (Ns.ok D ?_) λ_ U e=>Ns.pure ⟨D,e⟩;unfold zS;grind[Xg]
def Ns.ends{m:M Bool}{Q:N->Prop}(h:Ns m W λb U=>b=C/\Q U):Ns (zY m) W λ_=>Q:=Ns.bind h λ_ _ e=>Ns.pure e.2
def Sg.Qn(h:Sg W OF c K){m:M Unit}{Q:N->Prop}{t:dj}(q:t.name=K.name)(j:Ns m W λ_=>Q):Ns (Em m t) W λ_=>Q:=by
 have e:W.gH (cZ [t.name]) zf=C:=by
  obtain⟨g,rfl⟩:=eT.1 h.K;have o:W.A.reverse=H c::(g.map H).reverse:=by rw[h.A];simp
  unfold N.gH;rw[o,N.px,dw];show cZ _ (W.nm c)=C;rw[h.nm,q];exact lR _
 have e2:Em m t W=m W:=by show(if _ then _ else _)=_;rw[dw e]
 exact Ns.eq e2 j
def Sg.ajV(h:Sg W OF c K)(g:cZ [aH] K.name=C){m:Nat}(e:jq {W with A:=W.A.dropLast} W.A.dropLast.reverse=m):Ns sI W λb U=>b=C/\zS W m W.B U:=
 Ns.bind (Q:=λb U=>b=C/\U={W with A:=W.A.dropLast}) (Ns.ok (h.close g) ⟨rfl,rfl⟩) λb U ⟨e1,e2⟩=>by subst e1 e2;exact Ns.ok D ⟨D,by unfold zS;rw[<-e]⟩
def abB(h:Sg W OF c K)(e:W.P=I)(g:W.g=6\/W.g=9\/W.g=13):T5 ⟨a,b,.start aH,bY⟩ W (qV (fV W ⟨a,b,.start aH,bY⟩) c K aH bY 7 W.B):=
 sG (g.imp id λh=>h.imp (λh=>⟨h,by kernel_rfl⟩) λh=>⟨h,by kernel_rfl⟩) (r:=.dX 194) (by kernel_rfl) e (nofun) (λ_=>D) ((h.e _).table _)
theorem aaL(h:Sg W OF c K)(e:W.P=I)(o:K.name=aH)(g:W.g=7){m:Nat}(j:jq {W with A:=W.A.dropLast} W.A.dropLast.reverse=m):T5 ⟨a,b,.stop aH,bY⟩ W (zS (fV W ⟨a,b,.stop aH,bY⟩) m W.B):=
 lE g rfl (r:=.ends 125) (by kernel_rfl) e (nofun) λn _=>Ns.ends ((h.e _).ajV (by grind[lR]) (by refine(sQ _ ?_).trans j;exact λ_ _=>D))
theorem UF(h:Sg W OF c K)(e:W.P=I)(o:K.name=aH)(j:W.g=7)(g:ln W.B<W.R):T5 ⟨a,b,.start cI,bY⟩ W (qV (fV W ⟨a,b,.start cI,bY⟩) c K cI bY 9 (W.B++[F])):=
 qs j rfl (k:=120) (by kernel_rfl) e (nofun) (λ_=>D) ((h.e _).agv (by grind[lR]) g _)
theorem S8(h:Sg W OF c K)(e:W.P=I)(j:K.name=cI)(g:W.g=9){d:iU}(ha:W.B=d++[F]):T5 ⟨a,b,.stop cI,bY⟩ W (zS (fV W ⟨a,b,.stop cI,bY⟩) 7 d):=
 lE g rfl (r:=.ends 132) (by kernel_rfl) e (nofun) λn _=>Ns.ends ((h.e _).N3 (by grind[lR]) 7 ha)
theorem afd(h:Sg W OF c K)(e:W.P=I)(j:K.name=aH)(g:W.g=7):T5 ⟨a,b,.start aV,bY⟩ W (qV (fV W ⟨a,b,.start aV,bY⟩) c K aV bY 10 W.B):=
 lE g rfl (r:=.nN [(aH)] 10) (by kernel_rfl) e (nofun) λn _=>(h.e _).nN (by grind[lR]) _ 10
theorem adt(h:Sg W OF c K)(g:W.P=I)(o:K.name=aV)(j:W.g=10):T5 ⟨a,b,.stop aV,bY⟩ W (zS (fV W ⟨a,b,.stop aV,bY⟩) 7 W.B):=
 lE j rfl (r:=.ends 133) (by kernel_rfl) g (nofun) λn _=>Ns.ends ((by
   intro _
   let e:(fV W {a:=a,b:=b,k:=TK.stop {data:=#[99,111,108,103,114,111,117,112]},A:=bY}).gV (cZ [(aV)])=C:=by unfold N.gV;rw[(h.e _).last];show cZ _ _=C;rw[(h.e _).nm];exact(by grind[lR])
   unfold ir;rw[e];exact .inr ⟨C,_,D,D,D⟩))
def ah2(h:Sg W OF c K)(e:W.P=I)(g:W.g=10):T5 ⟨a,b,.start eF,bY⟩ W (Z0 (fV W ⟨a,b,.start eF,bY⟩) c K eF bY):=
 qs g rfl (k:=104) (by kernel_rfl) e (nofun) (λ_=>D) ((h.e _).Fs _)
abbrev Oj(nm:O):Prop:=nm=cO\/nm=cX\/nm=cH
theorem ah4(h:Sg W OF c K)(e:W.P=I)(o:K.name=aH)(g:W.g=7)(j:Oj nm):T5 ⟨a,b,.start nm,bY⟩ W (qV (fV W ⟨a,b,.start nm,bY⟩) c K nm bY 11 W.B):=
 lE g rfl (r:=.nN [(aH)] 11) (by rcases j with rfl|rfl|rfl<;>kernel_rfl) e (nofun) λn _=>(h.e _).nN (by grind[lR]) _ 11
def Zp(e:Oj nm):cZ [cO,cH,cX] nm=C:=by rcases e with rfl|rfl|rfl<;>decide+kernel
def ag0(h:Sg W OF c K)(j:W.P=I)(g:Oj K.name)(o:W.g=11):T5 ⟨a,b,.stop K.name,bY⟩ W (zS (fV W ⟨a,b,.stop K.name,bY⟩) 7 W.B):=
 lE o rfl (r:= .Qn (.ends 135)) (by rcases g with e|e|e<;>rw[e]<;>kernel_rfl) j (nofun) λn _=>(h.e _).Qn D (Ns.ends ((h.e _).mD (Zp g) 7))
def ah3(h:Sg W OF c K)(e:W.P=I)(j:Oj K.name)(g:W.g=11):T5 ⟨a,b,.start dK,bY⟩ W (qV (fV W ⟨a,b,.start dK,bY⟩) c K dK bY 12 W.B):=
 lE g rfl (r:=.nN _ 12) (by kernel_rfl) e (nofun) λn _=>(h.e _).nN (Zp j) _ 12
theorem agZ(h:Sg W OF c K)(e:W.P=I)(j:K.name=dK)(g:W.g=12):T5 ⟨a,b,.stop dK,bY⟩ W (zS (fV W ⟨a,b,.stop dK,bY⟩) 11 W.B):=
 lE g rfl (r:=.ends 138) (by kernel_rfl) e (nofun) λn _=>Ns.ends ((h.e _).mD (by grind[lR]) 11)
abbrev TZ(nm:O):Prop:=nm=eQ\/nm=eS
theorem afc(h:Sg W OF c K)(e:W.P=I)(q:K.name=dK)(j:W.g=12)(g:ln W.B<W.R)(o:TZ nm):T5 ⟨a,b,.start nm,bY⟩ W (qV (fV W ⟨a,b,.start nm,bY⟩) c K nm bY 13 (W.B++[F])):=
 qs j rfl (k:=137) (by rcases o with rfl|rfl<;>kernel_rfl) e (nofun) (λ_=>D) ((h.e _).cell (by grind[lR]) g _)
def ads(h:Sg W OF c K)(j:W.P=I)(g:TZ K.name)(o:W.g=13){d:iU}(ha:W.B=d++[F]):T5 ⟨a,b,.stop K.name,bY⟩ W (zS (fV W ⟨a,b,.stop K.name,bY⟩) 12 d):=
 lE o rfl (r:= .Qn (.ends 139)) (by rcases g with e|e<;>rw[e]<;>kernel_rfl) j (nofun) λn _=>(h.e _).Qn D (Ns.ends ((h.e _).N3 (by rcases g with e|e<;>rw[e]<;>decide+kernel) 12 ha))
def aat(h:Sg W OF c K)(g:W.P=I){s:O}(e:W.g=7\/W.g=10\/(W.g=2\/W.g=3\/W.g=4)\/W.g=11\/W.g=12):T5 ⟨a,b,.dz s,bY⟩ W (JF (fV W ⟨a,b,.dz s,bY⟩) c K (.cm s) .cm):=by
 let j:=(h.e ⟨a,b,.dz s,bY⟩).dz (s:=s) (a:=a) (b:=b) (bY:=bY)
 rcases e with e|e|(e|e|e)|e|e;exact lE e D D g (nofun) λn _=>j;exact lE e D D g (nofun) λn _=>j
 iterate 3 exact lE e D D g (nofun) λn _=>j
 all_goals
  refine lE e D D g (nofun) λn o=>?_;obtain⟨k,rfl⟩:∃k,n=k+1:=⟨n-1,by omega⟩;exact j
end
def zg(W:N)(s:List UInt8)(U:N):Prop:=∃l:List (Nat×Nat×O),l.map (·.2.2)=s.map (λc=>bs [c])/\U={W with g:=8,kept:=W.g,L:=l,E:=U.E,K:=U.K,P:=I}
def Aj(c:UInt8):Prop:=c=32\/c=9\/c=10\/c=12
theorem ux{c:UInt8}(h:Aj c):fP (bs [c])=C/\kN (bs [c])=I/\c≠38/\c≠60:=by rcases h with rfl|rfl|rfl|rfl<;>decide+kernel
section
variable {W:N}{OF:List Nat}{c:Nat}{K:mh}{a b:Nat}{bY:iB}
theorem YJ{x:UInt8}(g:Aj x)(n:Nat):Ns (dx I (n+1) 8 ⟨a,b,.fI (bs [x]),bY⟩) W λ_ U=>U={W with L:=W.L++[(a,b,bs [x])]}:=by
 rw[lK (r:=.dX 130) D (by show(if fP _ then _ else _)=_;rw[dw (ux g).1];kernel_rfl) (by simp)]
 let j:jp I (dx C n) (dx I n) (.dX 130) ⟨a,b,.fI (bs [x]),bY⟩=j8 ⟨a,b,.fI _,bY⟩:=rfl
 let e:j8 ⟨a,b,.fI (bs [x]),bY⟩ W=if ln W.L<4096 then .ok () {W with L:=W.L++[(a,b,bs [x])]} else .stuck:=by unfold j8;dsimp only;rw[(ux g).2.1];rfl
 rw[j];intro o;grind
theorem afF(h:Sg W OF c K)(u:W.P=I)(E:W.L=[])(z:qS K.name=C)(g:W.g=7\/W.g=11\/W.g=12){x:UInt8}(q:Aj x):T5 ⟨a,b,.fI (bs [x]),bY⟩ W (zg W [x]):=by
 let j:(fV W ⟨a,b,.fI (bs [x]),bY⟩).gV qS=C:=by unfold N.gV;rw[(h.e _).last];show qS (N.nm _ c)=C;rw[(h.e ⟨a,b,.fI (bs [x]),bY⟩).nm];exact z
 let o:∀n,Ns (lL (dx I (n+1)) ⟨a,b,.fI (bs [x]),bY⟩) (fV W ⟨a,b,.fI (bs [x]),bY⟩) λ_=>zg W [x]:=λn=>by refine Ns.eq (dw j) ?_;refine Ns.bind (Q:=λ_ U=>U={fV W ⟨a,b,.fI (bs [x]),bY⟩with kept:=W.g}) (Ns.ok (a:=()) D D) λ_ U e=>?_;subst e;refine Ns.bind (Q:=λ_ U=>U={fV W ⟨a,b,.fI (bs [x]),bY⟩with kept:=W.g,g:=8}) (Ns.ok (a:=()) D D) λ_ U e=>?_;subst e;refine Ns.bind (Q:=λ_=>zg W [x]) (Ns.mono (YJ q n) λ_ U e=>⟨[(a,b,bs [x])],D,?_⟩) λ_ _ h=>Ns.pure h;grind
 let v:eI rV ⟨a,b,.fI (bs [x]),bY⟩=.dX 119:=by show(if fP _ then _ else _)=_;rw[dw (ux q).1];kernel_rfl
 rcases g with g|g|g;refine lE g (sp:=rV) D v u (by simp) λn y=>?_;obtain⟨k,rfl⟩:∃k,n=k+1:=⟨n-1,by omega⟩;exact o k
 all_goals
  refine lE g D (r:=.qX 7) (by show(if fP _ then _ else _)=_;rw[dw (ux q).1];kernel_rfl) u (by simp) λn y=>?_
  obtain⟨k,rfl⟩:∃k,n=k+1+1:=⟨n-2,by omega⟩
  let e:jp I (dx C (k+1+1)) (dx I (k+1+1)) (.qX 7) ⟨a,b,.fI (bs [x]),bY⟩=dx I (k+1+1) 7 ⟨a,b,.fI (bs [x]),bY⟩:=rfl
  rw[e,lK (n:=k+1) (m:=7) (sp:=rV) D v (by simp)];exact o k
theorem abV{s:List UInt8}{U:N}(h:zg W s U){x:UInt8}(j:Aj x):T5 ⟨a,b,.fI (bs [x]),bY⟩ (l5 U ⟨a,b,.fI (bs [x]),bY⟩) (zg W (s++[x])):=by
 let ⟨l,hl,e⟩:=h
 let g:U.g=8:=by rw[e]
 refine⟨(by rw[e]),λn o=>?_⟩;obtain⟨k,rfl⟩:∃k,n=k+1:=⟨n-1,by omega⟩;rw[g];refine Ns.mono (YJ j k) λ_ X e2=>⟨l++[(a,b,bs [x])],by grind,?_⟩;grind
abbrev U4(W:N)(c:Nat)(a:mh)(s:O):List zE:=(W.d++[zE.tx s]).set c (.el {a with q:=a.q++[Nd.tx (ln W.d)]})
theorem afw(h:Sg W OF c K)(s:O):ln (U4 W c K s)=ln W.d+1/\(U4 W c K s)[ln W.d]?=H (.tx s)/\(U4 W c K s)[c]?=H (.el {K with q:=K.q++[.tx (ln W.d)]})/\∀i,i<ln W.d->i≠c->(U4 W c K s)[i]?=W.d[i]?:=by
 let e:=N.n h.u
 grind
theorem aaq{s:O}{U:N}(h:Sg W OF c K)(e:Chr W c K s U):U={W with d:=U4 W c K s}:=by
 let ⟨e1,e2,e3,e4,e5⟩:=e
 rw[e1];have:U.d=U4 W c K s:=by apply List.ext_getElem?;intro i;by_cases g:i<ln W.d;grind;grind
 rw[this]
theorem Ty(h:Sg W OF c K)(j:W.P=I):∀(l:List (Nat×Nat×O))(g:List UInt8)(s:List UInt8),l.map (·.2.2)=s.map (λc=>bs [c])->Ns (qA l) {W with d:=U4 W c K (bs g)} λ_ U=>U={W with d:=U4 W c K (bs (g++s))}
 |[],g,[],_=>Ns.pure (by simp)
 |[],_,_::_,e=>nomatch e
 |_::_,_,[],e=>nomatch e
 |x::l,g,y::s,e=>by
  simp at e
  let ⟨a1,a2,a3,a4⟩:=afw h (bs g)
  refine Ns.bind ((h.after (U:={W with d:=U4 W c K (bs g)}) ⟨D,D,D,D,D,D,D,D,D,D,D,j⟩ a3 a4).join (nX x) (by simp) a2) λ_ X e2=>?_
  let o:(nX x).d=bs [y]:=e.1
  let u:=N.n h.u
  let q:(U4 W c K (bs g)).set (ln W.d) (.tx (bs g++bs [y]))=U4 W c K (bs (g++[y])):=by
   unfold U4;rw[List.set_comm _ _ (by omega),ajG]
   congr 1
   simp
  rw[o]at e2;rw[q]at e2;subst e2;have:=Ty h j l (g++[y]) s e.2;grind
theorem aha(h:Sg W OF c K)(q:W.P=I)(g:∀i,K.q.getLast?≠H (.tx i)){l:List (Nat×Nat×O)}{s:List UInt8}(e:l.map (·.2.2)=s.map (λc=>bs [c]))(u:s≠[]):Ns (qA l) W λ_ U=>U={W with d:=U4 W c K (bs s)}:=by
 cases l with
 |nil=>cases s<;>grind
 |cons x l=>
  cases s with
  |nil=>grind
  |cons y s=>
   simp at e;refine Ns.bind (h.DD _ g) λ_ X e2=>?_
   let j:(nX x).d=bs [y]:=e.1
   let o:=aaq h e2
   grind[Ty]
theorem abW(h:Sg W OF c K)(S:W.P=I)(hw:W.L=[])(v:∀i,K.q.getLast?≠H (.tx i)){s:List UInt8}(E:s≠[])(j:∀x∈s,Aj x){U:N}(q:zg W s U):yF {W with d:=U4 W c K (bs s),kept:=W.g} U:=by
 let ⟨l,hl,e⟩:=q
 refine⟨by rw[e],λt Q P a o=>⟨by grind,λn aJ=>?_⟩⟩;obtain⟨k,rfl⟩:∃k,n=k+1:=⟨n-1,by omega⟩
 let y:=by show U.g=8;rw[e]
 let z:eI iy t=.dX 131:=by
  let ⟨_,_,kk,_⟩:=t
  cases kk with
  |ic=>grind
  |fI s=>grind
  |_=>rfl
 rw[y,lK D z P]
 let g:fV (l5 U t) t={W with g:=8,kept:=W.g,L:=l,E:=t.l6,K:=t.a,P:=I}:=by rw[e]
 rw[g]
 let u:Sg {W with g:=8,kept:=W.g,L:=l,E:=t.l6,K:=t.a,P:=I} OF c K:=⟨h.A,h.K,h.u,h.B,h.q,h.pp,h.E⟩
 refine Ns.bind (Q:=λ_ X=>X={W with g:=8,kept:=W.g,L:=l,E:=t.l6,K:=t.a,P:=I,d:=U4 W c K (bs s)}) ?_ λ_ X e2=>?_
 let b:=(show(l.any λx=>!fP x.2.2)=I by rw[List.any_eq_false];intro x j;have:=hl▸dW.2 ⟨x,j,D⟩;grind[ux])
 exact Ns.eq (di (by grind)) (aha u D v hl E);refine Ns.bind (Q:=λ_ X=>X=fV (l5 {W with d:=U4 W c K (bs s),kept:=W.g} t) t) (Ns.ok D ?_) λ_ X e2=>?_;grind;subst e2;exact Ns.bind (o.2 k (by omega)) λ_ _ h=>Ns.pure h
theorem ail(h:Sg W OF c K)(o:W.P=I)(s:List UInt8):Dn W OF c K [.tx (bs s)] {W with d:=U4 W c K (bs s),kept:=W.g}:=by obtain⟨q,e,g,j⟩:=afw h _;refine⟨⟨D,D,D,D,D,D,D,D,D,D,D,o⟩,by grind,⟨_,g,⟨by grind,dF _,e⟩,by grind[qW]⟩,j⟩
variable {R:RC}{cut:Nat->Nat}
theorem FD{pl:Bool}{A L:List UInt8}{x:UInt8}(g:Aj x)(j:R.A=bs (A++x::L)):eA (QR R ⟨#[]⟩ pl) (fh KV) 8 (ln A)=.tok (.DD (bs [x])) (ln (A++[x])):=by
 let e:(QR R ⟨#[]⟩ pl).A=bs _:=j
 rw[Lb D e (ux g).2.2.2,FG e (ux g).2.2.1];simp
theorem Pb(o:W.a=⟨#[]⟩):∀(s g:List UInt8){A L:List UInt8} {U:N},(∀x∈s,Aj x)->zg W g U->R.A=bs (A++(s++L))->Gp R cut (ln A) U (ln (A++s)) (zg W (g++s))
 |[],g,A,L,U,_,hW,_=>by grind[Gp.refl]
 |x::s,g,A,L,U,hx,hW,hR=>by
  let v:U.a=⟨#[]⟩:=by let ⟨l,_,e⟩:=hW;rw[e];exact o
  let q:Gp R cut (ln A) U (ln (A++[x])) (zg W (g++[x])):=Gp.tok (k:= .DD (bs [x])) v (by grind[FD]) (show(1:Nat)≠0 by decide) (by simp[iX]) ⟨by simp,by grind[gG]⟩ ((abV hW (hx x (js ..))).e λ_ h=>h)
  have:=Gp.trans q λX j=>Pb o s (g++[x]) (L:=L) (λy u=>hx y (gS _ u)) j (by rw[hR];simp);grind
theorem afE(h:Sg W OF c K)(o:W.a=⟨#[]⟩)(g:W.P=I)(q:W.L=[])(S:qS K.name=C)(P:W.g=7\/W.g=11\/W.g=12)(E:∀i,K.q.getLast?≠H (.tx i)){s A L:List UInt8}(a:s≠[])(j:∀x∈s,Aj x)(v:R.A=bs (A++(s++L))):Gp R cut (ln A) W (ln (A++s)) (Dw W OF c K [.tx (bs s)]):=by
 cases s with
 |nil=>grind
 |cons x s=>
  let u:Gp R cut (ln A) W (ln (A++[x])) (zg W [x]):=Gp.tok (k:= .DD (bs [x])) o (by grind[FD]) (show(1:Nat)≠0 by decide) (by simp[iX]) ⟨by simp,by grind[gG]⟩ ((afF (h.g _) g q S P (j x (js ..))).e λU ⟨l,e1,e2⟩=>⟨l,e1,e2⟩)
  let aJ:=Gp.trans u λX e=>Pb o s [x] (L:=L) (λy b=>j y (gS _ b)) e (by rw[v];simp)
  refine Gp.mono (by grind) λU z=>⟨_,ail h g (x::s),abW h g q E a j z⟩
end
structure Cs(k:Nat)(σ:N)(OF:List Nat)(c:Nat)(ec:mh):Prop where
 e:Sg σ OF c ec
 B:σ.a=⟨#[]⟩
 A:σ.P=I
 E:σ.L=[]
 md:k=0/\(σ.g=6\/σ.g=9\/σ.g=13)/\jq σ σ.A.reverse=σ.g\/k≠0/\σ.g=k/\(ln OF)<=σ.Q
 d:2<=k/\k<=4\/2*ln σ.B+(if k=0 then 2 else 3)<=ln OF
 fd:σ.Q<=2*σ.R
section
variable {W:N}{OF:List Nat}{c k:Nat}{K:mh}
theorem Cs.body(h:Cs 0 W OF c K):(W.g=6\/W.g=9\/W.g=13)/\jq W W.A.reverse=W.g:=by
 rcases h.md with h|h
 all_goals grind
theorem Cs.g(h:Cs k W OF c K)(g:k≠0):W.g=k/\(4<k->ln W.B<W.R):=by rcases h.md with e|e;grind;have:=h.d;grind[fd]
theorem Cs.q{σ1:N}{ts:List Tn}{f:List Nd}(h:Cs k W OF c K)(d:Dn W OF c K ts σ1)(j:σ1.d[c]?=H (.el {K with q:=K.q++f})):Cs k σ1 OF c {K with q:=K.q++f}:=by
 let g:=d.sm
 refine⟨d.e h.e j,g.a.trans h.B,g.E,g.K.trans h.E,?_,g.B▸h.d,g.Q▸g.R▸h.fd⟩;rw[g.g,g.Q,g.A];exact h.md.imp (λ⟨a,b,e⟩=>⟨a,b,(e▸sQ _ λx o=>h.e.j j d.j x (dU.1 o))⟩) id
end
def Sq(nm w s:List UInt8):Prop:=bs nm=bO/\Vx w s\/bs nm=aN/\w=s/\(0:UInt8)∉s/\∀L i,i<ln s->oQ nm (s.drop i++(jo nm++L))=I
abbrev Part(k e:Nat)(p nm:O):Prop:=k=0/\e=7/\nm=aH\/k=7/\e=0/\p=aH/\nm=cI\/k=7/\e=10/\p=aH/\nm=aV\/k=7/\e=11/\p=aH/\Oj nm\/k=11/\e=12/\Oj p/\nm=dK\/k=12/\e=0/\p=dK/\TZ nm
inductive Bl(R:RC):Nat->O->List Tn->List UInt8->Prop
 |nil {k:Nat} {p:O}:Bl R k p [] []
 |tx {p:O} {s w w':List UInt8} {ts:List Tn}:Vx w s->s≠[]->GO ts=I->Bl R 0 p ts w'->Bl R 0 p (.tx (bs s)::ts) (w++w')
 |bk {k:Nat} {p:O} {s w':List UInt8} {ts:List Tn}:(k=3\/k=4\/k=10)\/(k=7\/k=11\/k=12)/\qS p=C->(∀x∈s,Aj x)->s≠[]->GO ts=I->Bl R k p ts w'->Bl R k p (.tx (bs s)::ts) (s++w')
 |cm {k:Nat} {p:O} {t w':List UInt8} {ts:List Tn}:k=0\/k=7\/k=10\/(k=2\/k=3\/k=4)\/k=11\/k=12->vO t->Bl R k p ts w'->Bl R k p (.cm (bs t)::ts) (IU t++w')
 |Fs {p:O} {nm w':List UInt8} {bY:JC} {ts:List Tn}:tr nm->zF R bY->Bn (bs nm)->(bs nm=iC\/bs nm=jt\/bs nm=jU\/bs nm=dy)->Bl R 0 p ts w'->Bl R 0 p (.el (bs nm) (qJ bY) []::ts) (iV nm bY++w')
 |mta {p:O} {nm w':List UInt8} {bY:JC} {ts:List Tn}:tr nm->zF R bY->bs nm=dy->Bl R 3 p ts w'->Bl R 3 p (.el (bs nm) (qJ bY) []::ts) (iV nm bY++w')
 |col {p:O} {nm w':List UInt8} {bY:JC} {ts:List Tn}:tr nm->zF R bY->bs nm=eF->Bl R 10 p ts w'->Bl R 10 p (.el (bs nm) (qJ bY) []::ts) (iV nm bY++w')
 |el {p:O} {nm w w':List UInt8} {bY:JC} {ks ts:List Tn}:tr nm->zF R bY->Bn (bs nm)->Is p (bs nm)->Bl R 0 (bs nm) ks w->Bl R 0 p ts w'->Bl R 0 p (.el (bs nm) (qJ bY) ks::ts) ((iV nm bY++(w++jo nm))++w')
 |IA {k:Nat} {p:O} {nm w w' s:List UInt8} {bY:JC} {ts:List Tn}:k=0\/k=3->tr nm->zF R bY->Sq nm w s->Bl R k p ts w'->Bl R k p (.el (bs nm) (qJ bY) (xB s)::ts) ((iV nm bY++(w++jo nm))++w')
 |part {k k':Nat} {p:O} {nm w w':List UInt8} {bY:JC} {ks ts:List Tn}:tr nm->zF R bY->Part k k' p (bs nm)->Bl R k' (bs nm) ks w->Bl R k p ts w'->Bl R k p (.el (bs nm) (qJ bY) ks::ts) ((iV nm bY++(w++jo nm))++w')
section
variable {R:RC}{cut:Nat->Nat}
def Dv(W:N)(a:List Nat)(c:Nat)(b:mh)(t:Tn)(U:N):Prop:=∃σ1,Dn W a c b [t] σ1/\yF σ1 U/\(G0 t=I->U=σ1)
def Dn.q{W σ1:N}{a:List Nat}{c:Nat}{b:mh}{t:Tn}(h:Dn W a c b [t] σ1):Dv W a c b t σ1:=⟨σ1,h,yF.refl _,λ_=>D⟩
def RY(R:RC)(a:Nat->Nat)(k:Nat)(p:O)(ts:List Tn)(w:List UInt8):Prop:=∀{W e:N} {OF:List Nat} {c:Nat} {K:mh} {A L:List UInt8},Cs k W OF c K->K.name=p->yF W e->(GO ts=C->e=W/\∀i,K.q.getLast?≠H (.tx i))->R.A=bs (A++(w++L))->Gp R a (ln A) e (ln (A++w)) (Dw W OF c K ts)
theorem vh{W e:N}{d:List Nat}{c k:Nat}{b:mh}{p:O}{A w f L:List UInt8}{t:Tn}{ts:List Tn}(h:Cs k W d c b)(P:b.name=p)(a:G0 t=C->GO ts=I)(E:R.A=bs (A++(w++f)++L))(v:Gp R cut (ln A) e (ln (A++w)) (Dv W d c b t))
  (y:RY R cut k p ts f):Gp R cut (ln A) e (ln (A++(w++f))) (Dw W d c b (t::ts)):=by
 rw[<-oX];refine Gp.trans v λU ⟨σ1,g,z,S⟩=>?_
 let ⟨ks,hk,hr⟩:=g.g
 refine Gp.mono (y (L:=L) (h.q g hk) P z (λo=>⟨S ?_,λi q=>?_⟩) (by rw[E];simp)) λX ⟨σ3,u,j⟩=>⟨σ3,Dn.trans h.e g hk u,j⟩;grind;cases ks with
 |nil=>grind[qW]
 |cons k ks=>
  unfold qW at hr;cases ks with
  |cons _ _=>grind[qW]
  |nil=>
   simp at q;subst q;cases t with
   |tx s=>rw[a D]at o;cases o
   |el _ _ _=>grind[XZ]
   |cm _=>grind[XZ]
   |dt _=>grind[XZ]
def aj3{W o:N}{f:List Nat}{c:Nat}{i:mh}{A nm w s L:List UInt8}{bY:JC}(h:Sg W f c i)(y:W.a=⟨#[]⟩)(E:W.P=I)(P:W.g=3\/W.g=6\/W.g=9\/W.g=13)(z:yF W o)(S:tr nm)(ha:zF R bY)(l:Sq nm w s)(v:R.A=bs (A++(iV nm bY++(w++(jo nm++L))))):Gp R cut (ln A) o (ln (A++(iV nm bY++(w++jo nm)))) (Dn W f c i [.el (bs nm) (qJ bY) (xB s)]):=by
 let j:R.A=bs ((A++iV nm bY)++(w++(jo nm++L))):=by rw[v];simp
 rcases l with⟨e,d⟩|⟨e,rfl,k,U⟩
 let g:nm=[116,105,116,108,101]:=mf (λx=>x.data.toList) e
 refine adE h z y v S ha (by rw[e];decide+kernel) (by rw[g];decide) (λa b=>?_) (abM (by rw[g];simp) d j);rw[e];exact abC (h.g _) E ((λq u=>P.imp id λh=>h.imp id λh=>h.imp (λh=>⟨h,q⟩) λh=>⟨h,u⟩) (by kernel_rfl) (by kernel_rfl))
 let g:nm=[115,116,121,108,101]:=mf (λx=>x.data.toList) e
 refine adE h z y v S ha (by rw[e];decide+kernel) (by rw[g];decide) (λa b=>?_) (OX (by rw[g];simp) k (U L) j);rw[e];exact abA (h.g _) E ((λq u=>P.imp id λh=>h.imp id λh=>h.imp (λh=>⟨h,q⟩) λh=>⟨h,u⟩) (by kernel_rfl) (by kernel_rfl))
theorem ag2{W z:N}{f:List Nat}{c k E:Nat}{l:mh}{p:O}{A nm w L:List UInt8}{bY:JC}{m:List Tn}(h:Cs k W f c l)(K:l.name=p)(C:yF W z)(J:tr nm)(ha:zF R bY)(hk:Part k E p (bs nm))(G:RY R cut E (bs nm) m w)(r:R.A=bs (A++(iV nm bY++(w++(jo nm++L))))):Gp R cut (ln A) z (ln (A++(iV nm bY++(w++jo nm)))) (Dn W f c l [.el (bs nm) (qJ bY) m]):=by
 subst K
 let go:∀(y:Nat)(S:iU),fG (bs nm) jV=I->(∀x∈S,x=F)->(∀a b,T5 ⟨a,b,.start (bs nm),qJ bY⟩ (l5 W ⟨a,b,.start (bs nm),qJ bY⟩) (qV (fV (l5 W ⟨a,b,.start (bs nm),qJ bY⟩) ⟨a,b,.start (bs nm),qJ bY⟩) c l (bs nm) (qJ bY) y S))->(2*ln S+(if E=0 then 2 else 3)<=ln f+1)->(E=0/\(y=6\/y=9\/y=13)/\de (bs nm)≠6/\de (bs nm)=y\/E≠0/\y=E)->(∀X aI a b,Sg X (f++[ln W.d]) (ln W.d) ⟨bs nm,qJ bY,H c,aI⟩->X.P=I->X.g=y->X.B=S->(∀x∈W.A,X.l7 x=W.l7 x)->T5 ⟨a,b,.stop (bs nm),[]⟩ (l5 X ⟨a,b,.stop (bs nm),[]⟩) (zS (fV (l5 X ⟨a,b,.stop (bs nm),[]⟩) ⟨a,b,.stop (bs nm),[]⟩) W.g W.B))->Gp R cut (ln A) z (ln (A++(iV nm bY++(w++jo nm)))) (Dn W f c l [.el (bs nm) (qJ bY) m]):=by intro y S K U B a0 d j;refine aiJ h.e C h.B r J ha K U B (λσ1 g n=>?_) j;refine G (L:=jo nm++L) ⟨g,n.a.trans h.B,n.E,n.K.trans h.E,?_,by grind[Nw.B],by rw[n.Q,n.R];exact h.fd⟩ D (yF.refl _) (λe=>⟨D,λi e=>nomatch e⟩) (by rw[r];simp);rcases d with⟨e1,e2,s,t⟩|⟨e1,e2⟩;exact .inl ⟨e1,by grind[Nw.g],by rw[n.v,di s,n.g,t]⟩;exact .inr ⟨e1,by grind[Nw.g],by rw[n.Q];simp;exact n.A⟩
 let hl:=h.d
 rcases hk with⟨rfl,rfl,e⟩|⟨rfl,rfl,q,e⟩|⟨rfl,rfl,q,e⟩|⟨rfl,rfl,q,e⟩|⟨rfl,rfl,q,e⟩|⟨rfl,rfl,q,e⟩
 .refine go 7 W.B (by rw[e];decide+kernel) h.e.B (λa b=>?_) (by grind) (.inr ⟨by decide,D⟩) λX aI a b g o u v P=>?_;rw[e];exact abB (h.e.g _) h.A h.body.1
  .have:=aaL (a:=a) (b:=b) (bY:=[]) (K:=⟨bs nm,qJ bY,H c,aI⟩) (g.g ⟨a,b,.stop (bs nm),[]⟩) o e u (m:=W.g) (by
    let M:X.A.dropLast=W.A:=by rw[g.A,h.e.A];simp
    show jq _ X.A.dropLast.reverse=_;rw[M,<-h.body.2];exact sQ _ λx Q=>P x (dU.1 Q))
   grind
 let ⟨hm,j⟩:=h.g (by decide)
 replace j:=j (by decide);refine go 9 (W.B++[F]) (by rw[e];decide+kernel) (Av h.e.B) (λa b=>?_) (by grind) (.inl ⟨D,by decide,by rw[e];decide+kernel,by rw[e];decide+kernel⟩) λX aI a b g o u v P=>?_;rw[e];exact UF (h.e.g _) h.A q hm j;rw[e,hm];exact S8 (K:=⟨bs nm,qJ bY,H c,aI⟩) (g.g _) o e u v
 let ⟨hm,j⟩:=h.g (by decide)
 replace j:=j (by decide);refine go 10 W.B (by rw[e];decide+kernel) h.e.B (λa b=>?_) (by grind) (.inr ⟨by decide,D⟩) λX aI a b g o u v P=>?_;rw[e];exact afd (h.e.g _) h.A q hm;rw[e,hm,<-v];exact adt (K:=⟨bs nm,qJ bY,H c,aI⟩) (g.g _) o e u
 .let ⟨hm,j⟩:=h.g (by decide)
  replace j:=j (by decide);refine go 11 W.B (by rcases e with e|e|e<;>rw[e]<;>decide+kernel) h.e.B (λa b=>ah4 (h.e.g _) h.A q hm e) (by grind) (.inr ⟨by decide,D⟩) λX aI a b g o u v P=>?_;rw[hm,<-v];exact ag0 (K:=⟨bs nm,qJ bY,H c,aI⟩) (g.g _) o e u
 let ⟨hm,j⟩:=h.g (by decide)
 replace j:=j (by decide);refine go 12 W.B (by rw[e];decide+kernel) h.e.B (λa b=>?_) (by grind) (.inr ⟨by decide,D⟩) λX aI a b g o u v P=>?_;rw[e];exact ah3 (h.e.g _) h.A q hm;rw[e,hm,<-v];exact agZ (K:=⟨bs nm,qJ bY,H c,aI⟩) (g.g _) o e u
 .let ⟨hm,j⟩:=h.g (by decide)
  replace j:=j (by decide);refine go 13 (W.B++[F]) (by rcases e with e|e<;>rw[e]<;>decide+kernel) (Av h.e.B) (λa b=>afc (h.e.g _) h.A q hm j e) (by grind) (.inl ⟨D,by decide,by rcases e with e|e<;>rw[e]<;>decide+kernel,by rcases e with e|e<;>rw[e]<;>decide+kernel⟩) λX aI a b g o u v P=>?_;rw[hm];exact ads (K:=⟨bs nm,qJ bY,H c,aI⟩) (g.g _) o e u v
theorem acB{pl:Bool}{m:Nat}(e:∀x,Aj x->D4 m (bs [x])):∀{s A L:List UInt8},(∀x∈s,Aj x)->R.A=bs (A++(s++L))->Mv R ⟨#[]⟩ pl m (ln A) (ln (A++s)) s
 |[],A,L,_,_=>by grind[Mv.nil]
 |x::s,A,L,hx,hR=>by
  let h:=acB (pl:=pl) e (A:=A++[x]) (L:=L) (λy g=>hx y (gS _ g)) (by rw[hR];simp)
  rw[show(A++[x])++s=A++x::s by simp]at h;exact Mv.cons (FD (hx x (js ..)) hR) (QE D) (by simp) (by grind[gG]) (nofun) (e x (hx x (js ..))) h
theorem PH{k:Nat}{p:O}{ts:List Tn}{w:List UInt8}(E:Bl R k p ts w):RY R cut k p ts w:=by
 induction E with
 |nil=>
  intro W v OF c K A L h u o y j;rw[yy];exact Gp.refl ⟨W,Dn.nil h.e h.A,o⟩
 |@tx p s w aJ ts f B hx _ ih=>
  intro W v OF c K A L h u o y j
  let ⟨rfl,hq⟩:=y D
  refine vh (L:=L) h u (λ_=>hx) (by rw[j];simp) (Gp.mono (Mb h.e h.A hq (by grind[Cs.B,ahw,adN,Cs.body,adT]) B) λ_ q=>(Dn.tx h.e q).q) ih
 |@bk k p s aJ ts z hx B hh _ ih=>
  intro W v OF c K A L h u o y j
  let ⟨rfl,hq⟩:=y D
  refine vh (L:=L) h u (λ_=>hh) (by rw[j];simp) ?_ ih;rcases z with z|⟨z,f⟩
  let S:=(h.g (by omega)).1
  exact Gp.mono (Mb h.e h.A hq (by grind[Cs.B,acB,aj5,ux]) B) λ_ q=>(Dn.tx h.e q).q
  let S:=(h.g (by omega)).1
  exact Gp.mono (afE (L:=aJ++L) h.e h.B h.A h.E (by grind) (by grind) hq B hx (by rw[j];simp)) λU ⟨σ1,d,o⟩=>⟨σ1,d,o,λe=>nomatch e⟩
 |@cm k p t aJ ts z ht _ ih=>
  intro W v OF c K A L h u o y j;refine vh (L:=L) h u (λe=>nomatch e) (by rw[j];simp) (adD (L:=aJ++L) (o.1.trans h.B) (by rw[j];simp) ht λa b=>o.2 _ _ (by simp) (by simp) ?_) ih;rcases z with rfl|z;exact T5.mono (acS (h.e.g _) h.A (agr h.body.1)) λ_ q=>(Dn.cm h.e.z q).q;exact T5.mono (aat (h.e.g _) h.A (by rw[show(l5 W _).g=W.g from D,(h.g (by omega)).1];exact z)) λ_ q=>(Dn.cm h.e.z q).q
 |@Fs p nm aJ bY ts hn ha E hv _ ih=>
  intro W v OF c K A L h u o y j;refine vh (L:=L) h u (λe=>nomatch e) (by rw[j];simp) (Ai (L:=aJ++L) (o.1.trans h.B) (by rw[j];simp) hn ha λa b=>o.2 _ _ (by simp) (by simp) ?_) ih;rcases hv with e|e|e|e;exact T5.mono (UH (h.e.g _) h.A (DO h.body.1 E) (.inl e)) λ_ q=>(Dn.Fs h.e q).q;exact T5.mono (UH (h.e.g _) h.A (DO h.body.1 E) (.inr e)) λ_ q=>(Dn.Fs h.e q).q;rw[e];exact T5.mono (akT (h.e.g _) h.A (by grind[DO,Cs.body])) λ_ q=>(Dn.Fs h.e q).q;rw[e];exact T5.mono (UG (h.e.g _) h.A (.inr (by grind[DO,Cs.body]))) λ_ q=>(Dn.Fs h.e q).q
 |@col p nm aJ bY ts hn ha e _ ih=>
  intro W v OF c K A L h u o y j;refine vh (L:=L) h u (λe=>nomatch e) (by rw[j];simp) (Ai (L:=aJ++L) (o.1.trans h.B) (by rw[j];simp) hn ha λa b=>o.2 _ _ (by simp) (by simp) ?_) ih;rw[e];exact T5.mono (ah2 (h.e.g _) h.A (h.g (by decide)).1) λ_ q=>(Dn.Fs h.e q).q
 |@mta p nm aJ bY ts hn ha e _ ih=>
  intro W v OF c K A L h u o y j;refine vh (L:=L) h u (λe=>nomatch e) (by rw[j];simp) (Ai (L:=aJ++L) (o.1.trans h.B) (by rw[j];simp) hn ha λa b=>o.2 _ _ (by simp) (by simp) ?_) ih;rw[e];exact T5.mono (UG (h.e.g _) h.A (.inl (h.g (by decide)).1)) λ_ q=>(Dn.Fs h.e q).q
 |@el p nm w aJ bY ks ts hn ha E hE _ _ ih1 ih2=>
  intro W v OF c K A L h u o y j
  let z:=h.d
  refine vh (L:=L) h u (λe=>nomatch e) (by rw[j];simp) (Gp.mono (aiJ (L:=aJ++L) (w:=w) (md:=W.g) (f:=W.B) h.e o h.B (by rw[j];simp) hn ha E.E h.e.B (λa b=>T5.mono (akS (h.e.g _) h.A h.body.1 E (u▸hE)) λ_ q=>q.e) (λσ1 g n=>?_) λX aI a b g P r l n2=>?_) λ_ d=>d.q) ih2;refine ih1 (L:=jo nm++(aJ++L)) ⟨g,n.a.trans h.B,n.E,n.K.trans h.E,.inl ⟨D,by grind[Nw.g,Cs.body],by rw[n.v,dw E.A,n.g];grind[Cs.body]⟩,by grind[Nw.B],by rw[n.Q,n.R];exact h.fd⟩ D (yF.refl _) (λ_=>⟨D,λi e=>nomatch e⟩) (by rw[j];simp);refine T5.mono (aj0 (K:=⟨bs nm,qJ bY,H c,aI⟩) (g.g _) P (by grind[Cs.body]) E hE) λσ3 m=>?_;grind[F3,zS]
 |@IA k p nm w aJ s bY ts z hn ha hw _ ih=>
  intro W v OF c K A L h u o y j;refine vh (L:=L) h u (λe=>nomatch e) (by rw[j];simp) (Gp.mono (aj3 (L:=aJ++L) h.e h.B h.A ?_ o hn ha hw (by rw[j];simp)) λ_ d=>d.q) ih;rcases z with rfl|rfl;grind[Cs.body];exact .inl (h.g (by decide)).1
 |@part k k' p nm w aJ bY ks ts hn ha hk' _ _ ih1 ih2=>
  intro W v OF c K A L h u o y j;exact vh (L:=L) h u (λe=>nomatch e) (by rw[j];simp) (Gp.mono (ag2 (L:=aJ++L) h u o hn ha hk' ih1 (by rw[j];simp)) λ_ d=>d.q) ih2
end
def mX(l:List (List UInt8)):List UInt8:=(l.map IU).flatten
def DY(l:List (List UInt8)):List Tn:=l.map λt=> .cm (bs t)
section
variable {R:RC}{cut:Nat->Nat}
theorem PT{d:List Nat}{c:Nat}:∀(l:List (List UInt8)){W:N} {K:mh} {A L:List UInt8},Z3 W d c K->W.a=⟨#[]⟩->W.P=I->(∀U g s a b,Sm W U->U.h c=H g->T5 ⟨a,b,.dz s,[]⟩ (l5 U ⟨a,b,.dz s,[]⟩) (JF (fV (l5 U ⟨a,b,.dz s,[]⟩) ⟨a,b,.dz s,[]⟩) c g (.cm s) .cm))->(∀t∈l,vO t)->R.A=bs (A++(mX l++L))->Gp R cut (ln A) W (ln (A++mX l)) (Dn W d c K (DY l))
 |[],W,K,A,L,h,_,hb,_,_,_=>by rw[show A++mX []=A by simp[mX]];exact Gp.refl ⟨Sm.e hb,Dk.nil h⟩
 |t::l,W,K,A,L,h,h0,hb,B,hl,hR=>by have e:mX (t::l)=IU t++mX l:=rfl;rw[e];rw[<-oX];refine Gp.trans (adD (L:=mX l++L) h0 (by grind) (hl t (js ..)) λa b=>T5.e (B W K _ a b (Sm.e hb) h.u) λ_ u=>Dn.cm h u) λσ1 j=>?_;obtain⟨ks,q,z⟩:=j.g;refine Gp.mono (PT l (L:=L) (Dk.z h j.A q) (j.sm.a.trans h0) j.sm.E (λU g s a b v=>B U g s a b (j.sm.trans v)) (λt y=>hl t (gS _ y)) (by grind)) λX o=>⟨j.sm.trans o.sm,Dk.trans h j.A q o.A⟩
end
section
variable {W:N}{OF:List Nat}{c:Nat}{K:mh}{a b:Nat}{bY:iB}
def J6{j:M (Nat×Nat)}{s:O}(q:W.h c=H K)(e:j W=.ok (c,ln K.q) W):Ns (iq j ⟨a,b,.dz s,bY⟩) W λ_=>JF W c K (.cm s) .cm:=
 Ns.bind (Q:=λg U=>g=(c,ln K.q)/\U=W) (Ns.ok e ⟨rfl,rfl⟩) λg X ⟨e,o⟩=>by subst e o;exact Ns.bind (Gk q) λ_ _ h=>Ns.pure h
theorem wh(e:W.h c=H K):fM c W=.ok (c,ln K.q) W:=by grind[fM]
def agD(g:W.h 0=H K)(j:W.P=I){s:O}(e:W.g=0\/W.g=1\/W.g=17):T5 ⟨a,b,.dz s,bY⟩ W (JF (fV W ⟨a,b,.dz s,bY⟩) 0 K (.cm s) .cm):=by
 rcases e with e|e|e
 all_goals exact lE e D D j (by simp) λn _=>J6 (a:=a) (b:=b) (bY:=bY) g (wh g)
theorem acT(e:W.h c=H K)(o:W.A.head?=H (H c))(g:W.P=I){s:O}(j:W.g=16):T5 ⟨a,b,.dz s,bY⟩ W (JF (fV W ⟨a,b,.dz s,bY⟩) c K (.cm s) .cm):=
 lE j rfl rfl g (by simp) λn _=>J6 (a:=a) (b:=b) (bY:=bY) e (by
  unfold pP;have:=by
   show dT W.A 0=H c;cases hq:W.A with
   |nil=>grind
   |cons x r=>grind[dT]
  rw[this];exact wh e)
def agM(e:W.h 0=H K)(o:W.P=I){s:O}{q:Bool}(u:W.g=0):T5 ⟨a,b,.eG s q,bY⟩ W λU=>∃σ1,JF (fV W ⟨a,b,.eG s q,bY⟩) 0 K (.dt s) .dt σ1/\∃x,U={σ1 with W:=x,g:=1}:=
 qs u rfl rfl o (by simp) (λ_=>D) (Ns.bind (Q:=λg U=>g=(0,ln K.q)/\U=fV W _) (Ns.ok (wh e) ⟨rfl,rfl⟩) λg X ⟨v,j⟩=>by subst v j;exact Ns.bind (Gk e) λ_ σ1 h=>Ns.ok D ⟨σ1,h,_,D⟩)
theorem Ns.lW{nm:O}{e:iB}:Ns (Go.Proofs.YtcalkelgoekpfaaGreatDoor.lW nm C e) W λj U=>j=ln W.d/\U=W.il (.el ⟨nm,e,F,[]⟩) I:=by intro g;unfold Go.Proofs.YtcalkelgoekpfaaGreatDoor.lW at g|-;grind
theorem YA(v:W.h 0=H K):Ns (Bj ⟨a,b,.start aC,bY⟩) W λ_=>qV W 0 K aC bY 2 W.B:=
 Ns.bind (Ns.bind Ns.lW λj σ1 ⟨y,q⟩=>by
  subst y q;have e:(W.il (.el ⟨(aC),bY,F,[]⟩) I).h 0=H K:=N.iQ (by show(W.d++[_])[0]?=_;grind[N.n,N.eH])
  exact Ns.bind (Q:=λo U=>o=(0,ln K.q)/\U=W.il _ _) (Ns.ok (wh e) ⟨D,D⟩) λo X ⟨z,u⟩=>by
   subst z u;exact Ns.insert v λσ3 g=>Ns.ok D ⟨σ3,g,by
    have:σ3.B=W.B:=by rw[g.st]
    rw[<-this]⟩) λ_ _ h=>Ns.pure h
def afg(q:W.h 0=H K)(o:W.P=I)(j:W.g=0\/W.g=1):T5 ⟨a,b,.start aC,bY⟩ W λU=>∃x,qV {fV W ⟨a,b,.start aC,bY⟩with W:=x} 0 K aC bY 2 W.B U:=by rcases j with j|j;refine lE j D D o (by simp) λn u=>?_;obtain⟨k,rfl⟩:∃k,n=k+1:=⟨n-1,by omega⟩;refine Ns.bind (Q:=λ_ U=>U={fV W _ with W:=C}) (Ns.ok D D) λ_ σ1 e1=>?_;subst e1;refine Ns.bind (Q:=λ_ U=>U={fV W ⟨a,b,.start (aC),bY⟩with W:=C,g:=1}) (Ns.ok D D) λ_ σ1 e1=>?_;subst e1;refine Ns.bind ?_ λ_ _ h=>Ns.pure h;show Ns (dx _ _ 1 _) _ _;rw[lK (r:=.dX 97) D (by kernel_rfl) (by simp)];refine Ns.mono (YA q) λ_ U ⟨σ1,g,e⟩=>⟨C,{σ1 with g:=0},⟨?_,g.le,g.B,g.A,g.j,g.E⟩,e⟩;have:=g.st;rw[this,<-j];refine T5.mono (qs j D (k:=97) (by kernel_rfl) o (by simp) (λ_=>D) (YA q)) λU h=>⟨W.W,h⟩
theorem qV.g{σ1:N}{md:Nat}{a:iU}(S:W.A=[])(P:W.U=I)(o:∀x∈a,x=F)(v:qV W c K aC bY md a σ1):Sg σ1 [ln W.d] (ln W.d) ⟨aC,bY,H c,[]⟩:=by
 obtain⟨g,⟨e1,e2,j,y,z,E⟩,rfl⟩:=v;have e:g.A=[H (ln W.d)]:=by grind
 refine⟨e,D,(N.iQ j),o,by grind,λx u=>?_,λi q=>?_⟩;rw[e]at u;rw[cC.1 u];show fG (g.nm _) _=I;have:g.nm (ln W.d)=(aC):=by unfold N.nm;rw[(N.iQ j)]
 rw[this];decide+kernel;rw[e]at q;have:=cC.1 q;injection this with this;subst this;exact⟨_,(N.iQ j)⟩
def aff(h:Sg W OF c K)(u:W.P=I)(z:W.g=2):T5 ⟨a,b,.start aZ,bY⟩ W λU=>∃x,qV {fV W ⟨a,b,.start aZ,bY⟩with head:=x} c K aZ bY 3 W.B U:=
 qs z rfl (k:=101) (by kernel_rfl) u (by simp) (λ_=>D) (Ns.bind (Ns.bind Ns.lW λj σ1 ⟨y,o⟩=>by
  subst y o;refine Ns.bind (Q:=λ_ U=>U=({fV W _ with head:=H _}:N).il _ _) (Ns.ok D D) λ_ σ1 e1=>?_;subst e1;have v:Sg {fV W ⟨a,b,.start (aZ),bY⟩with head:=H (ln W.d)} OF c K:=⟨h.A,h.K,h.u,h.B,h.q,h.pp,h.E⟩;refine Ns.bind (Ns.bind (Ns.ok (Q:=λg U=>g=(c,ln K.q)/\U=_) (v.y _) ⟨D,D⟩) λg X ⟨E,q⟩=>?_) λ_ σ3 e=>Ns.ok D ⟨H (ln W.d),σ3,e,by
    have:σ3.B=W.B:=by rw[e.st]
    rw[<-this]⟩
  subst E q;exact Ns.insert (W:={fV W _ with head:=H _}) h.u λ_ h=>Ns.pure h) λ_ _ h=>Ns.pure h)
def adv(e:W.P=I)(g:W.g=3):T5 ⟨a,b,.stop aZ,bY⟩ W (zS (fV W ⟨a,b,.stop aZ,bY⟩) 4 W.B):=
 qs g rfl (k:=107) (by kernel_rfl) e (by simp) (λ_=>D) (Ns.ok rfl rfl)
def afb(h:Sg W OF c K)(e:W.P=I)(g:W.g=4):T5 ⟨a,b,.start aO,bY⟩ W (qV (fV W ⟨a,b,.start aO,bY⟩) c K aO bY 6 W.B):=
 qs g rfl (k:=109) (by kernel_rfl) e (by simp) (λ_=>D) ((h.e _).Jl _ 6)
def adr(h:Sg W OF c K)(o:W.P=I)(q:W.g=6)(u:K.name=aO):T5 ⟨a,b,.stop aO,bY⟩ W λU=>U={fV W ⟨a,b,.stop aO,bY⟩with g:=16}:=
 qs q rfl (k:=203) (by kernel_rfl) o (by simp) (λ_=>D) (by
  have e:(fV W ⟨a,b,.stop (aO),bY⟩).gH (cZ [(aO)]) eP=C:=by
   have g:=h.e ⟨a,b,.stop (aO),bY⟩;obtain⟨j,rfl⟩:=eT.1 g.K;have v:(fV W ⟨a,b,.stop (aO),bY⟩).A.reverse=H c::(j.map H).reverse:=by rw[g.A];simp
   unfold N.gH;rw[v,N.px,dw];show cZ _ (N.nm _ c)=C;rw[g.nm,u];exact lR _
  exact Ns.ok (dw e) D)
def adw(e:W.P=I)(g:W.g=16):T5 ⟨a,b,.stop aC,bY⟩ W λU=>U={fV W ⟨a,b,.stop aC,bY⟩with g:=17}:=
 qs g rfl (k:=149) (by kernel_rfl) e (by simp) (λ_=>D) (Ns.ok rfl rfl)
end
section
variable {R:RC}{cut:Nat->Nat}
theorem adH{W E:N}{h:Nat}{q:mh}{A L w:List UInt8}{u:JC}{hk:List Tn}(g:Cs 2 W [h] h q)(f:yF W E)(ha:zF R u)(k:tr [104,101,97,100])(m:Bl R 3 aZ hk w)(P:R.A=bs (A++(iV [104,101,97,100] u++(w++(jo [104,101,97,100]++L))))):Gp R cut (ln A) E (ln (A++(iV [104,101,97,100] u++(w++jo [104,101,97,100])))) λU=>Dk W [h] h q [.el aZ (qJ u) hk] U/\∃ks,U.d[h]?=H (.el {q with q:=q.q++ks})/\Cs 4 U [h] h {q with q:=q.q++ks}/\ks.getLast?=H (.el (ln W.d))/\U.B=W.B:=by
 let d:(A++(iV [104,101,97,100] u++(w++jo [104,101,97,100])))=((A++iV [104,101,97,100] u)++w)++jo [104,101,97,100]:=by simp
 rw[d];refine Gp.trans (Q:=λσ1=>∃x t,qV (fV (l5 {W with head:=x} t) t) h q aZ (qJ u) 3 W.B σ1) (Ai (f.1.trans g.B) P k ha λa b=>f.2 _ _ (by simp) (by simp) (T5.mono (aff (g.e.g _) g.A ((g.g (by decide)).1)) λ_ ⟨x,h⟩=>⟨x,⟨a,b,.start aZ,qJ u⟩,h⟩)) λσ1 ⟨x,t,h1⟩=>?_
 let n:Sg {W with head:=x} [h] h q:=⟨g.e.A,g.e.K,g.e.u,g.e.B,g.e.q,g.e.pp,g.e.E⟩
 let ⟨g1,n1⟩:=qV.e n (by decide+kernel) g.e.B h1
 refine Gp.trans (PH m (L:=jo [104,101,97,100]++L) ⟨g1,n1.a.trans g.B,n1.E,n1.K.trans g.E,.inr ⟨by decide,n1.g,n1.Q▸n1.A⟩,.inl ⟨by decide,by decide⟩,by rw[n1.Q,n1.R];exact g.fd⟩ D (yF.refl _) (λ_=>⟨D,λi e=>nomatch e⟩) (by rw[P];simp)) λa0 ⟨X,j,v⟩=>?_
 let ⟨ks,hk2,hr⟩:=j.g
 refine Qh (v.1.trans (j.sm.a.trans (n1.a.trans g.B))) (L:=L) (by rw[P];simp) k (Int.le_trans (Int.natCast_nonneg _) ha.le) λa b=>v.2 _ _ (by simp) (by simp) (T5.mono (adv j.sm.E (j.sm.g.trans n1.g)) λσ3 o=>?_);obtain⟨S,⟨e1,e2,d,aJ,l,r⟩,rfl⟩:=h1
 let z:σ3.d=X.d:=by rw[o]
 let c:=Dk.el (σ1:={S with g:=3,B:=W.B}) g.e.z e2 aJ l D j.A z
 let a1:=g.e.lt g.e.mem
 let y:σ3.d[h]?=H (.el {q with q:=q.q++[.el (ln W.d)]}):=by rw[z,j.j h (by grind) (by grind)];exact aJ
 let p:σ3.A=W.A:=by rw[o];show X.A.dropLast=_;rw[(j.e g1 hk2).A,g.e.A];simp
 refine⟨c,_,y,⟨g.e.S p (o▸j.sm.B.trans n1.B) ?_ y c.j,?_,by rw[o],?_,.inr ⟨by decide,by rw[o],?_⟩,.inl ⟨by decide,by decide⟩,?_⟩,D,(o▸j.sm.B.trans n1.B)⟩;rw[o];exact j.sm.q.trans (by grind);rw[o];exact j.sm.a.trans (n1.a.trans g.B);rw[o];exact j.sm.K.trans (n1.K.trans g.E);rw[o];have:=j.sm.Q.trans n1.Q;show _<=X.Q;grind;rw[o];rw[j.sm.Q,j.sm.R,n1.Q,n1.R];exact g.fd
theorem acE{W d:N}{h:Nat}{K:mh}{A L w:List UInt8}{q:JC}{bk:List Tn}{j:List (List UInt8)}(g:Cs 4 W [h] h K)(hh:K.name=aC)(a0:W.B=[])(m:yF W d)(ha:zF R q)(n:tr [98,111,100,121])(a2:tr [104,116,109,108])(F:Bl R 0 aO bk w)(a1:∀t∈j,vO t)(z:R.A=bs (A++(iV [98,111,100,121] q++(w++(jo [98,111,100,121]++(mX j++(jo [104,116,109,108]++L))))))):Gp R cut (ln A) d (ln (A++(iV [98,111,100,121] q++(w++(jo [98,111,100,121]++(mX j++jo [104,116,109,108])))))) λU=>Dk W [h] h K (.el aO (qJ q) bk::DY j) U/\U.g=17/\U.a=⟨#[]⟩/\U.P=I:=by
 let P:0<=R.at_:=Int.le_trans (Int.natCast_nonneg _) ha.le
 let k:(A++(iV [98,111,100,121] q++(w++(jo [98,111,100,121]++(mX j++jo [104,116,109,108])))))=((((A++iV [98,111,100,121] q)++w)++jo [98,111,100,121])++mX j)++jo [104,116,109,108]:=by simp
 rw[k]
 let J:=(g.g (by decide)).1
 refine Gp.trans (Q:=λσ1=>∃t,qV (fV (l5 W t) t) h K aO (qJ q) 6 W.B σ1) (Ai (m.1.trans g.B) z n ha λa b=>m.2 _ _ (by simp) (by simp) (T5.mono (afb (g.e.g _) g.A J) λ_ h=>⟨⟨a,b,.start aO,qJ q⟩,h⟩)) λσ1 ⟨t,h1⟩=>?_
 let ⟨g1,n1⟩:=qV.e g.e (by decide+kernel) g.e.B h1
 let p:jq W W.A.reverse=6:=by rw[g.e.A];show(if de (W.nm h)=6 then 6 else de (W.nm h))=6;rw[g.e.nm,hh];decide+kernel
 refine Gp.trans (PH F (L:=jo [98,111,100,121]++(mX j++(jo [104,116,109,108]++L))) ⟨g1,n1.a.trans g.B,n1.E,n1.K.trans g.E,.inl ⟨D,.inl n1.g,by rw[n1.v,dw (by decide+kernel),n1.g,p]⟩,.inr (by rw[(n1.B.trans a0)];simp),by grind[Nw.Q,Nw.R,Cs.fd]⟩ D (yF.refl _) (λ_=>⟨D,λi e=>nomatch e⟩) (by rw[z];simp)) λaI ⟨X,u,y⟩=>?_
 let ⟨ks,hk2,hr⟩:=u.g
 let l:=u.e g1 hk2
 let r:X.a=⟨#[]⟩:=u.sm.a.trans (n1.a.trans g.B)
 let O:=g.e.lt g.e.mem
 refine Gp.trans (Qh (y.1.trans r) (L:=mX j++(jo [104,116,109,108]++L)) (by rw[z];simp) n P λa b=>y.2 _ (λσ3=>∃t:dj,σ3={fV (l5 X t) t with g:=16}) (by simp) (by simp) (T5.mono (adr (l.g _) u.sm.E (u.sm.g.trans n1.g) D) λσ3 j=>⟨⟨a,b,.stop aO,[]⟩,j⟩)) λσ3 ⟨Z,o⟩=>?_;obtain⟨S,⟨e1,e2,k,x,C,Y⟩,rfl⟩:=h1;have a3:σ3.d=X.d:=by rw[o]
 have dk:=Dk.el (a:=S) (σ1:={S with g:=6,B:=W.B}) g.e.z e2 x C D u.A a3;obtain⟨ab,E,T⟩:=dk.g;have Q:σ3.A.head?=H (H h):=by rw[o];show X.A.head?=_;rw[l.A];rfl
 refine Gp.trans (PT j (d:=[h]) (c:=h) (L:=jo [104,116,109,108]++L) (Dk.z g.e.z dk E) (by grind) (by rw[o]) (λU M s a b B G=>acT (W:=l5 U _) G (by grind[Sm.A]) B.E (by show U.g=16;rw[B.g,o])) a1 (by rw[z];simp)) λc v=>?_;refine Qh (v.sm.a.trans (by grind)) (L:=L) (by rw[z];simp) a2 P λa b=>T5.e (adw (W:=l5 c _) v.sm.E (by show c.g=16;rw[v.sm.g,o])) λV f=>?_;have d4:=Dk.trans g.e.z dk E v.A;refine⟨⟨by grind[Dk.le],?_,by grind[Dk.j]⟩,by rw[f],by rw[f];exact v.sm.a.trans (by grind),by rw[f]⟩;grind[Dk.g,qW.q]
end
def SJ:Option (List UInt8)->List UInt8
 |none=>[]
 |some n=>60::(PX++32::(n++[62]))
def dtT:Option (List UInt8)->List Tn
 |none=>[]
 |some n=>[.dt (bs n)]
structure vP where
 c1:List (List UInt8)
 dt:Option (List UInt8)
 c2:List (List UInt8)
 A:JC
 h1:List Tn
 w1:List UInt8
 P:JC
 S:List Tn
 R:List UInt8
 md:List Tn
 Q:List UInt8
 E:JC
 bk:List Tn
 L:List UInt8
 K:List (List UInt8)
 B:List (List UInt8)
def vP.q(x:vP):List Tn:=x.h1++([.el aZ (qJ x.P) x.S]++(x.md++(.el aO (qJ x.E) x.bk::DY x.K)))
def vP.tree(x:vP):List Tn:=DY x.c1++(dtT x.dt++(DY x.c2++([.el aC (qJ x.A) x.q]++DY x.B)))
def vP.inner(x:vP):List UInt8:=x.w1++((iV [104,101,97,100] x.P++(x.R++jo [104,101,97,100]))++(x.Q++(iV [98,111,100,121] x.E++(x.L++(jo [98,111,100,121]++(mX x.K++jo [104,116,109,108]))))))
def vP.text(x:vP):List UInt8:=mX x.c1++(SJ x.dt++(mX x.c2++(iV [104,116,109,108] x.A++(x.inner++mX x.B))))
structure vP.e(R:RC)(x:vP):Prop where
 Q:∀t∈x.c1,vO t
 d:∀n,x.dt=H n->Vw n
 W:x.dt=F->x.c2=[]
 S:∀t∈x.c2,vO t
 T:∀t∈x.K,vO t
 U:∀t∈x.B,vO t
 A:zF R x.A
 E:zF R x.P
 a3:zF R x.E
 K:Bl R 2 aC x.h1 x.w1
 L:Bl R 3 aZ x.S x.R
 B:Bl R 4 aC x.md x.Q
 P:Bl R 0 aO x.bk x.L
structure Ah(σ:N):Prop where
 A:σ.A=[]
 B:σ.B=[]
 K:σ.L=[]
 q:σ.U=I
 a:σ.a=⟨#[]⟩
 E:σ.P=I
 fd:σ.Q<=2*σ.R
theorem Ah.sm(h:Ah W)(s:Sm W U):Ah U:=⟨s.A.trans h.A,s.B.trans h.B,s.K.trans h.K,s.q.trans h.q,s.a.trans h.a,s.E,by rw[s.Q,s.R];exact h.fd⟩
section
variable {R:RC}{cut:Nat->Nat}
theorem PS{W:N}{c:mh}{A L:List UInt8}(l:List (List UInt8))(q:Z3 W [0] 0 c)(g:W.a=⟨#[]⟩)(o:W.P=I)(z:W.g=0\/W.g=1\/W.g=17)(v:∀t∈l,vO t)(j:R.A=bs (A++(mX l++L))):Gp R cut (ln A) W (ln (A++mX l)) (Dn W [0] 0 c (DY l)):=
 PT l q g o (λU e s a b y u=>agD (W:=l5 U _) u y.E (by grind[Sm.g])) v j
theorem agL{W:N}{i:mh}{A L:List UInt8}{j:Option (List UInt8)}{c2:List (List UInt8)}(o:Z3 W [0] 0 i)(ha:Ah W)(f:W.g=0)(hd:∀n,j=H n->Vw n)(n2:j=F->c2=[])(z:∀t∈c2,vO t)(E:R.A=bs (A++(SJ j++(mX c2++L)))):Gp R cut (ln A) W (ln (A++(SJ j++mX c2))) λU=>Dk W [0] 0 i (dtT j++DY c2) U/\Ah U/\(U.g=0\/U.g=1):=by
 cases j with
 |none=>
  rw[n2 D];have e:A++(SJ F++mX [])=A:=by simp[SJ,mX]
  rw[e];exact Gp.refl ⟨Dk.nil o,ha,.inl f⟩
 |some n=>
  rw[<-oX];refine Gp.trans (a:=ln (A++SJ (H n))) (Q:=λU=>Dk W [0] 0 i [.dt (bs n)] U/\Ah U/\U.g=1) ?_ λσ1 ⟨v,u,h⟩=>?_;have e:(QR R W.a W.S).A=bs (A++60::(PX++32::(n++62::(mX c2++L)))):=by show R.A=_;rw[E];simp[SJ]
  obtain⟨q,P⟩:=aeh (lg:=8) ha.a e (hd n D);have z:ln A+10+ln n+1=ln (A++SJ (H n)):=by simp[SJ,PX];omega
  rw[z]at P;refine Gp.tok ha.a P (show(5:Nat)≠0 by decide) (by simp[iX]) ⟨by simp[SJ],by grind[gG]⟩ (T5.e (agM (W:=l5 W _) o.u ha.E f) λU ⟨σ1,aJ,x,e⟩=>?_);have d:=Dn.leaf (k:=.dt) (T:=.dt (bs n)) o (λa b c=>by grind[XZ]) aJ;have g:=ha.sm d.sm;subst e;refine⟨⟨d.le,?_,d.j⟩,⟨g.A,g.B,g.K,g.q,g.a,g.E,g.fd⟩,D⟩;grind[Dn.g,qW.q];obtain⟨ks,S,_⟩:=v.g;exact Gp.mono (PS c2 (L:=L) (Dk.z o v S) u.a u.E (.inr (.inl h)) z (by rw[E];simp)) λX y=>⟨Dk.trans o v S y.A,u.sm y.sm,.inr (y.sm.g.trans h)⟩
theorem adI{W:N}{f:mh}{x:vP}{A L:List UInt8}(g:x.e R)(m:Z3 W [0] 0 f)(ha:Ah W)(w:W.g=0\/W.g=1)(o:R.A=bs (A++(iV [104,116,109,108] x.A++(x.inner++L)))):Gp R cut (ln A) W (ln (A++(iV [104,116,109,108] x.A++x.inner))) λU=>Dk W [0] 0 f [.el aC (qJ x.A) x.q] U/\U.g=17/\U.a=⟨#[]⟩/\U.P=I:=by
 have n:tr [104,116,109,108]:=⟨by grind,by decide,by decide,by decide⟩;have k:A++(iV [104,116,109,108] x.A++x.inner)=(((A++iV [104,116,109,108] x.A)++x.w1)++(iV [104,101,97,100] x.P++(x.R++jo [104,101,97,100]))++x.Q)++(iV [98,111,100,121] x.E++(x.L++(jo [98,111,100,121]++(mX x.K++jo [104,116,109,108])))):=by simp[vP.inner]
 rw[k];unfold vP.inner at o;refine Gp.trans (Q:=λσ1=>∃q t,qV {fV (l5 W t) t with W:=q} 0 f _ (qJ x.A) 2 W.B σ1) (Ai ha.a o n g.A λa b=>T5.e (afg m.u ha.E w) λ_ ⟨q,h⟩=>⟨q,⟨a,b,.start _,qJ x.A⟩,h⟩) λσ1 ⟨q,t,h1⟩=>?_;have P:=qV.g (W:={fV (l5 W t) t with W:=q}) ha.A ha.q (by grind[Ah.B]) h1;obtain⟨y,⟨e1,e2,k,r,s,l⟩,rfl⟩:=h1;have aJ:Cs 2 {y with g:=2,B:=W.B} [ln W.d] (ln W.d) ⟨aC,qJ x.A,H 0,[]⟩:=by refine⟨P,by grind[Ah.a],by grind,by grind[Ah.K],.inr ⟨by decide,D,?_⟩,.inl ⟨by decide,by decide⟩,by grind[Ah.fd]⟩;rw[ha.A]at l;rw[e1];exact l
 refine Gp.trans (PH g.K (L:=(iV [104,101,97,100] x.P++(x.R++jo [104,101,97,100]))++(x.Q++(iV [98,111,100,121] x.E++(x.L++(jo [98,111,100,121]++(mX x.K++jo [104,116,109,108])))))++L) aJ D (yF.refl _) (λ_=>⟨D,λi e=>nomatch e⟩) (by rw[o];simp)) λa0 ⟨X,u,S⟩=>?_;obtain⟨k2,j,_⟩:=u.g;refine Gp.trans (adH (L:=(x.Q++(iV [98,111,100,121] x.E++(x.L++(jo [98,111,100,121]++(mX x.K++jo [104,116,109,108])))))++L) (aJ.q u j) S g.E (⟨⟨104,[101,97,100],D,by decide,by decide⟩,by decide,by decide,by decide⟩) g.L (by rw[o];simp)) λσ3 ⟨d3,k3,d,E,J,a3⟩=>(Gp.trans (PH g.B (L:=(iV [98,111,100,121] x.E++(x.L++(jo [98,111,100,121]++(mX x.K++jo [104,116,109,108]))))++L) E D (yF.refl _) (λ_=>⟨D,λi e=>?_⟩) (by rw[o];simp)) λa1 ⟨a2,z,c⟩=>?_);grind;obtain⟨k4,v,_⟩:=z.g;refine Gp.mono (acE (L:=L) (E.q z v) D (z.sm.B.trans (a3.trans (u.sm.B.trans ha.B))) c g.a3 (⟨⟨98,[111,100,121],D,by decide,by decide⟩,by decide,by decide,by decide⟩) n g.P g.T (by rw[o];simp)) λC ⟨d5,B,G,p⟩=>⟨?_,B,G,p⟩;have dd:=Dk.trans P.z u.A j (Dk.trans (Dk.z P.z u.A j) d3 d (Dk.trans E.e.z z.A v d5));exact Dk.el (σ1:={y with g:=2,B:=W.B}) m e2 r s D dd D
theorem agJ{d f l:Nat}{x:vP}(e:x.e R)(hf:d<=2*f)(c:R.A=bs x.text):Gp R cut 0 (S0 d f l 0) (ln x.text) λU=>Dk (S0 d f l 0) [0] 0 ⟨⟨#[]⟩,[],F,[]⟩ x.tree U/\U.g=17/\U.a=⟨#[]⟩/\U.P=I:=by
 have z:Z3 (S0 d f l 0) [0] 0 _:=⟨by simp,by simp[S0],D⟩;have ha:Ah (S0 d f l 0):=⟨D,D,D,D,D,D,hf⟩;unfold vP.text at c|-;have b:mX x.c1++(SJ x.dt++(mX x.c2++(iV [104,116,109,108] x.A++(x.inner++mX x.B))))=((([]++mX x.c1)++(SJ x.dt++mX x.c2))++(iV [104,116,109,108] x.A++x.inner))++mX x.B:=by simp
 rw[b];refine Gp.trans (PS (A:=[]) x.c1 (L:=(SJ x.dt++mX x.c2)++(iV [104,116,109,108] x.A++x.inner)++mX x.B) z D D (.inl D) e.Q (by grind)) λσ1 g=>?_;obtain⟨k1,j,_⟩:=g.g;have E:=Dk.z z g.A j;refine Gp.trans (agL (L:=(iV [104,116,109,108] x.A++x.inner)++mX x.B) E (ha.sm g.sm) g.sm.g e.d e.W e.S (by grind)) λX ⟨v,W,h⟩=>?_;obtain⟨k2,o,_⟩:=v.g;have P:=Dk.z E v o;refine Gp.trans (adI (L:=mX x.B) e P W h (by grind)) λσ3 ⟨y,S,a,aJ⟩=>?_;obtain⟨k3,q,_⟩:=y.g;refine Gp.mono (PS x.B (L:=[]) (Dk.z P y q) a aJ (.inr (.inr S)) e.U (by grind)) λa0 u=>⟨?_,u.sm.g.trans S,u.sm.a.trans a,u.sm.E⟩;have:=Dk.trans z g.A j (Dk.trans E v o (Dk.trans P y q u.A));grind[vP.tree]
end
theorem VE{l:Nat}{x:vP}(r:x.e (vq s l .nilFunc 0))(c:d<=64)(F:f<=32)(q:d<=2*f)(B:s.size<=1024)(v:pq s=bs x.text):(∃p,pw d f l s=.stop 5 p)\/∃W L,pw d f l s=.done W L/\∀k,Da x.tree<k->wH W k (.el 0)=.el ⟨#[]⟩ [] x.tree:=by
 have S:(vq s l .nilFunc 0).A=bs x.text:=v;have g:=sn d f l s B c F;have u:pw d f l s≠ .stuck:=λe=>by rw[e]at g;exact g
 have sz:(pq s).size=ln x.text:=by rw[v,gG]
 rcases agJ r q S _ [] (by grind) u with⟨p,e⟩|⟨U,y,z,⟨E,m,o,b⟩,a0,e⟩;exact .inl ⟨p,e⟩;have j:pw d f l s=kq _ (fh KV) 8 (fF s) y (ln x.text) U z:=e;cases y with
 |zero=>omega
 |succ k=>
  have a:eA (QR (vq s l .nilFunc 0) U.a U.S) (fh KV) 8 (ln x.text)=.tok .Mw (ln x.text):=by unfold eA;rw[dw];show ln x.text=(pq s).size;rw[sz]
  rw[kq,a]at j;dsimp at j;have P:nW (dx I sL) (iX (fF s (ln x.text)) (fF s (ln x.text)) .Mw) (l5 U (iX (fF s (ln x.text)) (fF s (ln x.text)) .Mw))=.ok () (fV (l5 U (iX (fF s (ln x.text)) (fF s (ln x.text)) .Mw)) (iX (fF s (ln x.text)) (fF s (ln x.text)) .Mw)):=by refine(Rk (W:=l5 U _) b (by simp[iX])).trans ?_;rw[m];rfl
  rw[(aeT o),P]at j;refine .inr ⟨_,_,j,λk hk=>?_⟩;obtain⟨ks,t,w⟩:=E.g;cases k with
  |zero=>omega
  |succ k=>
   show(match (fV _ _).h 0 with|some e=>Tn.el e.name e.A _|none=>BV)=_
   have A:(fV (l5 U (iX (fF s (ln x.text)) (fF s (ln x.text)) .Mw)) (iX (fF s (ln x.text)) (fF s (ln x.text)) .Mw)).h 0=H _:=N.iQ t;have C:=qW.q (W:=U) (U:=fV (l5 U (iX (fF s (ln x.text)) (fF s (ln x.text)) .Mw)) (iX (fF s (ln x.text)) (fF s (ln x.text)) .Mw)) (λi h n=>⟨h,n,D⟩) _ _ w;grind[qW.tn]
theorem dV:cZ l s=C↔s∈l:=by grind[jM,cZ]
theorem mH:cZ l s=I↔s∉l:=by grind[dV]
def Cd:List O:=[jV,pg,ph,(⟨#[100,108]⟩:O),oJ,oK,tj,fR,eu,ig,dR,gm,dJ,cD,iM,xv,(⟨#[98]⟩:O),(⟨#[105]⟩:O),fD]
def me:List O:=[iC,jU,jt,ig,dy,eF]
def BL:List (O×List O):=[(⟨#[]⟩,[]),(aC,[⟨#[]⟩]),(aZ,[aC]),(aO,[aC]),(cI,[aH]),(aV,[aH]),(cO,[aH]),(cX,[aH]),(cH,[aH]),(dK,[cO,cX,cH]),(eQ,[dK]),(eS,[dK]),(eF,[aV])]
def lM:List O:=[⟨#[]⟩,aC,aZ,bO,aN]++me
def hold(b:O):Option (List O):=(BL.find? λx=>fG b x.1).map (·.2)
def Hu(a b:O):Bool:=match hold b with
 |some l=>cZ l a
 |none=>if fG a aZ then cZ [dy,bO,aN] b else !cZ lM a
def Na(s:O):Prop:=s≠⟨#[]⟩/\(0:UInt8)∉s.data.toList
def dP(s:O):Prop:=∀x∈s.data.toList,Aj x
def akQ(s:O):Prop:=∀k,k<ln s.data.toList->oQ [115,116,121,108,101] (s.data.toList.drop k)=I
def Y2(p s:O):Prop:=(cZ [aC,aZ] p=C->dP s)/\(p=aN->akQ s)
theorem Y2.free(e:cZ [aC,aZ] p=I)(g:p≠aN)(s:O):Y2 p s:=⟨by grind,by grind⟩
def wR:Nd->Bool
 | .tx _=>C
 |_=>I
def zu(l:List Nd):Bool:=(l.getLast?.map wR).getD I
def rZ(l:List Nd):Bool:=(l.head?.map wR).getD I
def X3:List Nd->Bool
 |[]=>C
 |a::r=>!(wR a&&rZ r)&&X3 r
theorem Pv:∀{a b:List Nd},X3 (a++b)=C↔X3 a=C/\X3 b=C/\(zu a=C->rZ b=I)
 |[],b=>by grind[X3,zu]
 |[x],b=>by grind[X3,zu,rZ]
 |x::y::a,b=>by
  let j:=Pv (a:=y::a) (b:=b)
  let e:rZ ((y::a)++b)=rZ (y::a):=rfl
  let g:zu (x::y::a)=zu (y::a):=by simp[zu]
  show(!(wR x&&rZ ((y::a)++b))&&X3 ((y::a)++b))=C↔(!(wR x&&rZ (y::a))&&X3 (y::a))=C/\_;grind
theorem agd{l:List Nd}{k:Nd}(h:X3 l=C)(e:wR k=C->zu (l.take n)=I/\rZ (l.drop n)=I):X3 (ins l n k)=C:=by
 rw[<-Mu n l,Pv]at h
 let ⟨h1,h2,_⟩:=h
 unfold ins;rw[oX,Pv];refine⟨h1,?_,?_⟩;show(!(wR k&&rZ (l.drop n))&&X3 (l.drop n))=C;grind;show zu _=C->wR k=I;grind
def DE(W:N):Nd->Nat
 | .cm _=>0
 | .tx _=>1
 | .dt _=>2
 | .el j=>if fG (W.nm j) aC then 3 else if fG (W.nm j) aZ then 4 else if fG (W.nm j) aO then 5 else 6
def RW(q k:Nat):Nat:=if k=0 then q else if q=0/\k=2 then 1 else if q<=1/\k=3 then 2 else 9
def RX(q k:Nat):Nat:=if k=0 then q else if q=4/\k=1 then 4 else if q=2/\k=4 then 4 else if q=4/\k=5 then 6 else 9
def E4(W:N)(l:List Nd):Nat:=(l.map (DE W)).foldl RW 0
def Gu(W:N)(l:List Nd):Nat:=(l.map (DE W)).foldl RX 2
def Hz(a q:Nat):Prop:=if a=0 then q=0 else if a=1 then q<=1 else q=2
def FT(W:N)(p:O):Nd->Prop
 | .el j=>∃e,W.h j=H e/\Hu p e.name=C
 | .tx j=>(∃s,W.d[j]?=H (.tx s)/\Na s)/\cZ (⟨#[]⟩::me) p=I
 | .cm _=>cZ ([bO,aN]++me) p=I
 | .dt _=>p=⟨#[]⟩
structure Pn(σ:N)(p:O)(ks:List Nd):Prop where
 B:X3 ks=C
 ok:∀k∈ks,FT σ p k
 A:cZ [bO,aN] p=C->ln ks<=1
structure Gr(σ σ':N):Prop where
 el:∀i e,σ.h i=H e->∃e',σ'.h i=H e'/\e'.name=e.name/\(e.E≠F->e'.E≠F)
 tx:∀(i:Nat)(s:O),σ.d[i]?=H (.tx s)->∃s',σ'.d[i]?=H (.tx s')/\(Na s->Na s')
theorem Gr.nm(h:Gr W U){e:mh}(g:W.h i=H e):U.nm i=W.nm i:=by
 let ⟨e',h1,h2,_⟩:=h.el i e g
 unfold N.nm;grind
theorem FT.e(h:Gr W U):∀{k:Nd},FT W p k->FT U p k/\DE U k=DE W k
 | .el j,⟨e,h1,h2⟩=>by
  let ⟨e',h3,h4,_⟩:=h.el j e h1
  exact⟨⟨e',h3,by grind⟩,by unfold DE;grind[Gr.nm]⟩
 | .tx j,⟨⟨s,h1,h2⟩,h5⟩=>by
  let ⟨s',h3,h4⟩:=h.tx j s h1
  exact⟨⟨by grind,h5⟩,D⟩
 | .cm _,h1=>⟨h1,D⟩
 | .dt _,h1=>⟨h1,D⟩
theorem Pn.e(g:Gr W U)(h:Pn W p ks):Pn U p ks:=⟨h.B,λk e=>(FT.e g (h.ok k e)).1,h.A⟩
theorem Pn.DE(g:Gr W U)(h:Pn W p ks):E4 U ks=E4 W ks/\Gu U ks=Gu W ks:=by
 let e:=Pg λk j=>(FT.e g (h.ok k j)).2
 unfold E4 Gu;grind
structure Nb(φ h:Nat)(L:List O)(σ:N):Prop where
 u:∀i e,σ.h i=H e->Pn σ e.name e.q
 op:∃OF:List Nat,σ.A=OF.map H/\OF.map σ.nm=L/\∀i∈OF,∃e,σ.h i=H e/\(e.name=aH->e.E≠F)/\(e.name=aC->i=h)
 B:∀x∈σ.B,x=F
 R:σ.j=F
 E:∀x∈σ.L,Na x.2.2
 bk:∀i e t s,σ.h i=H e->Nd.tx t∈e.q->σ.d[t]?=H (.tx s)->Y2 e.name s
 T:∀i e j e' t,σ.h i=H e->σ.h j=H e'->Nd.tx t∈e.q->Nd.tx t∈e'.q->i=j
 A:∃e,σ.h 0=H e/\e.name=⟨#[]⟩/\Hz φ (E4 σ e.q)/\∀j,Nd.el j∈e.q->2<=φ/\j=h
 K:2<=φ->∃e,σ.h h=H e/\e.name=aC/\Gu σ e.q=φ
def Ps{b:Type}(m:M b)(W:N)(Q:b->N->Prop):Prop:=∀a U,m W=.ok a U->Q a U
theorem Ps.bind{c g:Type}{m:M c}{f:c->M g}{Q:c->N->Prop}{d:g->N->Prop}(h:Ps m W Q)(j:∀a U,Q a U->Ps (f a) U d):Ps (m>>=f) W d:=by
 intro b X e;rw[M.cW]at e;cases hm:m W with
 |ok a σ1=>rw[hm]at e;exact j a σ1 (h a σ1 hm) b X e
 |stop=>grind
 |stuck=>grind
theorem Ps.mono{c:Type}{m:M c}{Q b:c->N->Prop}(h:Ps m W Q)(g:∀a U,Q a U->b a U):Ps m W b:=λa U e=>g a U (h a U e)
theorem Ps.pure{c:Type}{a:c}{Q:c->N->Prop}(h:Q a W):Ps (aG a:M c) W Q:=λb U e=>by cases e;exact h
theorem Ps.ok{c:Type}{m:M c}{a:c}{σ1:N}{Q:c->N->Prop}(e:m W=.ok a σ1)(h:Q a σ1):Ps m W Q:=λb U g=>by grind
theorem Ps.eq{c:Type}{m a:M c}{Q:c->N->Prop}(e:m W=a W)(h:Ps a W Q):Ps m W Q:=λb U g=>h b U (by grind)
def Ps.oc{f:N->N}{Q:Unit->N->Prop}(h:Q () (f W)):Ps (oc f) W Q:=Ps.ok D h
theorem Ps.stuck{a:Type}{Q:a->N->Prop}{m:M a}(e:m W=.stuck):Ps m W Q:=λ_ _ h=>by grind
theorem Hi(e:U.d=W.d)(i:Nat):U.h i=W.h i:=by grind[N.h]
theorem Gr.same(e:U.d=W.d):Gr W U:=⟨λi x h=>⟨x,by grind[Hi],D,id⟩,by grind⟩
section
variable {φ φ' h:Nat}{L:List O}{W U:N}
theorem Nb.tlt(o:Nb φ h L W){i t:Nat}{e:mh}(g:W.h i=H e)(j:Nd.tx t∈e.q):∃s,W.d[t]?=H (.tx s)/\Na s:=((o.u i e g).ok _ j).1
theorem Nb.grow(a:Nb φ h L W)(g:Gr W U)(P:∀i o,U.h i=H o->Pn U o.name o.q)(E:∀i e t s,U.h i=H e->Nd.tx t∈e.q->U.d[t]?=H (.tx s)->Y2 e.name s)(S:∀i e j o t,U.h i=H e->U.h j=H o->Nd.tx t∈e.q->Nd.tx t∈o.q->i=j)(q:∃e,U.h 0=H e/\e.name=⟨#[]⟩/\Hz φ' (E4 U e.q)/\∀j,Nd.el j∈e.q->2<=φ'/\j=h)(u:2<=φ'->∃e,U.h h=H e/\e.name=aC/\Gu U e.q=φ')(e2:U.A=W.A)(v:∀x∈U.B,x=F)(y:U.j=W.j)(z:∀x∈U.L,Na x.2.2):Nb φ' h L U:=by
 let ⟨OF,o1,o2,o3⟩:=a.op
 constructor<;>grind[List.map_congr_left,Gr.nm,Gr.el,Nb.R]
theorem Nb.e(y:Nb φ h L W)(g:Gr W U)(u:∀e,W.h 0=H e->∃o,U.h 0=H o/\o.q=e.q/\o.name=e.name)(v:2<=φ->∀e,W.h h=H e->∃o,U.h h=H o/\o.q=e.q/\o.name=e.name):(∃e,U.h 0=H e/\e.name=⟨#[]⟩/\Hz φ (E4 U e.q)/\∀j,Nd.el j∈e.q->2<=φ/\j=h)/\(2<=φ->∃e,U.h h=H e/\e.name=aC/\Gu U e.q=φ):=by
 let ⟨e,a1,a2,a3,a4⟩:=y.A
 let ⟨o,b1,b2,b3⟩:=u e a1
 refine⟨⟨o,b1,b3.trans a2,b2▸((y.u 0 e a1).DE g).1▸a3,by grind⟩,λq=>?_⟩
 let ⟨e,a1,a2,a3⟩:=y.K q
 let ⟨o,b1,b2,b3⟩:=v q e a1
 exact⟨o,b1,b3.trans a2,b2▸((y.u h e a1).DE g).2▸a3⟩
theorem Nb.q(S:Nb φ h L W)(e1:U.d=W.d)(e2:U.A=W.A)(y:∀x∈U.B,x=F)(z:U.j=W.j)(E:∀x∈U.L,Na x.2.2):Nb φ h L U:=by have g:=Gr.same e1;obtain⟨a,b⟩:=S.e g (λe o=>⟨e,by rw[Hi e1];exact o,D,D⟩) (λ_ e o=>⟨e,by rw[Hi e1];exact o,D,D⟩);refine S.grow g (λi e o=>?_) (λi e t s o P u=>?_) (λi e j v t o q=>?_) a b e2 y z E;rw[Hi e1]at o;exact(S.u i e o).e g;rw[Hi e1]at o;rw[e1]at u;exact S.bk i e t s o P u;rw[Hi e1]at o q;exact S.T i e j v t o q
theorem Nb.add(a0:Nb φ h L W)(nd:zE)(f:Bool)(v:∀e,nd=.el e->e.q=[]):Nb φ h L (W.il nd f):=by
 let q:∀i e,(W.il nd f).h i=H e->W.h i=H e\/nd=.el e:=λi e o=>by
  by_cases E:i<ln W.d;exact .inl ((N.oj (nd:=nd) E).symm.trans o)
  let P:i<ln (W.d++[nd]):=N.n o
  have:i=ln W.d:=by simp at P;omega
  subst this
  let aJ:(W.add nd).h (ln W.d)=H e:=o
  grind[N.ng]
 let u:∀i e,W.h i=H e->(W.il nd f).h i=H e:=λi e o=>(N.oj (nd:=nd) (N.n o)).trans o
 let g:Gr W (W.il nd f):=⟨λi e o=>⟨e,u i e o,D,id⟩,λi s S=>⟨s,by
  show(W.d++[nd])[i]?=_;grind,id⟩⟩
 let ⟨a,b⟩:=a0.e g (λe o=>⟨e,u 0 e o,D,D⟩) (λ_ e o=>⟨e,u h e o,D,D⟩)
 refine a0.grow g (λi e o=>?_) (λi e t s o y S=>?_) (λi e j c t o z y U=>?_) a b D a0.B D a0.E;rcases q i e o with o|rfl;grind[Pn.e,Nb.u];rw[v e D];exact⟨D,λk v=>(nomatch v),λ_=>eZ _⟩;rcases q i e o with o|rfl
 let ⟨s',hs',_⟩:=a0.tlt o y
 let d:(W.il nd f).d[t]?=W.d[t]?:=by show(W.d++[nd])[t]?=_;rw[ZR (dG.1 hs').1]
 grind[bk];grind;grind[Nb.T]
theorem Nb.LP(f:Nb φ h L W){c:Nat}{k:mh}(z:W.h c=H k){d:mh}(w:d.name=k.name)(a:k.E≠F->d.E≠F)(hl:∀{U:N},Gr W U->Pn U k.name d.q)(hk:∀t,Nd.tx t∈d.q->Nd.tx t∈k.q\/(∀i e,W.h i=H e->Nd.tx t∉e.q)/\(∃s,W.d[t]?=H (.tx s))/\(∀s,W.d[t]?=H (.tx s)->Y2 k.name s))(B:∀{U:N},Gr W U->c=0->Hz φ' (E4 U d.q)/\∀j,Nd.el j∈d.q->2<=φ'/\j=h)(hh:∀{U:N},Gr W U->c=h->2<=φ'->d.name=aC/\Gu U d.q=φ')(v:φ'=φ\/(c=0/\(2<=φ'->∃e,W.h h=H e/\e.name=aC/\Gu W e.q=φ'/\h≠0))\/c=h/\h≠0/\2<=φ/\2<=φ'):Nb φ' h L (W.l c d):=by
 let E:=N.n z
 let r:(W.l c d).h c=H d:=N.gu E
 let y:∀i e,i≠c->W.h i=H e->(W.l c d).h i=H e:=λi e l u=>(N.s l).trans u
 let g:Gr W (W.l c d):=⟨λi e u=>by
  grind,λi s o=>⟨s,by
  show(W.d.set c _)[i]?=_;rw[kx (λe=>by subst e;rw[N.eH z]at o;cases o)];exact o,id⟩⟩
 let p:∀i e,(W.l c d).h i=H e->i=c/\e=d\/i≠c/\W.h i=H e:=λi e u=>by grind[N.s]
 let A:∀(t:Nat)(s:O),W.d[t]?=H (.tx s)->(W.l c d).d[t]?=H (.tx s):=λt s o=>by show(W.d.set c _)[t]?=_;rw[kx (λe=>by subst e;rw[N.eH z]at o;cases o)];exact o
 refine f.grow g (λi e u=>?_) (λi e t s u m o=>?_) (λi e j d t u a0 m n=>?_) ?_ (λq=>?_) D f.B D f.E;grind[Pn.e,Nb.u];grind[tlt,bk];grind[Nb.T]
 let ⟨e,a1,a2,a3,a4⟩:=f.A
 by_cases b:c=0;grind;refine⟨e,y 0 e (λe=>b e.symm) a1,a2,?_⟩;rw[((f.u 0 e a1).DE g).1];rcases v with rfl|⟨q,_⟩|⟨_,_,P,x⟩;grind;grind;unfold Hz at a3|-;grind;by_cases S:c=h;grind;rcases v with rfl|⟨rfl,P⟩|⟨P,_⟩
 let ⟨e,a1,a2,a3⟩:=f.K q
 exact⟨e,y h e (λe=>S e.symm) a1,a2,by rw[((f.u h e a1).DE g).2];exact a3⟩
 let ⟨e,a1,a2,a3,a4⟩:=P q
 exact⟨e,y h e (λe=>S e.symm) a1,a2,by rw[((f.u h e a1).DE g).2];exact a3⟩;grind
end
def Y1(a b:O):Bool:=!fG a aV&&!cZ (aO::lM) b&&(match hold b with|some l=>cZ l a|none=>C)
def PQ:List O->Bool
 |[]=>C
 |a::r=>(match r with|[]=>C|b::_=>Y1 a b)&&PQ r
def Sk(L:List O):Prop:=∃r,L=aC::aO::r/\PQ (aO::r)=C
theorem DV:∀{a b:List O},PQ (a++b)=C↔PQ a=C/\PQ b=C/\∀x y,a.getLast?=H x->b.head?=H y->Y1 x y=C
 |[],b=>by simp[PQ]
 |[x],[]=>by simp[PQ]
 |[x],y::b=>by grind[PQ]
 |x::y::a,b=>by
  let e:=DV (a:=y::a) (b:=b)
  show(Y1 x y&&PQ ((y::a)++b))=C↔(Y1 x y&&PQ _)=C/\_;grind
theorem Jh:∀{r:List O} {x y:O},PQ (x::r)=C->y∈r->∃z,z∈x::r/\Y1 z y=C
 |b::r,x,y,h,e=>by
  let h:(Y1 x b&&PQ _)=C:=h
  rw[fq]at h;rcases bZ.1 e with rfl|e;grind
  let ⟨z,h1,h2⟩:=Jh h.2 e
  grind
theorem Gb{a b:O}(h:Y1 a b=C):cZ lM b=I/\∀l,hold b=H l->cZ l a=C:=by grind[dV,Y1]
def Sk.mem(h:Sk L)(e:p∈L.tail):cZ lM p=I:=by obtain⟨r,rfl,j⟩:=h;rcases bZ.1 e with rfl|e;decide+kernel;obtain⟨z,_,g⟩:=Jh j e;exact(Gb g).1
theorem ali{a b:O}{r:List O}(e:L=a::b::r)(h:L.getLast?=H p):p∈L.tail:=by grind
theorem Sk.last(h:Sk L)(g:L.getLast?=H p):p∈L.tail:=by
 let ⟨r,e,hc⟩:=h
 grind
theorem Sk.g(h:Sk L)(g:p∈L.tail)(E:qS p=C):aH∈L.tail:=by
 obtain⟨r,rfl,u⟩:=h
 let o:∀q,q∈aO::r->cZ [cO,cH,cX] q=C->aH∈aO::r:=λq j v=>by
  rcases bZ.1 j with rfl|j;exact absurd v (by decide+kernel)
  .let ⟨z,h1,h2⟩:=Jh u j
   let y:hold q=H [aH]:=by have:=dV.1 v;simp at this;rcases this with rfl|rfl|rfl<;>decide+kernel
   have:=dV.1 ((Gb h2).2 _ y);grind
 have:=dV.1 E;simp at this;rcases this with rfl|e|e|e|rfl;exact g
 iterate 3 exact o p g (by rw[e];decide+kernel)
 rcases bZ.1 g with g|g;grind
 let ⟨z,h1,h2⟩:=Jh u g
 have:=(Gb h2).2 [cO,cX,cH] (by decide+kernel);grind[dV]
section
variable {φ φ' h:Nat}{L:List O}{W U:N}
theorem YN{a:List Nat}(e:W.A=a.map H):W.last=a.getLast?:=by
 unfold N.last dT;rw[e];cases hq:a.getLast? with
 |none=>grind
 |some c=>
  obtain⟨g,rfl⟩:=eT.1 hq;simp;omega
theorem Nb.last(g:Nb φ h L W){i:Nat}(e:W.last=H i):∃x,W.h i=H x/\L.getLast?=H x.name:=by
 let ⟨OF,o1,o2,o3⟩:=g.op
 rw[YN o1]at e
 let ⟨x,hx,_⟩:=o3 i (ra e)
 rw[<-o2,List.getLast?_map,e];simp[N.nm,hx]
theorem aeD{a:List Nd}{i:Nat}(h:0<=oS a (Nd.dO i)):(oS a (Nd.dO i)).toNat<=ln a/\rZ (a.drop (oS a (Nd.dO i)).toNat)=I/\Nd.el i∈a:=by
 unfold oS at h|-;split at h;rename_i o;rw[dw o];have g:=List.findIdx_getElem (w:=o)
 let e:a[a.findIdx (Nd.dO i)]=.el i:=by
  revert g;generalize a[a.findIdx (Nd.dO i)]=k;intro g;cases k with
  |el j=>
    have:=by simpa [Nd.dO]using g
    rw[this]
  |_=>cases g
 refine⟨by simp;omega,?_,by grind⟩;show rZ (a.drop (a.findIdx (Nd.dO i)))=I;rw[xu o,e];rfl;grind
theorem Ku:∀(R:iU){y:fW},oq W R=F->y∈R->y≠dT W.A 0->fG (W.l7 y) aH=I
 |x::r,y,e,g,hn=>by unfold oq at e;split at e;rcases bZ.1 g with rfl|g;grind;exact Ku r e g hn;cases e
theorem aaV{p:O}(e:Hu p aH=C):cZ lM p=I:=by unfold Hu at e;rw[show hold _=F by decide+kernel]at e;dsimp at e;split at e;exact absurd e (by decide+kernel);grind
theorem A7{i c k:Nat}{σ1:N}(e:fM i W=.ok (c,k) σ1):σ1=W/\c=i/\∃K,W.h i=H K/\k=ln K.q:=by grind[fM]
theorem aaQ(a0:Nb φ h L W)(E:Sk L)(S:aH∈L.tail){c k:Nat}{σ1:N}(e:gJ W=.ok (c,k) σ1):σ1=W/\∃K,W.h c=H K/\k<=ln K.q/\rZ (K.q.drop k)=I/\cZ lM K.name=I:=by
 let ⟨OF,o1,o2,o3⟩:=a0.op
 obtain⟨r,rfl,a⟩:=E;unfold gJ at e;split at e
 .cases hf:oq W W.A.reverse with
  |none=>
   obtain⟨i,v,rfl⟩:∃i v,OF=i::v:=by cases OF<;>grind
   simp only[Fy,RH]at o2;obtain⟨j,aJ,u⟩:=dW.1 (by rw[o2.2];exact S);have:=Ku W.A.reverse hf (y:=H j) (by grind) (by
    rw[o1];intro q;have:j=i:=by simpa [dT]using q
    grind)
   rw[show W.l7 (H j)=W.nm j from D,u]at this;exact absurd this (by decide+kernel)
  |some y=>
   rw[hf]at e
   let ⟨hy,_,u⟩:=Ae hf
   cases y with
   |none=>cases e
   |some i=>
    rw[dU,o1]at hy
    let P:i∈OF:=by simpa using hy
    let ⟨x,hx,hpar,_⟩:=o3 i P
    let U:=by have:=oo u;rw[show W.l7 (H i)=W.nm i from D]at this;unfold N.nm at this;rw[hx]at this;exact this
    dsimp only at e;unfold kL at e;rw[hx]at e;dsimp only at e;cases hp:x.E with
    |none=>grind
    |some p=>
     rw[hp]at e;dsimp only at e;split at e;rename_i z o;split at e;rename_i g;cases e
     let ⟨q1,q2,q3⟩:=aeD g
     let ⟨x',hx',hin⟩:=(a0.u c z o).ok _ q3
     grind[aaV];cases e;cases e
 cases e
theorem wA(v:Nb φ h L W){c k:Nat}{σ1:N}(e:ja W=.ok (c,k) σ1)(o:W.U=C->Sk L):σ1=W/\∃K,W.h c=H K/\k<=ln K.q/\rZ (K.q.drop k)=I/\(W.U=I->k=ln K.q/\L.getLast?=H K.name)/\(Sk L->cZ lM K.name=I):=by
 unfold ja at e;split at e;rename_i i q
 let ⟨x,hx,hl⟩:=v.last q
 unfold iS at e;split at e;rename_i g;rw[fq]at g
 let j:=o g.1
 let u:W.nm i=x.name:=by unfold N.nm;rw[hx]
 rw[u]at g
 let ⟨a,K,b1,b2,b3,b4⟩:=aaQ v j (j.g (j.last hl) g.2) e
 grind;obtain⟨a,rfl,K,b,rfl⟩:=A7 e;rw[hx]at b;cases b;exact⟨a,x,hx,dF _,by rw[qe];rfl,by grind,λs=>s.mem (s.last hl)⟩;cases e
end
def Fm(W U:N):Prop:=∃e o f a,U={W with d:=e,A:=o,E:=f,B:=a}
theorem Fm.trans{a b c:N}(h:Fm a b)(k:Fm b c):Fm a c:=by obtain⟨_,_,_,_,rfl⟩:=h;obtain⟨_,_,_,_,rfl⟩:=k;exact⟨_,_,_,_,D⟩
def Ci(W:N):Prop:=W.U=I/\W.P=I
theorem Fm.off(f:Fm W U)(h:Ci W):Ci U:=by obtain⟨_,_,_,_,rfl⟩:=f;exact h
theorem Fm.refl(W:N):Fm W W:=⟨_,_,_,_,D⟩
theorem WK{b:O}(h:Hu p b=C):cZ [bO,aN] p=I:=by
 let j:∀x∈BL,∀y∈x.2,cZ [bO,aN] y=I:=by decide+kernel
 unfold Hu at h;cases hb:hold b with
 |some l=>
  obtain⟨x,o,rfl⟩:=eM.1 hb;grind[dV]
 |none=>
  rw[hb]at h;dsimp only at h;split at h;rename_i e;rw[oo e];decide+kernel
  .refine mH.2 λg=>?_;simp at g;exact(mH.1 (by simpa using h)) (by rcases g with rfl|rfl<;>simp[lM])
theorem Pn.g{nd:Nd}(h:Pn W p ks)(g:FT W p nd)(ha:wR nd=C->zu (ks.take k)=I/\rZ (ks.drop k)=I)(e:cZ [bO,aN] p=C->ks=[]):Pn W p (ins ks k nd):=by refine⟨agd h.B ha,λx j=>?_,λq=>?_⟩;grind[sM,ok];rw[e q];simp[ins]
theorem Bg{nd:Nd}:E4 W (ins ks (ln ks) nd)=RW (E4 W ks) (DE W nd)/\Gu W (ins ks (ln ks) nd)=RX (Gu W ks) (DE W nd):=by grind[E4,Gu,ins]
section
variable {φ φ' h:Nat}{L:List O}{W U:N}
def Nb.stack(q:Nb φ h L W){c:List Nat}(o:∀i∈c,∃e,W.h i=H e/\(e.name=aH->e.E≠F)/\(e.name=aC->i=h)):Nb φ h (c.map W.nm) {W with A:=c.map H}:=by
 let g:Gr W {W with A:=c.map H}:=Gr.same D
 let ⟨a,b⟩:=q.e g (λe j=>⟨e,j,D,D⟩) (λ_ e j=>⟨e,j,D,D⟩)
 exact⟨λi e j=>(q.u i e j).e g,⟨c,D,D,o⟩,q.B,q.R,q.E,q.bk,q.T,a,b⟩
theorem Nb.take(g:Nb φ h L W)(m:Nat):Nb φ h (L.take m) {W with A:=W.A.take m}:=by
 let ⟨OF,o1,o2,o3⟩:=g.op
 have:=g.stack (c:=OF.take m) λi e=>o3 i (XT e);grind[List.map_take]
def Nb.drop{x:O}(j:Nb φ h (L++[x]) W):Nb φ h L W.pop:=by
 let e:W.A.take (ln L)=W.A.dropLast:=by
  let ⟨OF,o1,o2,o3⟩:=j.op
  let g:ln W.A=ln L+1:=by rw[o1];simpa using (mf ln o2)
  rw[WL,g];rfl
 have:=j.take (ln L);rw[List.take_left',e]at this;exact this;rfl
theorem Ju(y:Nb φ h L W){j:Nat}{e:mh}(g:W.h j=H e)(v:(e.name=aH->e.E≠F)/\(e.name=aC->j=h)):Ps (nK (H j)) W λ_ U=>Nb φ h (L++[e.name]) U/\Fm W U:=by
 intro a U q;unfold nK at q;split at q;cases q;split at q;cases q
 let ⟨OF,o1,o2,o3⟩:=y.op
 have:=y.stack (c:=OF++[j]) λi o=>by grind
 refine⟨?_,_,_,_,_,D⟩
 let u:[j].map W.nm=[e.name]:=by simp[N.nm,g]
 grind;cases q
theorem Lw(l:Nb φ h L W){c k j:Nat}{f u:mh}(y:W.h c=H f)(z:W.h j=H u)(p:Hu f.name u.name=C)(a0:c=0->Hz φ' (E4 W (ins f.q k (.el j)))/\∀i,Nd.el i∈ins f.q k (.el j)->2<=φ'/\i=h)(hh:c=h->2<=φ'->f.name=aC/\Gu W (ins f.q k (.el j))=φ')(E:φ'=φ\/(c=0/\(2<=φ'->∃e,W.h h=H e/\e.name=aC/\Gu W e.q=φ'/\h≠0))\/c=h/\h≠0/\2<=φ/\2<=φ'):Ps (jz (c,k) j) W λ_ U=>Nb φ' h L U/\Fm W U/\∃e,U.h j=H e/\e.name=u.name/\e.E≠F:=by
 intro a U q;unfold jz at q;dsimp only at q;rw[y,z]at q;dsimp only at q;split at q;rename_i m;cases q
 let n:=N.n y
 let lk:Pn W f.name (ins f.q k (.el j)):=(l.u c f y).g ⟨u,z,p⟩ (λe=>nomatch e) λe=>by grind[WK]
 let v:Nb φ' h L (W.l c {f with q:=ins f.q k (.el j)}):=l.LP y D id (λg=>lk.e g) (λt P=>by grind[sM]) (λg q=>by grind[Pn.DE]) (λg S b=>by rw[(lk.DE g).2];grind) E
 let o:(W.l c {f with q:=ins f.q k (.el j)}).h j=H u:=(N.s m.1).trans z
 let d:Nb φ' h L ((W.l c {f with q:=ins f.q k (.el j)}).l j {u with E:=H c}):=v.LP o D (λ_=>by simp) (λg=>(v.u j u o).e g) (λt P=> .inl P) (λg q=>by
   let ⟨e,a1,_,a3,a4⟩:=v.A
   rw[<-q,o]at a1;cases a1;rw[((v.u j _ o).DE g).1];grind) (λg S b=>by
   let ⟨e,a1,a2,a3⟩:=v.K b
   rw[<-S,o]at a1;cases a1;rw[((v.u j _ o).DE g).2];grind) (.inl D)
 exact⟨d,⟨_,_,_,_,D⟩,_,N.gu (N.n o),D,by simp⟩;cases q
theorem Nb.ne(o:Nb φ h L W){c:Nat}{a:mh}(j:W.h c=H a)(e:a.name≠⟨#[]⟩)(g:a.name≠aC):c≠0/\(2<=φ->c≠h):=by grind[Nb.A,Nb.K]
theorem Xn(a0:Nb φ h L W){j:Nat}{g:mh}(b:W.h j=H g)(l:W.U=C->Sk L)(k:∀p,(Sk L->cZ lM p=I)->(W.U=I->L.getLast?=H p)->Hu p g.name=C/\p≠⟨#[]⟩/\p≠aC):Ps (j5 j) W λ_ U=>Nb φ h (L++[g.name]) U/\Fm W U:=by
 refine Ps.bind (Q:=λu U=>U=W/\∃K,W.h u.1=H K/\Hu K.name g.name=C/\K.name≠⟨#[]⟩/\K.name≠aC) (λu U e=>?_) λu U ⟨e,K,v,o,P,S⟩=>?_;grind[wA];subst e
 let ⟨n0,n1⟩:=a0.ne v P S
 refine Ps.bind (Lw (φ':=φ) a0 v b o (λq=>absurd q n0) (λd f=>absurd d (n1 f)) (.inl D)) λ_ X ⟨y,z,e,a,aJ,c⟩=>?_;refine Ps.bind (Ju y a ⟨λ_=>c,λq=>by rw[<-aJ,q]at o;unfold Hu at o;rw[show hold aC=H [⟨#[]⟩] by decide+kernel]at o;grind[dV]⟩) λ_ σ3 ⟨i,E⟩=>Ps.pure ⟨?_,z.trans E⟩
 grind
theorem aeF(o:Nb φ h L W){nm:O}{bY:iB}{f:Bool}(j:W.U=C->Sk L)(g:∀p,(Sk L->cZ lM p=I)->(W.U=I->L.getLast?=H p)->Hu p nm=C/\p≠⟨#[]⟩/\p≠aC):Ps (j5 (ln W.d)) (W.il (.el ⟨nm,bY,F,[]⟩) f) λ_ U=>Nb φ h (L++[nm]) U/\Fm W U:=by exact Ps.mono (Xn (o.add _ f λe q=>by grind) (N.ng) j g) λ_ U ⟨a,b⟩=>⟨a,Fm.trans ⟨_,_,_,_,D⟩ b⟩
theorem pa(q:Nb φ h L W){t:dj}(o:W.U=C->Sk L)(g:∀p,(Sk L->cZ lM p=I)->(W.U=I->L.getLast?=H p)->Hu p t.name=C/\p≠⟨#[]⟩/\p≠aC):Ps (eE t) W λ_ U=>Nb φ h (L++[t.name]) U/\Fm W U:=
 Ps.bind (Q:=λj U=>j=ln W.d/\U=W.il (.el ⟨t.name,t.h,F,[]⟩) I) (λj U e=>by
  grind[jN]) λj U ⟨e1,e2⟩=>by
  grind[Ps.bind,aeF,Ps.pure]
theorem Az(o:Nb φ h L W){nm:O}(g:W.U=C->Sk L)(e:∀p,(Sk L->cZ lM p=I)->(W.U=I->L.getLast?=H p)->Hu p nm=C/\p≠⟨#[]⟩/\p≠aC):Ps (iD nm) W λ_ U=>Nb φ h (L++[nm]) U/\Fm W U:=
 Ps.bind (Q:=λj U=>j=ln W.d/\U=W.il _ _) (Ps.ok rfl ⟨rfl,rfl⟩) λj U ⟨e1,e2⟩=>by grind[Ps.bind,aeF,Ps.pure]
theorem Y7(d:Nb φ h L W){c k:Nat}{f:mh}{s:O}(y:W.h c=H f)(E:cZ ([bO,aN]++me) f.name=I)(v:c=0\/c=h->k=ln f.q):Ps (kZ (c,k) (.cm s) .cm) W λ_ U=>Nb φ h L U/\Fm W U:=by
 intro a U q
 let u:Nb φ h L (W.add (.cm s)):=d.add (.cm s) W.E λe q=>nomatch q
 let o:(W.add (.cm s)).h c=H f:=(N.oj (N.n y)).trans y
 unfold kZ wB at q;rw[o]at q;dsimp only at q;split at q;cases q
 let lk:Pn (W.add (.cm s)) f.name (ins f.q k (.cm (ln W.d))):=(u.u c f o).g E (λe=>nomatch e) λe=>by grind[mH]
 refine⟨u.LP o D id (λg=>lk.e g) (λt b=>?_) (λg q=>?_) (λg z P=>?_) (.inl D),_,_,_,_,D⟩;grind[sM]
 let ⟨e,a1,a2,a3,a4⟩:=u.A
 rw[<-q,o]at a1;cases a1;rw[(lk.DE g).1,v (.inl q),Bg.1];refine⟨a3,λj S=>a4 j ?_⟩;grind[sM]
 let ⟨e,a1,a2,a3⟩:=u.K P
 rw[<-z,o]at a1;cases a1;rw[(lk.DE g).2,v (.inr z),Bg.2];exact⟨a2,a3⟩;cases q
theorem Lv(ad:Nb φ h L W){c k:Nat}{f:mh}{s:O}(b:W.h c=H f)(hd:rZ (f.q.drop k)=I)(B:Na s)(F:cZ (⟨#[]⟩::me) f.name=I)(V:Y2 f.name s)(Y:∀(t:Nat)o,Nd.tx t∈f.q->W.d[t]?=H (.tx o)->Y2 f.name (o++s))(hh:c=h->2<=φ->φ=4/\k=ln f.q)(R:cZ [bO,aN] f.name=C->k=ln f.q):Ps (qd (c,k) s) W λ_ U=>(Nb φ h L U/\Fm W U)/\(cZ [bO,aN] f.name=C->∃n,U.A=W.A/\n.name=f.name/\U.h c=H n/\∀t x,Nd.tx t∈n.q->U.d[t]?=H (.tx x)->x=s\/∃aI o,Nd.tx aI∈f.q/\W.d[aI]?=H (.tx o)/\x=o++s):=by
 intro a U q;unfold qd at q;dsimp only at q;rw[b]at q;dsimp only at q
 let Q:f.name≠⟨#[]⟩:=λe=>mH.1 F (by grind)
 split at q;rename_i K;split at q;rename_i t v;split at q;rename_i o hold;split at q;cases q
 let M:Nd.tx t∈f.q:=by split at v;cases v;grind
 let a0:=(dG.1 hold).1
 let ge:∀i,(W.lw t (o++s)).h i=W.h i:=N.rp hold
 let X:∀(i:Nat)(x:O),(W.lw t (o++s)).d[i]?=H (.tx x)->i=t/\x=o++s\/i≠t/\W.d[i]?=H (.tx x):=λi x e=>by by_cases m:i=t;subst m;rw[show(W.lw i (o++s)).d=W.d.set i (.tx (o++s))from D,qn a0]at e;grind;rw[show(W.lw t (o++s)).d=W.d.set t (.tx (o++s))from D,kx (λe=>m e.symm)]at e;grind
 let hl:(o++s).data.toList=o.data.toList++s.data.toList:=by simp
 let g:Gr W (W.lw t (o++s)):=⟨λi e E=>⟨e,(ge i).trans E,D,id⟩,λi x l=>by by_cases m:i=t;subst m;rw[hold]at l;cases l;refine⟨o++s,qn a0,λT=>⟨λe=>B.1 ?_,by rw[hl];simp[T.2,B.2]⟩⟩;grind[gL];exact⟨x,(kx (λe=>m e.symm)).trans l,id⟩⟩
 let ⟨d1,d2⟩:=ad.e g (λe E=>⟨e,(ge 0).trans E,D,D⟩) (λ_ e E=>⟨e,(ge h).trans E,D,D⟩)
 refine⟨⟨ad.grow g (λi e E=>?_) (λi e t' x E u l=>?_) (λi e j n t' E Z=>?_) d1 d2 D ad.B D ad.E,_,_,_,_,D⟩,λz=>⟨f,D,D,(ge c).trans b,λt' x u l=>?_⟩⟩;grind[Pn.e,Nb.u];grind[Nb.T,Nb.bk];grind[Nb.T];refine .inr ⟨t,o,M,hold,?_⟩
 let h1:=(ad.u c f b).A z
 have:t'=t:=by
  cases hq:f.q with
  |nil=>grind
  |cons y r=>
   grind
 grind;cases q;cases q;rename_i S;cases q
 let p:Nb φ h L (W.add (.tx s)):=ad.add (.tx s) W.E λe q=>nomatch q
 let P:(W.add (.tx s)).h c=H f:=(N.oj (N.n b)).trans b
 let A:(W.add (.tx s)).d[ln W.d]?=H (.tx s):=by show(W.d++[_])[_]?=_;simp
 let aJ:zu (f.q.take k)=I:=by
  unfold zu;by_cases k0:k=0;subst k0;rfl;rw[di k0]at S;rw[List.getLast?_take,di k0];rw[qM (by omega)]at S|-;simp only[Option.some_or,Option.map_some,Option.getD_some];revert S;generalize f.q[k-1]'(by omega)=y;intro S;cases y with
  |tx y=>grind
  |_=>rfl
 let d:cZ [bO,aN] f.name=C->f.q=[]:=λv=>by
  let hk:=R v
  let h1:=(ad.u c f b).A v
  cases hq:f.q with
  |nil=>rfl
  |cons y r=>
   exfalso
   let w:=(ad.u c f b).ok y (by grind)
   let hT:wR y=C:=by
    cases y with
    |tx _=>rfl
    |el j=>let ⟨e,_,q⟩:=w;grind[WK]
    |cm j=>exact absurd (List.mem_append_left me (dV.1 v)) (mH.1 w)
    |dt j=>exact absurd w Q
   grind[zu]
 let lk:Pn (W.add (.tx s)) f.name (ins f.q k (.tx (ln W.d))):=(p.u c f P).g ⟨⟨s,A,B⟩,F⟩ (λ_=>⟨aJ,hd⟩) d
 refine⟨⟨p.LP P D id (λg=>lk.e g) (λt v=>?_) (λg q=>?_) (λg G J=>?_) (.inl D),_,_,_,_,D⟩,λz=>⟨{f with q:=ins f.q k (.tx (ln W.d))},D,D,N.gu (N.n P),λt' x u l=> .inl ?_⟩⟩;rcases sM v with v|v;exact .inl v;cases v;refine .inr ⟨λi e E hm=>?_,⟨s,A⟩,λx l=>by grind⟩
 let ab:W.h i=H e:=by
  by_cases m:i<ln W.d;grind[N.oj]
  let hl:i<ln (W.d++[zE.tx s]):=N.n E
  grind[N.ng]
 grind[Nb.tlt];grind[Nb.A]
 let ⟨e,a1,a2,a3⟩:=p.K J
 rw[<-G,P]at a1;cases a1
 let ⟨p4,pk⟩:=hh G J
 rw[(lk.DE g).2,pk,Bg.2,a3,p4];exact⟨a2,D⟩
 let u:Nd.tx t'∈ins f.q k (.tx (ln W.d)):=u
 rw[d z]at u;rcases sM u with u|u;cases u;cases u;have:((W.add (.tx s)).l c {f with q:=ins f.q k (.tx (ln W.d))}).d[ln W.d]?=H (.tx s):=by show((W.d++[_]).set c _)[_]?=_;rw[kx (by have:=N.n b;omega)];simp
 grind;cases q
end
def Zk:List O->Nat
 |[]=>6
 |x::r=>if de x=6 then Zk r else de x
def sR(L:List O):Nat:=Zk L.reverse
theorem Zl:∀{a b:List O},(∀x∈a,de x=6)->Zk (a++b)=Zk b
 |[],_,_=>rfl
 |x::a,b,h=>by show(if de x=6 then Zk (a++b)else _)=_;rw[dw (h x (js ..)),Zl λy e=>h y (gS _ e)]
theorem ahL{a b:List O}(h:∀x∈b,de x=6):sR (a++b)=sR a:=by grind[Zl,sR]
theorem rl:sR (L++[x])=if de x=6 then sR L else de x:=by unfold sR;rw[ZU];rfl
section
variable {φ φ' h:Nat}{L:List O}{W U:N}
def aeS:∀OF:List Nat,jq W (OF.map H)=Zk (OF.map W.nm)
 |[]=>rfl
 |i::OF=>by show(if de (W.nm i)=6 then jq W _ else de (W.nm i))=(if de _=6 then Zk _ else de _);rw[aeS OF]
def Nb.v(o:Nb φ h L W):jq W W.A.reverse=sR L:=by obtain⟨OF,e,g,j⟩:=o.op;unfold sR;rw[e,<-g,<-Cf,<-Cf];exact aeS _
theorem Su{p b:O->Bool}:∀R:List Nat,W.px p b (R.map H)=C->∃A i B,R=A++i::B/\p (W.nm i)=C/\(∀y∈A,p (W.nm y)=I/\b (W.nm y)=I)/\W.xq p (R.map H)=B.map H
 |[],e=>nomatch e
 |i::R,e=>by
  have e:(if p (W.nm i)then C else if b (W.nm i)then I else W.px p b _)=C:=e;cases hp:p _ with
  |true=>
   refine⟨[],i,R,D,hp,by grind,?_⟩;show(if p (W.nm i)then R.map H else _)=_;grind
  |false=>
   rw[hp]at e;cases hb:b (W.nm i)with
   |true=>grind
   |false=>
    rw[hb]at e;obtain⟨A,j,B,rfl,g,o,q⟩:=Su R e;refine⟨i::A,j,B,D,g,λy u=>?_,?_⟩;grind;show(if p (W.nm i)then _ else W.xq p _)=_;grind
theorem ES(a0:Nb φ h L W){p b:O->Bool}:Ps (iY p b) W λok U=>(ok=I/\U=W)\/ok=C/\Fm W U/\∃o x q,L=o++x::q/\p x=C/\(∀y∈q,p y=I/\b y=I)/\Nb φ h o U:=by
 intro a U e;unfold iY at e;split at e;rename_i g;cases e;obtain⟨OF,u,f,P⟩:=a0.op;unfold N.gH at g;rw[u,<-Cf]at g;obtain⟨A,i,B,v,z,S,E⟩:=Su _ g;have c:=by
  have:=mf wb v
  simpa using this
 have e:W.BE p={W with A:=B.reverse.map H}:=by unfold N.BE;rw[u,<-Cf,E,<-Cf]
 refine .inr ⟨D,⟨_,_,_,_,e⟩,B.reverse.map W.nm,W.nm i,A.reverse.map W.nm,?_,z,λy aJ=>?_,?_⟩;grind;grind;rw[e];exact a0.stack λj d=>P j (by grind);grind
end
theorem Qx(h:de x≠6):x∈[eQ,eS,dK,cO,cX,cH,cI,aV,aH]:=by grind[dV,de]
theorem aky{a b:O}(h:Y1 a b=C)(ha:de a=6)(q:b≠aH):de b=6:=by
 refine Classical.byContradiction λo=>?_;have g:∀b∈[(eQ),(eS),(dK),(cO),(cX),(cH),(cI),(aV)],(match hold b with|some l=>l.all λx=>decide (de x≠6)|none=>I)=C:=by decide+kernel
 have e:b∈[(eQ),(eS),(dK),(cO),(cX),(cH),(cI),(aV)]:=by have e:=Qx o;simp at e|-;grind
 have j:=g b e;cases hl:hold b with
 |none=>grind
 |some l=>
  rw[hl]at j;exact of_decide_eq_true (dm.1 j a (dV.1 ((Gb h).2 l hl))) ha
theorem acQ:∀{r:List O} {x:O},PQ (x::r)=C->de x=6->aH∉r->∀y∈r,de y=6
 |b::r,x,h,hx,ht,y,g=>by have h:(Y1 x b&&PQ _)=C:=h;rw[fq]at h;have j:=aky h.1 hx λe=>ht (by grind);rcases bZ.1 g with rfl|g;exact j;exact acQ h.2 j (λe=>ht (gS _ e)) y g
theorem Sk.pre{g o:List O}(h:Sk (g++x::o))(q:x≠aC)(u:x≠aO):Sk g/\PQ (x::o)=C/\∀z,g.getLast?=H z->Y1 z x=C:=by
 obtain⟨r,e,j⟩:=h;cases g with
 |nil=>grind
 |cons a g=>
  cases g with
  |nil=>grind
  |cons b g=>
   obtain⟨rfl,rfl,rfl⟩:=e;have j:PQ (((aO)::g)++x::o)=C:=j;rw[DV]at j;exact⟨⟨g,D,j.1⟩,j.2.1,by grind⟩
theorem Sk.cut{e g:List O}(h:Sk (e++x::g))(o:de x=6/\x≠aC/\x≠aO)(j:aH∉g):Sk e/\sR e=sR (e++x::g):=by grind[pre,ahL,acQ]
theorem Sk.snoc(h:Sk L)(o:cZ (aO::lM) x=I)(j:∀p,L.getLast?=H p->(fG p aV=I)/\∀l,hold x=H l->cZ l p=C):Sk (L++[x]):=by obtain⟨r,rfl,e⟩:=h;refine⟨r++[x],D,?_⟩;show PQ (((aO)::r)++[x])=C;rw[DV];refine⟨e,D,λa b ha g=>?_⟩;unfold Y1;grind
def Bo(h:Nat)(L:List O)(W U:N):Prop:=∃e,Nb 6 h e U/\Sk e/\sR e=sR L/\Fm W U
def Bm{a:Type}(m:M a):Prop:=∀{h:Nat} {L:List O} {W:N},Nb 6 h L W->Sk L->sR L≠10->Ps m W λ_=>Bo h L W
theorem Bm.pure{b:Type}(a:b):Bm (aG a:M b):=λe s _=>Ps.pure ⟨_,e,s,D,Fm.refl _⟩
theorem Bm.bind{c P:Type}{m:M c}{f:c->M P}(h:Bm m)(y:∀a,Bm (f a)):Bm (m>>=f):=λb s r=>Ps.bind (h b s r) λa U ⟨S,e,E,z,v⟩=>Ps.mono (y a e E (by grind)) λ_ _ ⟨g,j,o,q,u⟩=>⟨g,j,o,q.trans z,v.trans u⟩
theorem Bm.ite{d:Type}{c:Prop}[Decidable c]{a b:M d}(ha:Bm a)(e:Bm b):Bm (if c then a else b):=by grind
def D1(x:O):Prop:=de x=6/\x≠aC/\x≠aO
theorem ui{p b:O->Bool}(o:∀x,p x=C->D1 x)(z:b aH=C):Bm (iY p b):=λ{h L W} P s _=>Ps.mono (ES P) λok U q=>by
 rcases q with⟨_,rfl⟩|⟨_,f,g,x,v,rfl,u,y,e⟩;exact⟨L,P,s,D,Fm.refl _⟩;obtain⟨a,j⟩:=s.cut (o x u) λE=>by grind
 exact⟨g,e,a,j,f⟩
def Ax(g:l.all (λx=>decide (de x=6)&&!fG x aC&&!fG x aO)=C)(h:cZ l x=C):D1 x:=by have:=dm.1 g x (dV.1 h);rw[fq,fq]at this;refine⟨of_decide_eq_true this.1.1,λe=>?_,λe=>?_⟩;have h:=this.1.2;rw[e]at h;exact absurd h (by decide+kernel);have h:=this.2;rw[e]at h;exact absurd h (by decide+kernel)
def xR:Bm my:=Bm.bind (ui (λ_=>Ax (by decide+kernel)) (by decide+kernel)) λ_=>Bm.pure _
structure F1(x:O):Prop where
 m:de x=6
 h:hold x=F
def FZ(j:hold x=F)(g:cZ lM p=I):Hu p x=C/\p≠⟨#[]⟩/\p≠aC:=by have h:=mH.1 g;refine⟨?_,λe=>h (by rw[e];exact dV.1 (by decide+kernel)),λe=>h (by rw[e];exact dV.1 (by decide+kernel))⟩;unfold Hu;rw[j];rw[di λe=>h (by rw[oo e];exact dV.1 (by decide+kernel)),g];rfl
def Zu(e:sR L≠10)(g:L.getLast?=H p):fG p aV=I:=by
 cases hq:fG p _ with
 |false=>rfl
 |true=>
  obtain⟨j,rfl⟩:=eT.1 g;rw[oo hq,rl,di (by decide+kernel)]at e;exact absurd (by decide+kernel) e
theorem KI(g:F1 t.name)(j:cZ (aO::lM) t.name=I):Bm (eE t):=λ{h L W} u s r=>Ps.mono (pa u (λ_=>s) λp q _=>FZ g.h (q s)) λ_ U ⟨a,b⟩=>⟨_,a,s.snoc j λp e=>⟨Zu r e,λl o=>by grind[F1.h]⟩,by grind[rl,F1.m],b⟩
theorem WM{nm:O}(g:F1 nm)(j:cZ (aO::lM) nm=I):Bm (iD nm):=λ{h L W} u s r=>Ps.mono (Az u (λ_=>s) λp q _=>FZ g.h (q s)) λ_ U ⟨a,b⟩=>⟨_,a,s.snoc j λp e=>⟨Zu r e,λl o=>by grind[F1.h]⟩,by grind[rl,F1.m],b⟩
def XK(e:hold t.name=F):Bm (jA t):=λ{h L W} g s r=>Ps.bind (pa g (λ_=>s) λp q _=>FZ e (q s)) λ_ σ1 ⟨a,b⟩=>Ps.bind (Ps.ok D ⟨L,a.drop,s,D,b.trans ⟨_,_,_,_,D⟩⟩) λ_ _ h=>Ps.pure h
theorem Xs(h:∀x∈W.B,x=F):iF W=.ok () W:=by
 have:ln W.B-W.e=0:=by
  unfold N.e;cases hr:W.B.reverse with
  |nil=>grind[l0]
  |cons x r=>
   grind[l3,l0,N.iT,N.Qq]
 unfold iF;rw[this];rfl
theorem Jv:Bm iF:=λ{h L W} e s _=>Ps.ok (Xs e.B) ⟨L,e,s,D,Fm.refl _⟩
theorem Rw(h:cZ lM p=I):cZ (⟨#[]⟩::me) p=I/\cZ [aC,aZ] p=I/\cZ [bO,aN] p=I/\cZ ([bO,aN]++me) p=I/\p≠⟨#[]⟩/\p≠aC:=by grind[mH,lM]
theorem acP(y:Na t.d)(P:Nb 6 h L W)(s:Sk L):Ps (gh t) W λ_=>Bo h L W:=Ps.bind (Q:=λg U=>U=W/\∃K,W.h g.1=H K/\rZ (K.q.drop g.2)=I/\cZ lM K.name=I) (λg U e=>by
  grind[wA]) λg U ⟨e,K,j,u,v⟩=>by
  subst e
  let ⟨v1,v2,v3,_,v5,v6⟩:=Rw v
  let o:K.name≠(aN):=λe=>by rw[e]at v3;exact absurd v3 (by decide+kernel)
  refine Ps.bind (Lv P j u y v1 (Y2.free v2 o _) (λ_ _ _ _=>Y2.free v2 o _) (λz E=>absurd z ((P.ne j v5 v6).2 E)) λq=>by grind) λ_ X ⟨⟨a,b⟩,_⟩=>Ps.pure ⟨L,a,s,D,b⟩
theorem acN(e:Na t.d):Bm (gh t):=λg s _=>acP e g s
theorem Sr(e:kN t.d=I->Na t.d):Bm (jL t):=by grind[Bm.bind,Jv,acN,Bm.pure,jL]
theorem NR(t:dj)(u:Nb 6 h L W)(s:Sk L):Ps (iq ja t) W λ_=>Bo h L W:=by
 unfold iq;split;exact Ps.bind (Q:=λg U=>U=W/\∃K,W.h g.1=H K/\cZ lM K.name=I) (λg U e=>by
  grind[wA]) λg U ⟨e,K,j,o⟩=>by
  subst e
  let ⟨_,_,_,v4,v5,v6⟩:=Rw o
  let ⟨n0,n1⟩:=u.ne j v5 v6
  exact Ps.bind (Y7 u j v4 λq=>q.elim (λq=>absurd q n0) λq=>absurd q (n1 (by decide))) λ_ X ⟨a,b⟩=>Ps.pure ⟨L,a,s,D,b⟩
 exact Ps.pure ⟨L,u,s,D,Fm.refl _⟩
def NQ(t:dj):Bm (iq ja t):=λe s _=>NR t e s
theorem ai5(j:D1 x)(o:Nb 6 h L W)(s:Sk L)(g:L.getLast?=H x):Bo h L W W.pop:=by
 obtain⟨e,rfl⟩:=eT.1 g
 let ⟨a,b⟩:=s.cut j (nofun)
 exact⟨e,o.drop,a,b,_,_,_,_,D⟩
theorem Y5{p:O->Bool}(o:∀x,p x=C->D1 x):Bm (oA p):=λ{h L W} q s _=>Ps.oc (by
 unfold N.Io;split;rename_i e;unfold N.gV at e;split at e;cases e;rename_i i g
 let ⟨x,hx,hl⟩:=q.last g
 let j:W.nm i=x.name:=by unfold N.nm;rw[hx]
 grind[ai5];exact⟨L,q,s,D,Fm.refl _⟩)
def aab:Bm (gN F):=λ{h L W} g s _ _ U e=>by unfold gN at e;split at e;cases e;split at e;cases e;exact⟨L,g.q D D (Av g.B) D g.E,s,D,_,_,_,_,D⟩;cases e
theorem afC:Bm xJ:=Bm.bind (λ{h L W} j s _ _ U e=>by unfold Ck at e;split at e;cases e;refine⟨L,j.q D D (λx g=>j.B x ?_) D j.E,s,D,_,_,_,_,D⟩;have:=rb (dU.1 g);grind[List.dropWhile_sublist];cases e) λ_=>Bm.pure _
theorem age(P:D1 s):Bm (vU s):=λ{h L W} S u r _ U e=>by
 let y:oP s=oP s:=rfl
 unfold vU at e;split at e;cases e;rename_i i o;split at e;rename_i E;cases e
 let ⟨x,g,q⟩:=S.last o
 let z:W.nm i=x.name:=by unfold N.nm;rw[g]
 grind[ai5,oo]
 let q:W.lU s=F:=by
  unfold N.lU;cases hr:W.B.reverse with
  |nil=>rfl
  |cons x l=>
   have:=S.B x (by grind[l3]);rw[this];rfl
 let j:Ps (rL s 8) W λ_=>Bo h L W:=by
  refine Ps.bind (Q:=λb U=>b=I/\Bo h L W U) (Ps.eq (a:=do oP s;return I) (by grind[lQ]) ?_) λb σ1 ⟨e1,v⟩=>by grind[Ps.pure]
  refine Ps.bind (Q:=λ_=>Bo h L W) ?_ λ_ _ h=>Ps.pure ⟨D,h⟩;exact(Bm.bind (ui (λx g=>by grind[dV]) (by decide+kernel)) λ_=>Bm.pure _) S u r
 exact j _ U e
theorem QT:∀(l:iB){W:N},Nb φ h L W->Ps (oR i l) W λ_ U=>Nb φ h L U/\Fm W U
 |[],W,He=>Ps.pure ⟨He,Fm.refl _⟩
 |a::l,W,He=>λx U e=>by
  unfold oR at e;split at e;cases e;rename_i o j;split at e;exact QT l He x U e;split at e;cases e
  let u:Nb φ h L (W.l i {o with A:=o.A++[a]}):=He.LP j D id (λg=>(He.u i o j).e g) (λt v=> .inl v) (λg q=>by
   let ⟨e,a1,_,a3,a4⟩:=He.A
   rw[<-q,j]at a1;cases a1;rw[((He.u i _ j).DE g).1];grind) (λg y z=>by
   let ⟨e,a1,a2,a3⟩:=He.K z
   rw[<-y,j]at a1;cases a1;rw[((He.u i _ j).DE g).2];grind) (.inl D)
  let ⟨b1,b2⟩:=QT l u x U e
  exact⟨b1,Fm.trans ⟨_,_,_,_,D⟩ b2⟩
def Ue(g:Nb φ h L W)(i:Nat)(t:dj):Ps (uW i t) W λ_ U=>Nb φ h L U/\Fm W U:=λx U e=>by unfold uW at e;split at e;exact QT _ g x U e;cases e
def Ip(g:Nb φ h L W)(t:dj):Ps (mF t) W λ_ U=>Nb φ h L U/\Fm W U:=λx U e=>by unfold mF at e;split at e;exact(Ps.bind (d:=λ_ U=>Nb φ h L U/\Fm W U) (Ue g _ t) λ_ _ q=>Ps.pure q) x U e;cases e
def Wz(t:dj):Bm (nA t):=λ{h L W} g s _ x U e=>by unfold nA at e;split at e;split at e;exact(Ps.bind (d:=λ_=>Bo h L W) (Ps.mono (Ue g _ t) λ_ _ ⟨a,b⟩=>⟨L,a,s,D,b⟩) λ_ _ q=>Ps.pure q) x U e;cases e;exact⟨L,g,s,D,Fm.refl _⟩;cases e;exact⟨L,g,s,D,Fm.refl _⟩
def Mk{b:Type}(nm:O)(m:M b):Prop:=∀W a U,m W=.ok a U->∃i,fa U i nm
def Nn{b:Type}(m:M b):Prop:=∀W a U,m W=.ok a U->U.d=W.d
theorem Mk.left{c j:Type}{nm:O}{m:M c}{f:c->M j}(h:Mk nm m)(g:∀a,Nn (f a)):Mk nm (m>>=f):=λW b X e=>by
 rw[M.cW]at e;cases hm:m W with
 |ok a σ1=>
  rw[hm]at e
  let ⟨i,x,h1,h2⟩:=h W a σ1 hm
  exact⟨i,x,by rw[Hi (g a σ1 b X e)];exact h1,h2⟩
 |stop=>grind
 |stuck=>grind
theorem Mk.right{c j:Type}{nm:O}{m:M c}{f:c->M j}(g:∀a,Mk nm (f a)):Mk nm (m>>=f):=λW b X e=>by
 rw[M.cW]at e;cases hm:m W with
 |ok a σ1=>rw[hm]at e;exact g a σ1 b X e
 |stop=>grind
 |stuck=>grind
theorem Nn.bind{c j:Type}{m:M c}{f:c->M j}(h:Nn m)(g:∀a,Nn (f a)):Nn (m>>=f):=λW b X e=>by
 rw[M.cW]at e;cases hm:m W with
 |ok a σ1=>rw[hm]at e;exact(g a σ1 b X e).trans (h W a σ1 hm)
 |stop=>grind
 |stuck=>grind
theorem Nn.pure{b:Type}(a:b):Nn (aG a:M b):=λ_ _ _ e=>by cases e;rfl
theorem Nn.oc{f:N->N}(h:∀W,(f W).d=W.d):Nn (oc f):=λW _ _ e=>by cases e<;>grind
theorem aeG{j:fW}:Ps (nK j) W λ_ U=>U.A=W.A++[j]/\U.head=W.head:=λ_ U e=>by grind[nK]
theorem Jn:Ps (eE t) W λ_ U=>U.A=W.A++[H (ln W.d)]/\∃e,U.h (ln W.d)=H e/\e.name=t.name/\e.q=[]:=by
 refine Ps.bind (Q:=λj σ1=>j=ln W.d/\σ1.A=W.A/\∃e,σ1.h (ln W.d)=H e/\e.name=t.name/\e.q=[]) (λj σ1 e=>?_) λj σ1 ⟨e1,b,E⟩=>Ps.bind ?_ λ_ _ h=>Ps.pure h;unfold jN at e;split at e;cases e;exact⟨D,D,_,N.ng,D,D⟩;cases e;subst e1;refine Ps.bind (Q:=λg X=>X.A=W.A/\∃e,X.h (ln W.d)=H e/\e.name=t.name/\e.q=[]) (λg X e=>?_) λg X ⟨P,o⟩=>Ps.bind (Q:=λ_ σ3=>σ3.A=W.A/\∃e,σ3.h (ln W.d)=H e/\e.name=t.name/\e.q=[]) (λ_ σ3 e=>?_) λ_ σ3 ⟨aJ,q⟩=>Ps.bind (λ_ a e=>?_) λ_ _ h=>Ps.pure h;have:X=σ1:=by unfold ja at e;split at e;grind[BW];cases e
 grind;unfold jz at e;split at e;rename_i v z c y;split at e;rename_i S;cases e
 let ⟨x,hx,hn,hk⟩:=o
 rw[y]at hx;cases hx
 let u:(X.l g.1 {v with q:=Go.Proofs.YtcalkelgoekpfaaGreatDoor.ins v.q g.2 (.el (ln W.d))}).h (ln W.d)=H z:=(N.s S.1).trans y
 exact⟨P,_,N.gu (N.n u),hn,hk⟩;cases e;cases e;unfold nK at e;split at e;cases e;split at e;cases e;exact⟨by grind,q⟩;cases e
theorem Mk.ins(t:dj):Mk t.name (eE t):=λW a U e=>by
 let ⟨_,x,h1,h2,_⟩:=Jn a U e
 exact⟨_,x,h1,h2⟩
def Ps.and{d:Type}{m:M d}{Q c:d->N->Prop}(a:Ps m W Q)(b:Ps m W c):Ps m W λx s=>Q x s/\c x s:=λx s e=>⟨a x s e,b x s e⟩
def alv(W:N):Prop:=∃c e,W.last=H c/\W.h c=H e/\e.q=[]/\W.a=e.name/\(e.name=aN->W.S=C)
def C5{o:iU}{j:Nat}(e:W.A=o++[H j]):W.last=H j:=by unfold N.last dT;rw[e];simp;omega
def Wd(W:N):Prop:=∃i s,fa W i s/\cZ Cd s=C
def xc(W U:N)(m k:Nat):Prop:=∃e o f a x y,U={W with d:=e,A:=o,E:=f,B:=a,a:=x,S:=y,g:=m,kept:=k}
def BR(t:dj)(h:Nat)(L:List O)(W U:N):Prop:=Wd U\/∃e m k,xc W U m k/\Nb 6 h e U/\(m=W.g/\k=W.kept/\Sk e/\sR e=sR L\/m=7/\k=W.kept/\Sk e/\sR e=7/\t.k=.start aH\/m=5/\k=W.g/\alv U/\(∃g x,e=g++[x]/\cZ [bO,aN] x=C/\Sk g/\sR g=sR L)\/(m=16\/m=17)/\k=W.kept/\Sk e/\sR e=sR L/\(t.k=.stop aO\/t.k=.stop aC))
theorem Bo.br(b:Bo h L W U):BR t h L W U:=by obtain⟨e,g,s,r,j,o,f,a,rfl⟩:=b;exact .inr ⟨e,_,_,⟨j,o,f,a,_,_,D⟩,g,by grind⟩
def Mk.br{b:Type}{m:M b}{nm:O}(g:Mk nm m)(j:cZ Cd nm=C):Ps m W λ_=>BR t h L W:=λa U e=> .inl <|by
 let ⟨i,hi⟩:=g W a U e
 exact⟨i,nm,hi,j⟩
def Bm.br{a:Type}{m:M a}(e:Bm m)(g:Nb 6 h L W)(s:Sk L)(r:sR L≠10):Ps m W λ_=>BR t h L W:=Ps.mono (e g s r) λ_ _ b=>b.br
theorem Oo:∀(R:List (List O×Ru))(k:O),(uC (H R) k=.nil/\∀p∈R,cZ p.1 k=I)\/∃p∈R,cZ p.1 k=C/\uC (H R) k=p.2
 |[],_=> .inl ⟨D,nofun⟩
 |p::R,k=>by
  cases h:cZ p.1 k with
  |true=>exact .inr ⟨p,js ..,h,by show(lV _ k).getD .nil=_;grind[lV]⟩
  |false=>
   let e:uC (H (p::R)) k=uC (H R) k:=by show(lV _ k).getD .nil=_;unfold lV;rw[di (by grind)];rfl
   rcases Oo R k with⟨g,j⟩|⟨q,g,j⟩
   all_goals grind
theorem jv{P:Ru->Prop}{R:List (List O×Ru)}{k:O}{l:List Ru}(u:∀p∈R,cZ p.1 k=C->P (gE (p.2::l)))(j:(∀p∈R,cZ p.1 k=I)->P (gE l)):P (gE (uC (H R) k::l)):=by rcases Oo R k with⟨e,g⟩|⟨p,o,q,e⟩;exact e▸j g;grind
theorem Qr{R:List (List O×Ru)}{k:O}(e:(L.all λs=>R.any λp=>cZ p.1 s)=C)(j:∀p∈R,cZ p.1 k=I):cZ L k=I:=mH.2 λg=>by grind
def QC:List O:=[eQ,eS,dK,cO,cX,cH,cI,aV,aH]
theorem V4(h:cZ QC x=I):de x=6:=Classical.byContradiction λg=>mH.1 h (Qx g)
theorem ag6(h:cZ (BL.map (·.1)) x=I):hold x=F:=by grind[mH,oo,hold]
def pI(x:O):Prop:=F1 x/\cZ (aO::lM) x=I
theorem Im(e:l.all (λx=>decide (de x=6)&&(hold x).isNone&&!cZ (aO::lM) x)=C)(h:cZ l x=C):pI x:=by have:=dm.1 e x (dV.1 h);rw[fq,fq]at this;exact⟨⟨of_decide_eq_true this.1.1,wi.1 this.1.2⟩,by grind⟩
def PC{P:O->Bool}(e:l.all P=C)(h:cZ l x=C):P x=C:=dm.1 e x (dV.1 h)
def Qj(e:l.all (λx=>(hold x).isNone)=C)(h:cZ l x=C):hold x=F:=wi.1 (dm.1 e x (dV.1 h))
def Js(h:pI t.name):Bm (jB t):=Bm.bind Jv λ_=>Bm.bind (KI h.1 h.2) λ_=>Bm.pure _
def PI(h:pI t.name):Bm (lc t):=Bm.bind xR λ_=>Bm.bind (KI h.1 h.2) λ_=>Bm.pure _
theorem ahn(h:D1 s):Bm (oP s):=Bm.bind (ui (λx e=>by grind[dV]) (by decide+kernel)) λ_=>Bm.pure _
theorem akz(h:D1 s)(x:O)(e:cZ [s] x=C):D1 x:=by grind[dV]
section
variable {lk:Bool}{n:Nat}{t:dj}{h:Nat}{L:List O}{W:N}
theorem jx{m:Nat}{a:kR}{r:Ru}(e:sT[m]?=H a)(j:eI a t=r)(g:t.k≠ .ic):dx lk (n+1) m t=jp lk (dx C n) (dx lk n) r t:=by grind[AH,CO]
theorem Ih(E:Nb 6 h L W)(s:Sk L)(j:cZ [bO,aN] t.name=C)(pl:Bool)(z:t.name=aN->pl=C):Ps (lu t pl) W λ_=>BR t h L W:=by refine Ps.bind (Ps.and (pa E (λ_=>s) λp q _=>FZ (Qj (by decide+kernel) j) (q s)) Jn) λ_ σ1 ⟨⟨g,P,o,f,a,e⟩,c,x,u,y,v⟩=>?_;subst e;exact Ps.ok D (.inr ⟨L++[t.name],5,W.g,⟨P,o,f,a,_,_,D⟩,g.q D D g.B D g.E,.inr (.inr (.inl ⟨D,D,⟨ln W.d,x,C5 c,u,v,y.symm,by grind⟩,L,t.name,D,j,s,D⟩))⟩)
theorem Yx(u:Nb 6 h L W)(s:Sk L)(r:sR L≠10)(o:t.k=.start t.name)(q:cZ [dy,bO,aN] t.name=C):∀n,Ps (dx lk n 3 t) W λ_=>BR t h L W
 |0=>Ps.stuck D
 |n+1=>by
  let g:t.k≠ .ic:=by rw[o];simp
  let j:eI gI t=gE [uC gI.start t.name,gI.B,gI.l]:=by unfold eI;rw[o]
  simp only[dV,nQ,nR,od]at q;rcases q with e|e|e;rw[jx (r:=.dX 104) D (j.trans (by rw[e];kernel_rfl)) g];exact Bm.br (XK (by rw[e];decide+kernel)) u s r;rw[jx (r:=.dX 105) D (j.trans (by rw[e];kernel_rfl)) g];exact Ps.bind (Ih u s (by rw[e];decide+kernel) I (by grind)) λ_ _ h=>Ps.pure h;rw[jx (r:=.dX 106) D (j.trans (by rw[e];kernel_rfl)) g];exact Ps.bind (Ih u s (by rw[e];decide+kernel) C λ_=>D) λ_ _ h=>Ps.pure h
def eU{b:Type}{P:b->Prop}{a:b}{l:List b}(h:P a)(e:∀x∈l,P x):∀x∈a::l,P x:=List.forall_mem_cons.2 ⟨h,e⟩
def oO{a:Type}{P:a->Prop}:∀x∈([]:List a),P x:=λ_ h=>nomatch h
theorem akt(i:Nat):Nn (Pt i):=λW a U e=>by
 unfold Pt at e
 let k:∀x W a U,gN x W=.ok a U->U.d=W.d:=λx W a U e=>by grind[gN]
 let g:∀x W a U,iP x W=.ok a U->U.d=W.d:=λx W a U e=>by grind[iP]
 dsimp at e;split at e;exact Nn.bind (λW a U=>g _ W a U) (λ_=>Nn.bind (λW a U=>k _ W a U) λ_=>Nn.pure _) W a U e;exact Nn.bind (λW a U=>k _ W a U) (λ_=>Nn.pure _) W a U e
def TR:Mk t.name (jB t):=Mk.right λ_=>Mk.left (Mk.ins t) λ_=>Nn.pure _
theorem K9:Mk t.name (fj t):=Mk.left TR λ_=>Nn.bind (λW a U e=>by grind[Ib]) λ_=>Nn.bind (akt _) λ_=>Nn.pure _
end
structure TO(t:dj):Prop where
 A:t.k≠ .ic
 ne:∀n,t.k=.start n\/t.k=.stop n->n≠⟨#[]⟩
 B:∀s,t.k=.fI s->kN s=I->Na s
section
variable {lk:Bool}{n:Nat}{t:dj}{h:Nat}{L:List O}{W:N}
theorem Zi(o:sR L=6):∀x∈L,de x=6:=by
 let g:∀l,Zk l=6->∀x∈l,de x=6:=by
  intro l
  induction l with
  |nil=>grind
  |cons a l ih=>
   intro e x j
   let e:(if de a=6 then Zk l else de a)=6:=e
   grind
 exact λx j=>g _ o x (dU.2 j)
theorem VQ(a0:Nb 6 h L W)(s:Sk L)(r:sR L≠10)(y:t.k=.start t.name)(S:t.name≠⟨#[]⟩):Ps (jp lk (dx C n) (dx lk n) (gE [uC (H iR) t.name,.dX 116,.eW]) t) W λ_=>BR t h L W:=by
 refine jv (P:=λr=>Ps (jp lk (dx C n) (dx lk n) r t) W λ_=>BR t h L W) ?_ λj=>?_;unfold iR;refine eU (λq=>Bm.br (m:=qh t) (Bm.bind (Js (Im (by decide+kernel) q)) λ_=>Bm.bind aab λ_=>Bm.pure _) a0 s r) ?_;refine eU (λq=>Mk.br (m:=sr t) (nm:=t.name) (Mk.right λ_ W a U e=>by unfold tY at e;split at e;exact Mk.right (λ_=>Mk.left (K9 (t:=t)) λ_=>Nn.pure _) W a U e;exact Mk.left (K9 (t:=t)) (λ_=>Nn.pure _) W a U e) (PC (by decide+kernel) q)) ?_
 refine eU (λq=>Mk.br (m:=fj t) K9 (PC (by decide+kernel) q)) ?_;refine eU (λq=>Mk.br (m:=pd t) (nm:=t.name) (λW a U e=>by unfold pd at e;split at e;exact Mk.left (K9 (t:=t)) (λ_=>Nn.pure _) W a U e;exact Mk.right (λ_=>Mk.right λ_=>Mk.right λ_=>Mk.left (K9 (t:=t)) λ_=>Nn.pure _) W a U e) (PC (by decide+kernel) q)) ?_
 refine eU (λq=>Bm.br (m:=vK t) (Bm.bind Jv λ_=>Bm.bind (XK (Qj (by decide+kernel) q)) λ_=>Bm.pure _) a0 s r) ?_;refine eU (λq=>Mk.br (m:=sv t) (Mk.left TR λ_=>Nn.bind (Nn.oc λ_=>D) λ_=>Nn.pure _) (PC (by decide+kernel) q)) ?_;refine eU (λq=>Bm.br (m:=nZ t) (Bm.bind (Y5 λ_=>Ax (by decide+kernel)) λ_=>Bm.bind (Js (Im (by decide+kernel) q)) λ_=>Bm.pure _) a0 s r) ?_;refine eU (λq=>Mk.br (m:=rq t) (nm:=t.name) (Mk.left (Mk.left (Mk.left (Mk.ins t) λ_=>Nn.bind (Nn.oc λ_=>D) λ_=>Nn.bind (Nn.oc λ_=>D) λ_=>Nn.bind (Nn.oc λ_=>D) λ_=>Nn.pure _) λ_=>Nn.pure _) λ_=>Nn.bind (Nn.oc λ_=>D) λ_=>Nn.pure _) (PC (by decide+kernel) q)) ?_;refine eU (λq=>(by
   have j:=by have:=dV.1 q;simp only[nQ,nR,od]at this;exact this
   refine Ps.bind (Q:=λ_=>Bo h L W) ?_ λ_ σ1 ⟨d,c,v,r1,aJ⟩=>?_;intro a U e;unfold xa at e;split at e;cases e;exact⟨L,a0,s,D,Fm.refl _⟩;exact xR a0 s r a U e;refine Ps.bind (pa c (λ_=>v) λp q _=>FZ (by rw[j];decide+kernel) (q v)) λ_ X ⟨u,f2⟩=>Ps.bind (Ps.oc ?_) λ_ _ h=>Ps.pure h;obtain⟨a1,o,f,a,rfl⟩:=aJ.trans f2;refine .inr ⟨d++[t.name],7,W.kept,⟨a1,o,f,a,_,_,D⟩,u.q D D u.B D u.E,.inr (.inl ⟨D,D,(v.snoc (by rw[j];decide+kernel) λp i=>⟨Zu (by grind) i,λl z=>by rw[j,show hold aH=F by decide+kernel]at z;cases z⟩),?_,by rw[y,j]⟩)⟩;rw[rl,j,di (by decide+kernel)];decide+kernel)) ?_
 refine eU (λq=>Bm.br (m:=qg t) (Bm.bind (ui (λ_=>Ax (by decide+kernel)) (by decide+kernel)) λ_=>Bm.bind (Js (Im (by decide+kernel) q)) λ_=>Bm.pure _) a0 s r) ?_;refine eU (λq=>Bm.br (m:=Ew [oJ,oK] t) (Bm.bind (ui (λ_=>Ax (by decide+kernel)) (by decide+kernel)) λ_=>Bm.bind (PI (Im (by decide+kernel) q)) λ_=>Bm.pure _) a0 s r) ?_;refine eU (λq=>Bm.br (m:=Ew [eN] t) (Bm.bind (ui (λ_=>Ax (by decide+kernel)) (by decide+kernel)) λ_=>Bm.bind (PI (Im (by decide+kernel) q)) λ_=>Bm.pure _) a0 s r) ?_;refine eU (λq=>Ps.eq (a:=do lc t;oc λW=>{W with j:=W.last};return ()) (by show sq t W=_;unfold sq;rw[a0.R]) (Mk.br (nm:=t.name) (Mk.left (Mk.right λ_=>Mk.left (Mk.ins t) λ_=>Nn.pure _) λ_=>Nn.bind (Nn.oc λ_=>D) λ_=>Nn.pure _) (PC (by decide+kernel) q))) ?_;refine eU (λq=>Bm.br (m:=zd t) (Bm.bind xR λ_=>Bm.bind (XK (Qj (by decide+kernel) q)) λ_=>Bm.pure _) a0 s r) ?_;refine eU (λq=>Bm.br (m:=oG t) (Bm.bind xR λ_=>Bm.bind (Y5 λ_=>Ax (by decide+kernel)) λ_=>Bm.bind (KI (Im (by decide+kernel) q).1 (Im (by decide+kernel) q).2) λ_=>Bm.pure _) a0 s r) ?_;refine eU (λq=>Mk.br (m:=yq t) (nm:=t.name) (Mk.left (Mk.right λ_=>Mk.left (Mk.ins t) λ_=>Nn.pure _) λ_=>Nn.bind (Nn.oc λ_=>D) λ_=>Nn.pure _) (PC (by decide+kernel) q)) ?_;refine eU (λq=>Bm.br (m:=lc t) (PI (Im (by decide+kernel) q)) a0 s r) ?_;refine eU (λq=>Bm.br (m:=(aG ():M Unit)) (Bm.pure _) a0 s r) ?_;refine eU (λq=>Yx a0 s r y q n) ?_;refine eU (λq=>Bm.br (m:=nA t) (Wz t) a0 s r) ?_;refine eU (λq=>Ps.mono (Ip a0 t) λ_ _ ⟨a,b⟩=>Bo.br ⟨L,a,s,D,b⟩) oO;have E:cZ (aO::lM.tail) t.name=I:=Qr (by decide+kernel) j;have k2:cZ (aO::lM) t.name=I:=mH.2 λg=>by rcases bZ.1 g with e|g;exact mH.1 E (by rw[e];exact js ..);have g:t.name∈⟨#[]⟩::lM.tail:=g;rcases bZ.1 g with e|g;exact S e;exact mH.1 E (gS _ g)
 exact Bm.br (m:=jB t) (Js ⟨⟨V4 (Qr (by decide+kernel) j),ag6 (mH.2 λg=>(bZ.1 (show t.name∈⟨#[]⟩::(BL.map (·.1)).tail from g)).elim S (mH.1 (Qr (by decide+kernel) j)))⟩,k2⟩) a0 s r
theorem aal(i:Nb 6 h L W)(s:Sk L)(r:sR L≠10)(u:t.k=.stop t.name)(g:de t.name=6\/sR L=6):Ps (jp lk (dx C n) (dx lk n) (gE [uC (H iZ) t.name,.dX 118,.eW]) t) W λ_=>BR t h L W:=by
 refine jv (P:=λr=>Ps (jp lk (dx C n) (dx lk n) r t) W λ_=>BR t h L W) ?_ λS=>?_;unfold iZ;refine eU (λq=>Bm.br (m:=rX) (Bm.bind (ui (λ_=>Ax (by decide+kernel)) (by decide+kernel)) λb=>Bm.ite afC (Bm.pure _)) i s r) ?_;refine eU (λq=>Bm.br (m:=rh t) (Bm.bind (age (Ax (by decide+kernel) q)) λ_=>Bm.pure _) i s r) ?_;refine eU (λq=>Ps.eq (a:=(aG ():M Unit)) (by show xf W=_;unfold xf;rw[i.R];rfl) (Bm.br (Bm.pure _) i s r)) ?_;refine eU (λq=>Bm.br (m:=uy) (Bm.bind Jv λ_=>λ{h L W} i s r=>Ps.bind (Az i (λ_=>s) λp q _=>FZ (x:=iC) (by decide+kernel) (q s)) λ_ σ1 ⟨a,b⟩=>Ps.bind (Q:=λ_=>Bo h L W) (Ps.ok (σ1:=σ1.pop) D ⟨L,a.drop,s,D,b.trans ⟨_,_,_,_,D⟩⟩) λ_ _ h=>Ps.pure h) i s r) ?_;refine eU (λq=>Bm.br (m:=Qb) (λ{h L W} i s r a U e=>by unfold Qb at e;split at e;exact Bm.bind xR (λ_=>Bm.pure _) i s r a U e;exact Bm.bind (WM ⟨by decide+kernel,by decide+kernel⟩ (by decide+kernel)) (λ_=>Bm.bind xR λ_=>Bm.pure _) i s r a U e) i s r) ?_
 refine eU (λq=>Bm.br (m:=A6) (Bm.bind (ui (λ_=>Ax (by decide+kernel)) (by decide+kernel)) λ_=>Bm.pure _) i s r) ?_;refine eU (λq=>Bm.br (m:=tK) (Bm.bind (ui (λ_=>Ax (by decide+kernel)) (by decide+kernel)) λ_=>Bm.pure _) i s r) ?_;refine eU (λq=>Bm.br (m:=xW t) (Bm.bind (ui (akz (Ax (by decide+kernel) q)) (by decide+kernel)) λ_=>Bm.pure _) i s r) ?_;refine eU (λq a U e=>?_) ?_
 let j:t.name=aC:=by have:=dV.1 q;simp only[nQ,nR,od]at this;exact this
 let e:xg (dx lk n) t W=.ok a U:=e
 unfold xg at e;split at e;refine Ps.bind (d:=λ_=>BR t h L W) (Q:=λ_ σ1=>σ1={W with g:=16}) (Ps.oc D) (λ_ σ1 e1=>Ps.bind (Q:=λ_=>BR t h L W) ?_ λ_ _ h=>Ps.pure h) a U e;subst e1;cases n with
 |zero=>exact Ps.stuck D
 |succ n=>
  show Ps (dx lk (n+1) 16 t) _ _;rw[jx (a:=oD) (r:=.dX 149) D (by unfold eI;rw[u];dsimp only;rw[j];kernel_rfl) (by rw[u];simp)];exact Ps.oc (.inr ⟨L,17,W.kept,⟨_,_,_,_,_,_,D⟩,i.q D D i.B D i.E,.inr (.inr (.inr ⟨.inr D,D,s,D,.inr (by rw[u,j])⟩))⟩)
 cases e;exact Bo.br ⟨L,i,s,D,Fm.refl _⟩;refine eU (λq a U e=>?_) oO
 let j:t.name=aO:=by have:=dV.1 q;simp only[nQ,nR,od]at this;exact this
 let e:xe W=.ok a U:=e
 unfold xe at e;split at e;cases e;exact .inr ⟨L,16,W.kept,⟨_,_,_,_,_,_,D⟩,i.q D D i.B D i.E,.inr (.inr (.inr ⟨.inl D,D,s,D,.inl (by rw[u,j])⟩))⟩;cases e;exact Bo.br ⟨L,i,s,D,Fm.refl _⟩
 let o:cZ [aC,aO] t.name=I:=Qr (by decide+kernel) S
 let o:=mH.1 o
 simp only[nQ,nR,od,not_or]at o;show Ps (xY t) W _;rcases g with g|g;exact Bm.br (m:=xY t) (Bm.bind (ahn ⟨g,o.1,o.2⟩) λ_=>Bm.pure _) i s r;refine Ps.bind (Q:=λ_=>BR t h L W) (Ps.bind (Q:=λ_=>BR t h L W) (Ps.mono (ES i) λok U q=>?_) λ_ _ h=>Ps.pure h) λ_ _ h=>Ps.pure h;rcases q with⟨_,rfl⟩|⟨_,f,z,x,c,rfl,v,d,y⟩;exact Bo.br ⟨L,i,s,D,Fm.refl _⟩
 let v:=cC.1 (dV.1 v)
 let E:=Zi g x (by simp)
 let ⟨a,b'⟩:=s.cut ⟨E,by grind,by grind⟩ λj=>absurd (Zi g _ (List.mem_append_right _ (gS _ j))) (by decide+kernel)
 exact Bo.br ⟨z,y,a,b',f⟩
theorem Jg(o:Nb 6 h L W)(s:Sk L)(r:sR L≠10)(g:TO t)(j:∀x,t.k=.stop x->de x=6\/sR L=6):∀n,Ps (dx lk n 6 t) W λ_=>BR t h L W
 |0=>Ps.stuck D
 |n+1=>by
  rw[jx D D g.A];unfold eI;cases hk:t.k with
  |start x=>
   have e:t.name=x:=by unfold dj.name;rw[hk]
   subst e;exact VQ o s r hk (g.ne _ (.inl hk))
  |stop x=>
   have e:t.name=x:=by unfold dj.name;rw[hk]
   subst e;exact aal o s r hk (j _ hk)
  |fI x=>
   have e:t.d=x:=by unfold dj.d;rw[hk]
   dsimp only;split<;>exact(Bm.br (Sr λq=>by grind[TO.B]) o s r)
  |dz x=>exact Bm.br (NQ t) o s r
  |eG x q=>exact Bm.br (Bm.pure _) o s r
  |ic=>grind[TO.A]
  |dZ=>exact Bm.br (Bm.pure _) o s r
end
def em(W:N):Nat:=if W.g=5\/W.g=8 then W.kept else W.g
def Lq(m:Nat):Nat:=if m<=1 then m else if m=2 then 2 else if m<=4 then 4 else 6
def EH(m:Nat)(L:List O):Prop:=m<=1/\L=[]\/(m=2\/m=4)/\L=[aC]\/m=3/\L=[aC,aZ]\/5<m/\Sk L/\((m=16\/m=17)/\sR L=6\/m=sR L)
class VT where
 A:O->O->Prop
 E:Prop
def NI[VT](W:N):Prop:=∃h L,Nb (Lq (em W)) h L W/\Ci W/\(W.g=5/\(∃c e,W.last=H c/\W.h c=H e/\(∀t s,Nd.tx t∈e.q->W.d[t]?=H (.tx s)->VT.A e.name s)/\(W.a=e.name/\(e.name=aN->W.S=C)\/VT.E))/\3<=W.kept/\W.kept≠5/\W.kept≠8/\(∃g x,L=g++[x]/\cZ [bO,aN] x=C/\EH W.kept g)\/W.g=8/\(W.kept=7\/W.kept=11\/W.kept=12)/\Sk L/\sR L=W.kept\/W.g≠5/\W.g≠8/\EH W.g L)
def NW[VT](W:N):Prop:=NI W\/Wd W
theorem akn(x:O):de x∈[6,7,9,10,11,12,13]:=by grind[de]
theorem Zj(L:List O):sR L∈[6,7,9,10,11,12,13]:=by
 let e:∀l,Zk l∈[6,7,9,10,11,12,13]:=by
  intro l
  induction l with
  |nil=>simp[Zk]
  |cons x l ih=>
   grind[akn,Zk]
 exact e _
theorem V3(L:List O):5<sR L/\sR L≠8/\sR L<14:=by have:=Zj L;grind
section
variable [VT]{h:Nat}{L:List O}{W U:N}{t:dj}
theorem nj(q:Nb 6 h L W)(j:Ci W)(s:Sk L)(o:W.g=sR L\/(W.g=16\/W.g=17)/\sR L=6):NI W:=by
 have:=V3 L
 let g:5<W.g/\W.g≠8:=by omega
 refine⟨h,L,?_,j,.inr (.inr ⟨by omega,g.2,.inr (.inr (.inr ⟨g.1,s,?_⟩))⟩)⟩
 let e:em W=W.g:=di (by omega)
 have:Lq (em W)=6:=by rw[e];unfold Lq;rw[di (by omega),di (by omega),di (by omega)]
 grind;grind
theorem Yi(b:BR t h L W U)(g:Ci W)(s:Sk L)(p:W.g=sR L\/(W.g=16\/W.g=17)/\sR L=6)(c:t.k=.stop aO\/t.k=.stop aC->sR L=6):NW U:=by
 let A:=V3 L
 rcases b with w|⟨n,m,k,⟨a1,o,f,a,x,y,rfl⟩,a0,q⟩;exact .inr w;refine .inl ?_;rcases q with⟨rfl,rfl,e,j⟩|⟨rfl,rfl,e,j,_⟩|⟨rfl,rfl,⟨P,S,i,n2,r,l⟩,v,z,rfl,aJ,e,j⟩|⟨u,rfl,e,j,d⟩;exact nj a0 g e (by grind);exact nj a0 g e (.inl j.symm);refine⟨h,v++[z],?_,g,.inl ⟨D,⟨P,S,i,n2,(λt s d=>by grind),.inl l⟩,?_⟩⟩;have:Lq (em {W with d:=a1,A:=o,E:=f,B:=a,a:=x,S:=y,g:=5,kept:=W.g})=6:=by show Lq (if (5:Nat)=5\/_ then W.g else _)=6;rw[dw (.inl D)];unfold Lq;rw[di (by omega),di (by omega),di (by omega)]
 grind
 let E:5<W.g/\W.g≠8:=by omega
 refine⟨by grind,by grind,E.2,v,z,D,aJ,.inr (.inr (.inr ⟨E.1,e,?_⟩))⟩;grind;exact nj a0 g e (.inr ⟨u,by grind⟩)
def aaP{T:Nat->dj->M Unit}(v:Nb 6 h L W)(u:∀{σ1},Nb 6 h L σ1->Ps (T 6 t) σ1 λ_=>BR t h L σ1):Ps (pQ T t) W λ_=>BR t h L {W with U:=I}:=by refine Ps.bind (Q:=λ_ σ1=>σ1={W with U:=C}) (Ps.oc D) λ_ σ1 e=>?_;subst e;refine Ps.bind (u (v.q D D v.B D v.E)) λ_ X b=>Ps.bind (Ps.oc ?_) λ_ _ h=>Ps.pure h;rcases b with⟨i,s,w⟩|⟨j,m,k,⟨z,o,f,a,x,y,rfl⟩,g,q⟩;exact .inl ⟨i,s,w⟩;exact .inr ⟨j,m,k,⟨z,o,f,a,x,y,D⟩,g.q D D g.B D g.E,q⟩
theorem Dg(k:Nb 6 h L W)(s:Sk L){i:List O}{m:Nat}(y:i.all (λx=>!fG x aC&&!fG x aO&&(match hold x with|some l=>l.all λz=>decide (de z=m)|none=>I))=C)(c:m≠6):Ps (mD i m) W λb U=>(b=I/\U=W)\/b=C/\∃j,Nb 6 h j U/\Sk j/\sR j=m/\xc W U m W.kept:=by
 refine Ps.bind (ES k) λb σ1 q=>?_;rcases q with⟨rfl,rfl⟩|⟨rfl,⟨a0,o,f,a,rfl⟩,u,x,S,rfl,P,_,g⟩;grind[Ps.pure]
 let v:=dm.1 y x (dV.1 P)
 rw[fq,fq]at v
 let ⟨⟨q1,q2⟩,q3⟩:=v
 let ⟨s1,_,ho⟩:=s.pre (λe=>by rw[e]at q1;exact absurd q1 (by decide+kernel)) (λe=>by rw[e]at q2;exact absurd q2 (by decide+kernel))
 let E:sR u=m:=by
  cases hl:hold x with
  |none=>grind
  |some l=>
   rw[hl]at q3;cases hg:u.getLast? with
   |none=>let ⟨r,e,_⟩:=s1;grind
   |some z=>
    let d:=of_decide_eq_true (dm.1 q3 z (dV.1 ((Gb (ho z hg)).2 l hl)))
    grind[eT,rl]
 exact Ps.ok (a:=C) D (.inr ⟨D,u,g.q D D g.B D g.E,s1,E,_,_,_,_,_,_,D⟩)
def abQ(j:Nb 6 h L W):Ps xJ W λ_ U=>Nb 6 h L U/\∃a,U={W with B:=a}:=
 Ps.bind (λ_ U e=>by unfold Ck at e;split at e;cases e;exact⟨j.q D D (λx g=>j.B x (dU.1 ((aji _).mem (rb (dU.1 g))))) D j.E,_,D⟩;cases e) λ_ _ h=>Ps.pure h
theorem EU(d:Nb 6 h L W)(s:Sk L){i:List O}{m:Nat}(v:i.all (λx=>!fG x aC&&!fG x aO&&(match hold x with|some l=>l.all λz=>decide (de z=m)|none=>I))=C)(E:m≠6):Ps (jn i m) W λb U=>(b=I/\U=W)\/b=C/\∃g,Nb 6 h g U/\Sk g/\sR g=m/\xc W U m W.kept:=by
 refine Ps.bind (Dg d s v E) λb σ1 q=>?_;rcases q with⟨rfl,rfl⟩|⟨rfl,g,j,S,P,aJ,o,f,a,x,y,rfl⟩;grind[Ps.pure];exact Ps.bind (abQ j) λ_ X ⟨u,c,e⟩=>by subst e;exact Ps.pure (.inr ⟨D,g,u,S,P,_,_,_,_,_,_,D⟩)
theorem Ud(y:Nb 6 h L W)(s:Sk L):Ps sI W λb U=>(b=I/\U=W)\/b=C/\∃g,Nb 6 h g U/\Sk g/\xc W U (sR g) W.kept:=by
 refine Ps.bind (ES y) λb σ1 q=>?_;rcases q with⟨rfl,rfl⟩|⟨rfl,⟨z,o,f,a,rfl⟩,u,x,v,rfl,j,_,e⟩;grind[Ps.pure]
 let j:=cC.1 (dV.1 j)
 let ⟨s1,_,ho⟩:=s.pre (by grind) (by grind)
 refine Ps.ok D (.inr ⟨D,u,e.q D D e.B D e.E,s1,z,o,f,a,W.a,W.S,?_⟩);have:=e.v;grind
theorem Xm(v:Nb 6 h L W)(s:Sk L):Ps ir W λb U=>(b=I/\U=W)\/b=C/\∃j,Nb 6 h j U/\Sk j/\sR j=7/\xc W U 7 W.kept:=λb U e=>by
 unfold ir at e;split at e;rename_i g;cases e;unfold N.gV at g;split at g;cases g;rename_i i o
 let ⟨x,hx,hl⟩:=v.last o
 let q:W.nm i=x.name:=by unfold N.nm;rw[hx]
 rw[q]at g
 let g:=cC.1 (dV.1 g)
 obtain⟨j,rfl⟩:=eT.1 hl
 let ⟨s1,_,ho⟩:=s.pre (by grind) (by grind)
 refine .inr ⟨D,j,(v.drop).q D D v.B D v.E,s1,?_,_,_,_,_,_,_,D⟩;cases hg:j.getLast? with
 |none=>let ⟨r,e,_⟩:=s1;grind
 |some z=>
  obtain⟨u,rfl⟩:=eT.1 hg;rw[rl,(cC.1 (dV.1 ((Gb (ho z hg)).2 [aH] (by rw[g];decide+kernel)))),di (by decide+kernel)];decide+kernel
 grind
theorem xc.off{m k:Nat}(h:xc W U m k)(q:Ci W):Ci U:=by obtain⟨_,_,_,_,_,_,rfl⟩:=h;exact q
theorem xc.q{m k:Nat}(h:xc W U m k):U.U=W.U/\U.g=m/\U.kept=k:=by obtain⟨_,_,_,_,_,_,rfl⟩:=h;grind
end
section
variable [VT]{φ h n:Nat}{L:List O}{W U:N}{t:dj}
theorem SG{q:O->Bool}:∀R:List Nat,∃A B,R=A++B/\W.mW q (R.map H)=B.map H/\(∀y∈A,q (W.nm y)=C)/\(B=[]\/∃i e,B=i::e/\q (W.nm i)=I)
 |[]=>⟨[],[],D,D,nofun,.inl D⟩
 |i::R=>by
  cases hq:q (W.nm i)with
  |true=>
   obtain⟨A,B,rfl,j,o,g⟩:=SG R;refine⟨i::A,B,D,?_,λy u=>?_,g⟩;show(if q (W.nm i)then W.mW q _ else _)=_;grind;grind
  |false=>
   refine⟨[],i::R,D,?_,nofun,by grind⟩;show(if q (W.nm i)then _ else H i::R.map H)=_;grind
theorem DW(a1:Nb 6 h L W)(s:Sk L){d:List O}(hw:∃w∈L.tail,cZ d w=C):Ps (sH (cZ d)) W λ_ σ1=>∃q z,Nb 6 h q σ1/\Sk q/\q.getLast?=H z/\cZ d z=C/\Fm W σ1:=by
 refine Ps.oc ?_
 let ⟨OF,o1,o2,o3⟩:=a1.op
 obtain⟨A,B,c,f,h3,k⟩:=SG (W:=W) OF.reverse
 let l:OF=B.reverse++A.reverse:=by
  have:=mf wb c
  simpa using this
 have e:W.qv (cZ d)={W with A:=B.reverse.map H}:=by unfold N.qv;rw[o1,<-Cf,f,<-Cf]
 have U:Nb 6 h (B.reverse.map W.nm) (W.qv (cZ d)):=by rw[e];exact a1.stack λj t=>o3 j (by grind)
 have u:L=B.reverse.map W.nm++A.reverse.map W.nm:=by rw[<-o2,l];simp
 have p:∀y∈A.reverse.map W.nm,cZ d y=I/\y≠aC:=λy x=>by grind[mH]
 obtain⟨w,v,a0⟩:=hw;obtain⟨r,n,m⟩:=s;rcases k with rfl|⟨i,S,rfl,o⟩;grind;have E:((i::S).reverse.map W.nm).getLast?=H (W.nm i):=by simp
 have o:=by simp only[Bool.not_eq_false',Bool.or_eq_true]at o;exact o.imp id λh=>cC.1 (dV.1 h)
 generalize hX:(i::S).reverse.map W.nm=aJ at *;generalize A.reverse.map W.nm=a2 at *;rw[n]at u v;cases aJ with
 |nil=>cases E
 |cons a aJ=>
  cases aJ with
  |nil=>
   grind
  |cons b aJ=>
   simp only[tf,RH]at u;obtain⟨rfl,rfl,rfl⟩:=u;have g:PQ ((aO::aJ)++a2)=C:=m;rw[DV]at g;have P:Sk (aC::aO::aJ):=⟨aJ,D,g.1⟩;refine⟨_,W.nm i,U,P,E,o.resolve_right λe=>?_,_,_,_,_,e⟩;have:=P.mem (P.last E);rw[e]at this;exact absurd this (by decide+kernel)
theorem Jy{m:Nat}(s:Sk L)(q:sR L=m)(o:m≠6):∃w∈L.tail,de w=m:=by
 let j:∀l,Zk l=m->∃w∈l,de w=m:=by
  intro l
  induction l with
  |nil=>intro e;exact absurd e.symm o
  |cons a l ih=>
   intro e
   let e:(if de a=6 then Zk l else de a)=m:=e
   grind
 let ⟨w,g,h2⟩:=j _ q
 obtain⟨r,rfl,_⟩:=s;rw[dU]at g;rcases bZ.1 g with rfl|g;exact absurd (h2.symm.trans (by decide+kernel)) o;grind
theorem YT{x:O}:(de x=7->cZ [aH] x=C)/\(de x=11->cZ [cO,cH,cX] x=C)/\(de x=12->cZ [dK] x=C)/\(de x=10->cZ [aV] x=C):=by
 let e:∀x∈QC,(de x=7->cZ [(aH)] x=C)/\(de x=11->cZ [(cO),(cH),(cX)] x=C)/\(de x=12->cZ [(dK)] x=C)/\(de x=10->cZ [(aV)] x=C):=by decide+kernel
 by_cases g:de x=6;grind;exact e x (Qx g)
theorem ahv{nm z:O}{l:List O}(s:Sk L)(j:hold nm=H l)(e:L.getLast?=H z)(g:cZ l z=C):Hu z nm=C/\z≠⟨#[]⟩/\z≠aC:=by have:=Rw (s.mem (s.last e));grind[Hu]
theorem Jm(P:Nb 6 h L W)(s:Sk L)(u:W.U=I){nm z:O}{l:List O}(v:hold nm=H l)(E:L.getLast?=H z)(j:cZ l z=C)(g:cZ (aO::lM) nm=I)(o:fG z aV=I){m:M Unit}(e:(∀p,(Sk L->cZ lM p=I)->(W.U=I->L.getLast?=H p)->Hu p nm=C/\p≠⟨#[]⟩/\p≠aC)->Ps m W λ_ U=>Nb 6 h (L++[nm]) U/\Fm W U):Ps m W λ_ U=>Nb 6 h (L++[nm]) U/\Sk (L++[nm])/\Fm W U:=
 Ps.mono (e λp _ q=>by
  grind[ahv]) λ_ U ⟨a,b⟩=>⟨a,s.snoc g λp y=>by grind,b⟩
theorem Fm.q(f:Fm W U):U.U=W.U/\U.g=W.g/\U.kept=W.kept/\U.R=W.R:=by obtain⟨_,_,_,_,rfl⟩:=f;grind
def QG(a:List O)(nm:O):Bool:=!cZ (aO::lM) nm&&(match hold nm with|some l=>a.all λz=>cZ l z&&!fG z aV|none=>I)
theorem GC(a0:Nb 6 h L W)(s:Sk L)(v:Ci W){b:List O}{m:Nat}(S:∃w∈L.tail,cZ b w=C)(e:QG b t.name=C)(f:de t.name=m)(d:m≠6):Ps (uw b m t) W λ_=>NW:=by
 unfold QG at e;rw[fq]at e;cases hl:hold t.name with
 |none=>grind
 |some l=>
  rw[hl]at e;refine Ps.bind (DW a0 s S) λ_ σ1 ⟨c,z,o,a,U,j,u⟩=>?_
  let y:=dm.1 e.2 z (dV.1 j)
  rw[fq]at y;refine Ps.bind (Jm o a (u.off v).1 hl U y.1 (by grind) (by grind) λP=>pa o (λq=>by grind) P) λ_ X ⟨g,aJ,E⟩=>(Ps.ok D (.inl (nj (g.q D D g.B D g.E) (E.off (u.off v)) aJ (.inl ?_))));grind[rl]
theorem CV{T:Nat->dj->M Unit}(a0:Nb 6 h L W)(s:Sk L)(y:Ci W){b:List O}{nm:O}{m:Nat}(a:∃w∈L.tail,cZ b w=C)(g:QG b nm=C)(k:de nm=m)(i:m≠6)(U:∀W,NI W->W.g=m->Ps (T m t) W λ_=>NW):Ps (pS T b nm m t) W λ_=>NW:=by
 unfold QG at g;rw[fq]at g;cases hl:hold nm with
 |none=>grind
 |some l=>
  rw[hl]at g;refine Ps.bind (DW a0 s a) λ_ σ1 ⟨f,z,u,c,aJ,o,v⟩=>?_
  let E:=dm.1 g.2 z (dV.1 o)
  rw[fq]at E;refine Ps.bind (Jm u c (v.off y).1 hl aJ E.1 (by grind) (by grind) λS=>Az u (λq=>by grind) S) λ_ X ⟨j,d,P⟩=>(Ps.bind (Q:=λ_ σ3=>σ3={X with g:=m}) (Ps.oc D) λ_ σ3 e=>?_);subst e;refine Ps.bind (U _ (nj (j.q D D j.B D j.E) (P.off (v.off y)) d (.inl ?_)) D) λ_ _ h=>Ps.pure h;grind[rl]
def YS(g:Nb 6 h L W):Ps (gN F) W λ_ U=>Nb 6 h L U/\U={W with B:=W.B++[F]}:=λ_ U e=>by unfold gN at e;split at e;cases e;split at e;cases e;exact⟨g.q D D (Av g.B) D g.E,D⟩;cases e
theorem VW(a0:Nb 6 h L W)(s:Sk L)(S:Ci W)(U:∃w∈L.tail,cZ [aH] w=C)(j:t.name=cI):Ps (oF t) W λ_=>NW:=by
 refine Ps.bind (DW a0 s U) λ_ σ1 ⟨c,z,v,aJ,a,o,y⟩=>(Ps.bind (YS v) λ_ X ⟨u,e2⟩=>?_)
 let e:Ci X:=e2▸y.off S
 refine Ps.bind (Jm (l:=[aH]) u aJ e.1 (by rw[j];decide+kernel) a (by grind) (by rw[j];decide+kernel) (by rw[(cC.1 (dV.1 o))];decide+kernel) λP=>pa u (λq=>by grind) P) λ_ σ3 ⟨g,b,E⟩=>?_;refine Ps.ok D (.inl (nj (g.q D D g.B D g.E) (E.off e) b (.inl ?_)));show 9=_;rw[rl,j,di (by decide+kernel)];decide+kernel
theorem agw(a1:Nb 6 h L W)(s:Sk L)(E:Ci W)(hw:∃w∈L.tail,cZ [dK] w=C)(o:t.name=eQ\/t.name=eS):Ps (qF t) W λ_=>NW:=by refine Ps.bind (DW a1 s hw) λ_ σ1 ⟨f,z,v,c,b,u,y⟩=>?_;refine Ps.bind (Jm (l:=[dK]) v c (y.off E).1 (by rcases o with e|e<;>rw[e]<;>decide+kernel) b (by grind) (by rcases o with e|e<;>rw[e]<;>decide+kernel) (by rw[(cC.1 (dV.1 u))];decide+kernel) λaJ=>pa (t:=t) v (λq=>by grind) aJ) λ_ σ3 ⟨j,d,a⟩=>(Ps.bind (Q:=λ_ g=>g={σ3 with g:=13}) (Ps.oc D) λ_ g S=>?_);subst S;refine Ps.bind (YS (j.q D D j.B D j.E)) λ_ a0 ⟨P,U⟩=>Ps.pure (.inl ?_);subst U;refine nj P (a.off (y.off E)) d (.inl ?_);show 13=_;rw[rl];rcases o with e|e<;>rw[e,di (by decide+kernel)]<;>decide+kernel
end
structure Tm(h:Nat)(L:List O)(σ:N):Prop where
 A:Nb 6 h L σ
 j:Sk L
 B:Ci σ
 md:σ.g=sR L
def Cn(W:N)(t:dj):Prop:=W.g≠5/\(W.g=4->∀x,t.k=.start x->cZ [dy,bO,aN] x=I)
theorem Cn.of(h:5<W.g):Cn W t:=⟨by omega,by grind⟩
abbrev Hr[VT](n:Nat)(t:dj):Prop:=∀k,k<=n->∀W,NI W->Cn W t->Ps (dx I k W.g t) W λ_=>NW
abbrev PR[VT](n:Nat)(t:dj)(W:N)(r:Ru):Prop:=Ps (jp I (dx C n) (dx I n) r t) W λ_=>NW
section
variable [VT]{h n m:Nat}{L:List O}{W U:N}{t:dj}
def Tm.e(T:Tm h L W):NI W:=nj T.A T.B T.j (.inl T.md)
theorem Tm.nil(T:Tm h L W):PR n t W .eW:=Ps.pure (.inl T.e)
theorem FP(g:Ci W){k:Nat}(q:∃e,Nb 6 h e U/\Sk e/\sR e=m/\xc W U m k):NI U/\5<U.g:=by obtain⟨e,j,s,r,f⟩:=q;have:=V3 e;obtain⟨a,b,c⟩:=f.q;grind[nj,xc.off]
def pN(e:Hr n t)(g:NI W){b:M Bool}(u:Ps b W λx U=>(x=I/\U=W)\/x=C/\NI U/\5<U.g):Ps (vV (dx I n) b t) W λ_=>NW:=
 Ps.bind u λx σ1 q=>by rcases q with⟨rfl,rfl⟩|⟨rfl,j,o⟩;exact Ps.pure (.inl g);exact Ps.bind (e n (dF _) σ1 j (Cn.of o)) λ_ _ h=>Ps.pure h
theorem A8(g:NI W){b:M Bool}(e:Ps b W λx U=>(x=I/\U=W)\/x=C/\NI U/\5<U.g):Ps (zY b) W λ_=>NW:=
 Ps.bind e λx σ1 q=>Ps.pure (.inl (by grind))
def Qo(g:NI W){m:M Unit}(j:Ps m W λ_=>NW):Ps (Em m t) W λ_=>NW:=λa U e=>by unfold Em at e;split at e;exact j a U e;cases e;exact .inl g
section
variable (T:Tm h L W)
include T
def Tm.cap:Ps tJ W λx U=>(x=I/\U=W)\/x=C/\NI U/\5<U.g:=Ps.mono (EU T.A T.j (by decide+kernel) (by decide)) λ_ _ q=>q.imp id λq=>⟨q.1,FP T.B q.2⟩
theorem Tm.u:Ps endCell W λx U=>(x=I/\U=W)\/x=C/\NI U/\5<U.g:=Ps.mono (EU T.A T.j (by decide+kernel) (by decide)) λ_ _ q=>q.imp id λq=>⟨q.1,FP T.B q.2⟩
theorem Tm.row:Ps Km W λx U=>(x=I/\U=W)\/x=C/\NI U/\5<U.g:=Ps.mono (Dg T.A T.j (by decide+kernel) (by decide)) λ_ _ q=>q.imp id λq=>⟨q.1,FP T.B q.2⟩
def Tm.sec:Ps sJ W λx U=>(x=I/\U=W)\/x=C/\NI U/\5<U.g:=Ps.mono (Dg T.A T.j (by decide+kernel) (by decide)) λ_ _ q=>q.imp id λq=>⟨q.1,FP T.B q.2⟩
def Tm.v:Ps ir W λx U=>(x=I/\U=W)\/x=C/\NI U/\5<U.g:=Ps.mono (Xm T.A T.j) λ_ _ q=>q.imp id λq=>⟨q.1,FP T.B q.2⟩
def Tm.g:Ps sI W λx U=>(x=I/\U=W)\/x=C/\NI U/\5<U.g:=Ps.mono (Ud T.A T.j) λ_ _ q=>q.imp id λq=>⟨q.1,by
 obtain⟨e,g,s,f⟩:=q.2;exact FP T.B ⟨e,g,s,D,f⟩⟩
def Tm.br(b:BR t h L W U)(e:t.k≠ .stop aO/\t.k≠ .stop aC):NW U:=Yi b T.B T.j (.inl T.md) λq=>(q.elim e.1 e.2).elim
theorem Tm.body(j:TO t)(g:sR L≠10)(e:∀x,t.k=.stop x->de x=6/\x≠aO/\x≠aC):PR n t W (.qX 6):=
 Ps.mono (Jg T.A T.j g j (λx o=> .inl (e x o).1) n) λ_ _ b=>T.br b ⟨by grind,by grind⟩
theorem Tm.q(o:TO t)(j:sR L≠10)(g:∀x,t.k=.stop x->de x=6/\x≠aO/\x≠aC):Ps (pQ (dx I n) t) W λ_=>NW:=
 Ps.mono (aaP T.A λe=>Jg e T.j j o (λx u=> .inl (g x u).1) n) λ_ _ b=>Yi b ⟨D,T.B.2⟩ T.j (.inl T.md) λq=>by grind
theorem Tm.y(g:W.g=7\/W.g=11\/W.g=12):∃w∈L.tail,cZ [aH] w=C:=by
 rw[T.md]at g;obtain⟨w,e,q⟩:=Jy T.j D (by omega);refine⟨(aH),T.j.g e ?_,by decide+kernel⟩;have a:=YT (x:=w);have o:∀x,cZ [(aH)] x=C\/cZ [(cO),(cH),(cX)] x=C\/cZ [(dK)] x=C->qS x=C:=λx j=>dV.2 (by simp[dV,od]at j|-;grind)
 grind
end
def aep:Nn wU:=λ_ _ _ e=>by cases e;rfl
def rC(g:∀x,t.k≠ .stop x):∀x,t.k=.stop x->de x=6/\x≠aO/\x≠aC:=λx e=>absurd e (g x)
theorem oh{P:Ru->Prop}(y:TO t)(g:t.k=.start t.name->P (gE [uC sp.start t.name,sp.B,sp.l]))(j:t.k=.stop t.name->P (gE [uC sp.stop t.name,sp.A,sp.l]))(o:(∀x,t.k≠ .stop x)->(∀x,t.k≠ .start x)->∀s,t.k=.fI s->(fP s=C->P (gE [sp.blank,sp.fI,sp.l]))/\P (gE [sp.fI,sp.l]))(q:(∀x,t.k≠ .stop x)->∀s,t.k=.dz s->P (gE [sp.dz,sp.l]))(u:(∀x,t.k≠ .stop x)->P (gE [sp.eG,sp.l]))(v:(∀x,t.k≠ .stop x)->t.k=.dZ->P (gE [sp.dZ,sp.l])):P (eI sp t):=by
 unfold eI;cases hk:t.k with
 |start x=>
  have e:t.name=x:=by unfold dj.name;rw[hk]
  grind
 |stop x=>
  have e:t.name=x:=by unfold dj.name;rw[hk]
  grind
 |fI s=>
  grind
 |dz s=>grind
 |eG a b=>grind
 |ic=>grind[TO.A]
 |dZ=>grind
theorem EP(g:t.k=.start t.name):∀x,t.k=.stop x->de x=6/\x≠aO/\x≠aC:=λx e=>by grind
theorem QM(g:t.k=.stop t.name){R:List (List O×Ru)}(j:((QC++[aO,aC]).all λs=>R.any λp=>cZ p.1 s)=C)(o:∀p∈R,cZ p.1 t.name=I):∀x,t.k=.stop x->de x=6/\x≠aO/\x≠aC:=λx e=>by grind[V4,mH]
def oz(q:cZ [x] t.name=C):t.name=x:=cC.1 (dV.1 q)
theorem VX(T:Tm h L W)(j:TO t)(g:Hr n t)(o:W.g=9):PR n t W (eI oE t):=by have B:=T.body (n:=n) j (by rw[<-T.md,o];decide);refine oh j (λe=>(jv (eU (λq=>pN g T.e T.cap) oO) λ_=>B (EP e))) (λe=>(jv (eU (λq=>T.nil) <|eU (λq=>pN g T.e T.cap) <|eU (λq=>A8 T.e T.cap) oO) λu=>B (QM e (by decide+kernel) u))) (λe _ s _=>⟨λ_=>B (rC e),B (rC e)⟩) (λe _ _=>B (rC e)) (λe=>B (rC e)) (λe _=>B (rC e))
theorem agx(T:Tm h L W)(j:TO t)(g:Hr n t)(o:W.g=13):PR n t W (eI tX t):=by have B:=T.body (n:=n) j (by rw[<-T.md,o];decide);refine oh j (λe=>(jv (eU (λq=>pN g T.e T.u) oO) λ_=>B (EP e))) (λe=>(jv (eU (λq=>T.nil) <|eU (λq=>Qo T.e (pN g T.e T.u)) <|eU (λq=>Qo T.e (A8 T.e T.u)) oO) λu=>B (QM e (by decide+kernel) u))) (λe _ s _=>⟨λ_=>B (rC e),B (rC e)⟩) (λe _ _=>B (rC e)) (λe=>B (rC e)) (λe _=>B (rC e))
theorem UT(T:Tm h L W)(z:TO t)(j:Hr n t)(y:W.g=7\/W.g=11\/W.g=12):PR n t W (eI rV t):=by
 have v:sR L≠10:=by rw[<-T.md];omega
 have aJ:=T.q (n:=n) z v;have d:=T.y y;refine oh z (λg=>?_) (λg=>?_) (λg _ s S=>?_) (λg s S=>?_) (λg=>T.nil) (λg _=>aJ (rC g))
 .refine jv (P:=PR n t W) ?_ λ_=>aJ (EP g);refine eU (λq a U e=>?_) ?_
  .have e:(if yn t then iL (dx I n) t else stuck) W=.ok a U:=e;split at e
   case isFalse=>cases e
   unfold iL at e;split at e;obtain⟨i,u⟩:=Mk.left (Mk.left (Mk.ins t) λ_=>Nn.bind aep λ_=>Nn.pure _) (λ_=>Nn.pure _) W a U e;exact .inr ⟨i,_,u,by rw[oz q];decide+kernel⟩;exact(Ps.bind (d:=λ_=>NW) (aJ (EP g)) λ_ _ h=>Ps.pure h) a U e
  refine eU (λq=>Ps.eq (a:=do eE t;let x <-wU;oc λW=>{W with j:=x};return ()) (by show jD t W=_;unfold jD;rw[T.A.R]) λa U e=>?_) ?_;have k:Mk t.name (do eE t;let x <-wU;oc λW=>{W with j:=x};return ():M Unit):=Mk.left (Mk.ins t) λ_=>Nn.bind aep λ_=>Nn.bind (Nn.oc λ_=>D) λ_=>Nn.pure _;obtain⟨i,u⟩:=k W a U e;exact .inr ⟨i,_,u,by rw[oz q];decide+kernel⟩;refine eU (λq=>Ps.mono (Yx (lk:=I) T.A T.j v g (by rw[oz q];decide+kernel) n) λ_ _ b=>T.br b ⟨by rw[g];simp,by rw[g];simp⟩) ?_;refine eU (λq=>pN j T.e T.g) ?_;refine eU (λq=>CV T.A T.j T.B d (by decide+kernel) (by decide+kernel) (by decide) λσ1 o e1=>by have:=j n (dF _) σ1 o (Cn.of (by omega));rw[e1]at this;exact this) ?_;refine eU (λq=>GC T.A T.j T.B d (PC (by decide+kernel) q) (of_decide_eq_true (PC (P:=λx=>decide (de x=11)) (by decide+kernel) q)) (by decide)) ?_;refine eU (λq=>CV T.A T.j T.B d (by decide+kernel) (by decide+kernel) (by decide) λσ1 o e1=>by have:=j n (dF _) σ1 o (Cn.of (by omega));rw[e1]at this;exact this) ?_;refine eU (λq=>GC T.A T.j T.B d (by rw[oz q];decide+kernel) (by rw[oz q];decide+kernel) (by decide)) ?_;exact eU (λq=>VW T.A T.j T.B d (oz q)) oO
 exact jv (P:=PR n t W) (eU (λq=>T.nil) <|eU (λq=>A8 T.e T.g) oO) λE=>aJ (QM g (by decide+kernel) E);have c:Ps (lL (dx I n) t) W λ_=>NW:=λa U e=>by
  unfold lL at e;split at e;refine(Ps.bind (d:=λ_=>NW) (Q:=λ_ σ1=>σ1={W with kept:=W.g}) (Ps.oc D) λ_ σ1 e1=>Ps.bind (Q:=λ_ X=>X={W with kept:=W.g,g:=8}) (by subst e1;exact Ps.oc D) λ_ X e2=>Ps.bind (Q:=λ_=>NW) ?_ λ_ _ h=>Ps.pure h) a U e;subst e2;refine j n (dF _) {W with kept:=W.g,g:=8} ⟨h,L,?_,T.B,.inr (.inl ⟨D,y,T.j,T.md.symm⟩)⟩ (Cn.of (by simp));have:Lq (em {W with kept:=W.g,g:=8})=6:=by show Lq (if (8:Nat)=5\/(8:Nat)=8 then W.g else 8)=6;rw[dw (.inr D)];unfold Lq;rw[di (by omega),di (by omega),di (by omega)]
  rw[this];exact T.A.q D D T.A.B D T.A.E;exact(Ps.bind (d:=λ_=>NW) (aJ (rC g)) λ_ _ h=>Ps.pure h) a U e
 exact⟨λ_=>c,c⟩;exact Ps.mono (NQ t T.A T.j v) λ_ _ b=>T.br (t:=t) b.br ⟨g _,g _⟩
theorem O2(T:Tm h L W)(e:TO t)(g:Hr n t)(j:W.g=7\/W.g=11\/W.g=12):PR n t W (.qX 7):=by
 cases n with
 |zero=>exact Ps.stuck D
 |succ n=>
  show Ps (dx _ _ 7 t) _ _;rw[jx D D e.A];grind[UT]
theorem akL(T:Tm h L W)(u:TO t)(g:Hr n t)(o:W.g=11):PR n t W (eI sS t):=by
 have B:=O2 T u g (.inr (.inl o));have a:∃w∈L.tail,cZ [(cO),(cH),(cX)] w=C:=by obtain⟨w,j,v⟩:=Jy T.j (T.md.symm.trans o) (by decide);exact⟨w,j,YT.2.1 v⟩
 refine oh u (λe=>?_) (λe=>(jv (eU (λq=>T.nil) <|eU (λq=>pN g T.e T.sec) <|eU (λq=>Qo T.e (A8 T.e T.sec)) oO) λ_=>B)) (λe _ s _=>⟨λ_=>B,B⟩) (λe _ _=>B) (λe=>B) (λe _=>B);refine jv (eU (λq=>pN g T.e T.sec) <|eU (λq=>CV T.A T.j T.B a (by decide+kernel) (by decide+kernel) (by decide) λσ1 j e1=>by grind[Cn.of]) <|eU (λq=>GC T.A T.j T.B a (by rw[oz q];decide+kernel) (by rw[oz q];decide+kernel) (by decide)) oO) λ_=>B
theorem akI(T:Tm h L W)(o:TO t)(g:Hr n t)(j:W.g=12):PR n t W (eI Fb t):=by
 have B:=O2 T o g (.inr (.inr j));have a:∃w∈L.tail,cZ [(dK)] w=C:=by obtain⟨w,u,v⟩:=Jy T.j (T.md.symm.trans j) (by decide);exact⟨w,u,YT.2.2.1 v⟩
 refine oh o (λe=>(jv (eU (λq=>pN g T.e T.row) <|eU (λq=>agw T.A T.j T.B a (by grind[dV])) oO) λ_=>B)) (λe=>(jv (eU (λq=>T.nil) <|eU (λq=>Qo T.e (pN g T.e T.row)) <|eU (λq=>pN g T.e T.row) <|eU (λq=>A8 T.e T.row) oO) λ_=>B)) (λe _ s _=>⟨λ_=>B,B⟩) (λe _ _=>B) (λe=>B) (λe _=>B)
end
section
variable [VT]{φ h n:Nat}{L:List O}{W U:N}{t:dj}
theorem Sj{s:O}(g:fP s=C):kN s=I/\Na s/\dP s:=by
 have:=dV.1 g;simp at this;rcases this with rfl|rfl|rfl|rfl
 all_goals refine⟨by decide+kernel,⟨λe=>?_,by grind⟩,λx j=>?_⟩
 all_goals first
  |(simp)
  |(grind[Aj])
theorem vD(j:Nb φ h L W)(e:t.k=.start t.name)(g:t.name=aC){lk:Bool}:∀n,Ps (dx lk n 6 t) W λ_ U=>Nb φ h L U/\Fm W U
 |0=>Ps.stuck D
 |n+1=>by rw[jx (r:=.dX 185) D (by unfold eI;rw[e];rw[g];kernel_rfl) (by grind)];exact Ip j t
theorem afp(e:t.k=.dZ){lk:Bool}:∀n,Ps (dx lk n 6 t) W λ_ U=>U=W
 |0=>Ps.stuck D
 |n+1=>by rw[jx (r:=.eW) D (by unfold eI;rw[e];rfl) (by grind)];exact Ps.pure D
theorem acU(s:Sk L)(q:sR L=10):L.getLast?=H aV:=by
 obtain⟨w,g,o⟩:=Jy s q (by decide);have u:=cC.1 (dV.1 (YT.2.2.2 o));subst u;obtain⟨r,rfl,j⟩:=s;have g:(aV)∈(aO)::r:=g;obtain⟨A,B,e⟩:=List.append_of_mem g;cases B with
 |nil=>
  grind
 |cons b B=>
  rw[e,DV]at j;have:(Y1 _ b&&PQ _)=C:=j.2.1;grind[Y1,fG]
def Tm.fm(T:Tm h L W){a:List O}(e:Nb 6 h a U)(s:Sk a)(r:sR a=sR L)(f:Fm W U):NW U:=.inl (nj e (f.off T.B) s (.inl (f.q.2.1.trans (T.md.trans r.symm))))
theorem agE(T:Tm h L W)(P:TO t)(o:Hr n t)(z:W.g=10):PR n t W (eI nL t):=by
 have B:=pN o T.e T.v;refine oh P (λg=>?_) (λg=>(jv (eU (λq=>A8 T.e T.v) <|eU (λq=>T.nil) oO) λ_=>B)) (λg _ s E=>⟨λy=>?_,B⟩) (λg s _=>(Ps.mono (NR t T.A T.j) λ_ _ ⟨u,a,b,c,d⟩=>T.fm a b c d)) (λg=>T.nil) (λ_ g=>(Ps.mono (afp g n) λ_ _ e=>by rw[e];exact .inl T.e));refine jv (eU (λq=>?_) <|eU (λq=>(Ps.mono (vD T.A g (oz q) n) λ_ _ ⟨a,b⟩=>T.fm a T.j D b)) oO) λ_=>B;refine Ps.bind (pa T.A (λq=>by rw[T.B.1]at q;cases q) λp _ U=>?_) λ_ σ1 ⟨j,v⟩=>Ps.bind (Ps.ok D (T.fm j.drop T.j D (v.trans ⟨_,_,_,_,D⟩))) λ_ _ h=>Ps.pure h;have:=U T.B.1;rw[(acU T.j (T.md.symm.trans z))]at this;cases this;rw[oz q];decide+kernel;have S:t.d=s:=by unfold dj.d;rw[E]
 exact Ps.mono (acP (by rw[S];exact(Sj y).2.1) T.A T.j) λ_ _ ⟨u,a,b,c,d⟩=>T.fm a b c d
def Tw:∀(l:List (Nat×Nat×O)),(∀x∈l,Na x.2.2)->Bm (qA l)
 |[],_=>Bm.pure _
 |x::l,h=>Bm.bind (acN (t:=nX x) (h x (js ..))) λ_=>Tw l λy e=>h y (gS _ e)
def ady{x:Nat×Nat×O}(v:Na x.2.2)(E:Nb 6 h L W)(s:Sk L)(r:sR L≠10)(u:W.U=I):Ps (pQ (dx C n) (nX x)) W λ_=>Bo h L W:=by
 refine Ps.bind (Q:=λ_ σ1=>σ1={W with U:=C}) (Ps.oc D) λ_ σ1 e=>?_;subst e;refine Ps.bind (Q:=λ_=>Bo h L {W with U:=C}) ?_ λ_ X ⟨j,g,z,y,P,o,f,a,e2⟩=>Ps.bind (Ps.oc ?_) λ_ _ h=>Ps.pure h;cases n with
 |zero=>exact Ps.stuck D
 |succ n=>
  have q:Ps _ {W with U:=C} _:=Sr (t:=nX x) (λ_=>v) (E.q D D E.B D E.E) s r;rw[(jx (t:=nX x) D (Ss _) (by simp[nX]))];exact q
 subst e2;refine⟨j,g.q D D g.B D g.E,z,y,P,o,f,a,?_⟩;rw[<-u]
theorem Th:∀(l:List (Nat×Nat×O)){L:List O} {W:N},(∀x∈l,Na x.2.2)->Nb 6 h L W->Sk L->sR L≠10->W.U=I->Ps (tL (dx C n) l) W λ_=>Bo h L W
 |[],L,W,_,He,s,_,_=>Ps.pure ⟨L,He,s,D,Fm.refl _⟩
 |x::l,L,W,hl,He,s,r,hf=>Ps.bind (ady (hl x (js ..)) He s r hf) λ_ σ1 ⟨S,g,P,E,e⟩=>Ps.mono (Th l (λy z=>hl y (gS _ z)) g P (by grind) (e.q.1.trans hf)) λ_ _ ⟨j,o,q,u,v⟩=>⟨j,o,q,u.trans E,e.trans v⟩
theorem aim(a0:Nb 6 h L W)(s:Sk L)(o:Ci W)(v:W.g=8)(g:W.kept=7\/W.kept=11\/W.kept=12)(b:sR L=W.kept)(i:TO t)(P:Hr n t):PR n t W (eI iy t):=by
 have sk:=s;have E:PR n t W (.dX 131):=by
  refine Ps.bind (Q:=λ_=>Bo h L W) (λa U e=>?_) λ_ σ1 ⟨f,q,d,r1,u⟩=>?_;unfold og at e;split at e;exact Th _ a0.E a0 s (by omega) o.1 a U e;exact Tw _ a0.E a0 s (by omega) a U e
  .refine Ps.bind (Q:=λ_ X=>X={σ1 with L:=[],g:=σ1.kept}) (Ps.oc D) λ_ X e2=>?_;subst e2;have e1:=u.q;refine Ps.bind (P n (dF _) {σ1 with L:=[],g:=σ1.kept} (nj (q.q D D q.B D λx y=>(nomatch y)) (u.off o) d (.inl ?_)) (Cn.of ?_)) λ_ _ h=>Ps.pure h
   all_goals grind
 refine oh i (λg=>E) (λg=>E) (λ_ _ s c=>?_) (λg _ _=>E) (λg=>E) (λg _=>E);have aI:Ps (j8 t) W λ_=>NW:=λa U e=>by
  have S:j8 t W=if kN s=C then .ok () W else if ln W.L<4096 then .ok () {W with L:=W.L++[(t.a,t.b,s)]} else .stuck:=by unfold j8;rw[c];dsimp only;cases kN s<;>rfl
  rw[S]at e;have j:∀w,(∀x∈w,Na x.2.2)->NW {W with L:=w}:=λw hw=> .inl ⟨h,L,by
   have:Lq (em {W with L:=w})=6:=by show Lq (if W.g=5\/W.g=8 then W.kept else W.g)=6;rw[dw (.inr v)];unfold Lq;rw[di (by omega),di (by omega),di (by omega)]
   grind[Nb.q,Nb.B],o,.inr (.inl ⟨v,g,sk,b⟩)⟩
  by_cases z:kN s=C;rw[dw z]at e;cases e;exact j W.L a0.E;rw[di z]at e;split at e;cases e;refine j _ λx y=>?_;grind[Nb.E,TO.B];cases e
 exact⟨λ_=>aI,aI⟩
theorem Lt{c k:Nat}{σ1:N}(g:W.U=I)(e:ja W=.ok (c,k) σ1):W.last=H c:=by unfold ja at e;split at e;grind[A7,iS];cases e
theorem ZB{m:List O}{x:O}(l:Nb (Lq W.kept) h (m++[x]) W)(P:Ci W)(F:W.g=5)(a1:3<=W.kept)(u:W.kept≠5)(d:W.kept≠8)(G:cZ [bO,aN] x=C)(B:EH W.kept m)(Y:TO t)(R:∀s,t.k=.fI s->Na s/\VT.A x s/\Y2 x s/\∀c e aJ g,W.last=H c->W.h c=H e->Nd.tx aJ∈e.q->W.d[aJ]?=H (.tx g)->VT.A e.name (g++s)/\Y2 e.name (g++s))(T:∀s,t.k=.fI s->∃c e,W.last=H c/\W.h c=H e/\(W.a=e.name/\(e.name=aN->W.S=C)\/VT.E))(J:Hr n t):PR n t W (eI yp t):=by
 have r:Ps xh W λ_ U=>NI U/\U.g≠5:=by refine Ps.ok (a:=()) (σ1:={W.pop with g:=W.kept}) D ⟨⟨h,m,?_,P,.inr (.inr ⟨u,d,B⟩)⟩,u⟩;have:em {W.pop with g:=W.kept}=W.kept:=di (by grind);rw[this];exact l.drop.q D D l.B D l.E
 have E:PR n t W (.dX 113):=Ps.mono r λ_ _ h=> .inl h.1;refine oh Y (λS=>E) (λS=>E) (λ_ _ s z=>?_) (λS _ _=>E) (λS=>E) (λ_ a2=>?_)
 .have a3:Ps (gh t) W λ_=>NW:=by
   refine Ps.bind (Q:=λj U=>U=W/\∃K,W.h j.1=H K/\rZ (K.q.drop j.2)=I/\j.2=ln K.q/\K.name=x/\W.last=H j.1) (λj U e=>?_) λj U ⟨e,K,i,hd,S,V,v⟩=>?_;obtain⟨c,k⟩:=j;obtain⟨a,K,b1,_,b3,b4,_⟩:=wA l e λq=>by rw[P.1]at q;cases q
   refine⟨a,K,b1,b3,(b4 P.1).1,?_,Lt P.1 e⟩;have:=(b4 P.1).2;grind
   .subst e;obtain⟨c,k⟩:=j;have a0:t.d=s:=by unfold dj.d;rw[z]
    have aI:=dV.1 G;simp only[nQ,nR,od]at aI;have ne:=l.ne i (by grind) (by grind);obtain⟨c1,c2,c3,c4⟩:=R s z;rw[<-a0]at c1 c2 c3 c4;refine Ps.bind (Lv l i hd c1 (by rw[V];rcases aI with e|e<;>rw[e]<;>decide+kernel) (by grind) (λaJ g w A=>(c4 c K aJ g v i w A).2) (λZ q2=>absurd Z (ne.2 q2)) λ_=>S) λ_ X ⟨⟨a,L,o,f,M,e2⟩,v5⟩=>Ps.pure (.inl ⟨h,m++[x],?_,?_⟩);subst e2;have:em {U with d:=L,A:=o,E:=f,B:=M}=U.kept:=dw (.inl F);grind;obtain⟨Q,v1,v0,v2,v3⟩:=v5 (by grind);have vl:X.last=H c:=by
     have:X.last=U.last:=by unfold N.last;rw[v1]
     rw[this];exact v
    obtain⟨c6,e6,p,d2,d3⟩:=T s z;rw[v]at p;cases p;rw[i]at d2;cases d2;have vv:∃c e,X.last=H c/\X.h c=H e/\(∀t s,Nd.tx t∈e.q->X.d[t]?=H (.tx s)->VT.A e.name s)/\(X.a=e.name/\(e.name=aN->X.S=C)\/VT.E):=⟨c,Q,vl,v2,λt' y w A=>by grind,by grind⟩
    subst e2;exact⟨P,.inl ⟨F,vv,a1,u,d,m,x,D,G,B⟩⟩
  exact⟨λ_=>a3,a3⟩
 show Ps (DZ (dx I n) t) W _;exact Ps.bind r λ_ σ1 ⟨a,b⟩=>Ps.bind (Q:=λ_=>NW) (J n (dF _) σ1 a ⟨b,λ_ x e=>by grind⟩) λ_ _ h=>Ps.pure h
def aai(a0:Nb 6 h L W)(s:Sk L)(v:Ci W)(P:W.g=16\/W.g=17)(u:sR L=6)(S:TO t)(C:Hr n t):(W.g=16->PR n t W (eI oD t))/\(W.g=17->PR n t W (eI (kE 93 I) t)):=by
 have p:=nj a0 v s (.inr ⟨P,u⟩);have E:∀{U:N},Nb 6 h L U->Fm W U->NW U:=λa f=> .inl (nj a (f.off v) s (.inr ⟨by rw[f.q.2.1];exact P,u⟩));have B:PR n t W (.dX 241):=by refine Ps.bind (Q:=λ_ σ1=>σ1={W with g:=6}) (Ps.oc D) λ_ σ1 e=>?_;subst e;exact Ps.bind (C n (dF _) {W with g:=6} (nj (a0.q D D a0.B D a0.E) v s (.inl u.symm)) (Cn.of (by simp))) λ_ _ h=>Ps.pure h
 have a1:PR n t W .eW:=Ps.pure (.inl p);have A:∀q:∀x,t.k≠ .stop x,PR n t W (.qX 6):=λq=>Ps.mono (Jg a0 s (by omega) S (λx e=>absurd e (q x)) n) λ_ _ b=>Yi b v s (.inr ⟨P,u⟩) λ_=>u;have l:∀{w:M (Nat×Nat)},Ps w W (λo U=>U=W/\∃K,W.h o.1=H K/\cZ ([bO,aN]++me) K.name=I/\o.2=ln K.q)->Ps (iq w t) W λ_=>NW:=λF=>by
  unfold iq;split;exact Ps.bind F λo U ⟨e,K,G,J,y⟩=>by subst e;exact Ps.bind (Y7 a0 G J λ_=>y) λ_ _ ⟨a,b⟩=>Ps.pure (E a b)
  exact Ps.pure (.inl p)
 refine⟨λ_=>?_,λ_=>?_⟩;refine oh S (λg=>jv (eU (λq=>(λg z=>Ps.mono (vD a0 g z n) λ_ _ ⟨a,b⟩=>E a b) g (oz q)) oO) λ_=>B) (λg=>jv (eU (λq=>Ps.oc (.inl (nj (a0.q D D a0.B D a0.E) v s (.inr ⟨.inr D,u⟩)))) oO) λ_=>B) (λg _ s _=>⟨λ_=>A g,B⟩) (λ_ _ _=>?_) (λ_=>a1) (λ_ _=>a1);refine l λo U e=>?_;unfold pP at e;split at e;rename_i i m;obtain⟨c,k⟩:=o;obtain⟨a,rfl,K,b,y⟩:=A7 e;obtain⟨OF,aI,d,Q⟩:=a0.op;obtain⟨r,rfl,_⟩:=s;cases OF with
 |nil=>cases d
 |cons j OF=>
  have:=by
   rw[aI]at m
   simpa [dT]using m.symm
  subst this;simp at d;have z:K.name=aC:=by have:=d.1;unfold N.nm at this;rw[b]at this;exact this
  exact⟨a,K,b,by rw[z];decide+kernel,y⟩
 cases e;refine oh S (λg=>jv (eU (λq=>(λg z=>Ps.mono (vD a0 g z n) λ_ _ ⟨a,b⟩=>E a b) g (oz q)) oO) λ_=>B) (λg=>B) (λg _ s _=>⟨λ_=>A g,B⟩) (λ_ _ _=>?_) (λ_=>a1) (λ_ _=>a1);refine l λo U e=>?_;obtain⟨c,k⟩:=o;obtain⟨a,rfl,K,b,y⟩:=A7 e;obtain⟨O,aJ,d2,_⟩:=a0.A;rw[b]at aJ;cases aJ;exact⟨a,K,b,by rw[d2];decide+kernel,y⟩
end
section
variable [VT]{φ h n:Nat}{L:List O}{W U:N}{t:dj}
theorem Nb.up(y:Nb 0 h L W):Nb 1 h L W:=by obtain⟨e,o,q,g,u⟩:=y.A;refine⟨y.u,y.op,y.B,y.R,y.E,y.bk,y.T,⟨e,o,q,?_,λj v=>?_⟩,by grind⟩;have g:E4 W _=0:=g;show E4 W _<=1;omega;grind
theorem Nb.z0(j:Nb φ h L W)(g:2<=φ):h≠0:=λe=>by grind[Nb.A,Nb.K]
theorem aml(a0:Nb 0 h L W){d:mh}{s:O}(z:W.h 0=H d):Ps (kZ (0,ln d.q) (.dt s) .dt) W λ_ U=>Nb 1 h L U/\Fm W U:=by
 intro a U q;have u:Nb 0 h L (W.add (.dt s)):=a0.add _ _ λe q=>nomatch q
 have o:(W.add (.dt s)).h 0=H d:=(N.oj (N.n z)).trans z;obtain⟨S,v,y,E,P⟩:=u.A;rw[o]at v;cases v;unfold kZ wB at q;rw[o]at q;dsimp at q;split at q;cases q;have lk:Pn _ _ (ins _ (ln d.q) (.dt (ln W.d))):=(u.u 0 d o).g y (λe=>nomatch e) λe=>by rw[y]at e;exact absurd e (by decide+kernel)
 refine⟨u.LP o D id (λg=>lk.e g) (λt c=>?_) (λg _=>?_) (λg aJ f=>by omega) (.inr (.inl ⟨D,by grind⟩)),_,_,_,_,D⟩;grind[sM];rw[(lk.DE g).1,Bg.1];rw[E];refine⟨by show RW 0 2<=1;decide,λj b=>?_⟩;grind[sM];cases q
theorem ahA(d:Nb 1 h [] W)(own:Bool)(bY:iB):Ps (p6 own bY) W λ_ U=>∃n,Nb 2 n [aC] U/\∃k o f a,U={W with d:=k,A:=o,E:=f,B:=a,g:=2}:=by
 have s:Ps (lW (aC) own bY) W λj U=>j=ln W.d/\∃g f,U=W.il (.el ⟨(aC),g,F,[]⟩) f:=λj U e=>by unfold lW at e;split at e;grind;cases e;exact⟨D,[],W.E,D⟩
 refine Ps.bind s λj σ1 ⟨e1,g,f,e2⟩=>?_;subst e1 e2;have P:=((show Nb 1 (ln W.d) [] W by
   obtain⟨OF,x,A,B⟩:=d.op;obtain⟨e,v,S,y,aJ⟩:=d.A;refine⟨d.u,⟨OF,x,A,λi r=>?_⟩,d.B,d.R,d.E,d.bk,d.T,by grind,by grind⟩
   all_goals grind[List.map_eq_nil_iff])).add (.el ⟨(aC),g,F,[]⟩) f λe q=>by cases q;rfl
 have E:(W.il (.el _) f).h (ln W.d)=H ⟨(aC),g,F,[]⟩:=N.ng;obtain⟨K,v,S,y,aJ⟩:=P.A;refine Ps.bind (Q:=λb U=>b=(0,ln K.q)/\U=W.il _ f) (Ps.ok (wh v) ⟨D,D⟩) λb X ⟨e1,e2⟩=>?_;subst e1 e2;have w:DE (W.il (.el ⟨(aC),g,F,[]⟩) f) (.el (ln W.d))=3:=by
  unfold DE;dsimp only;have:(W.il (.el ⟨(aC),g,F,[]⟩) f).nm (ln W.d)=(aC):=by unfold N.nm;rw[E]
  rw[this];decide+kernel
 refine Ps.bind (Lw P v E (by rw[S];show Hu ⟨#[]⟩ (aC)=C;decide+kernel) (λ_=>?_) (λq=>absurd q.symm (by grind)) (.inr (.inl ⟨D,λ_=>⟨_,E,D,D,(by grind)⟩⟩))) λ_ σ3 ⟨c,f3,e,p,z,t⟩=>?_;rw[Bg.1,w];have y:E4 _ K.q<=1:=y;refine⟨?_,λi r=>⟨dF _,?_⟩⟩;show RW _ 3=2;grind[RW];grind[sM];refine Ps.bind (Ju c p ⟨λ_=>t,λ_=>D⟩) λ_ a0 ⟨u,f4⟩=>?_;obtain⟨k,o,m,a,l⟩:=Fm.trans (Fm.trans ⟨_,_,_,_,D⟩ f3) f4;subst l;rw[z]at u;exact Ps.ok D ⟨_,u.q D D u.B D u.E,k,o,m,a,D⟩
theorem Gg(l:Nb φ h [aC] W){i:Nat}{nm:O}(v:W.U=I)(E:φ=2/\i=4/\nm=aZ\/φ=4/\i=6/\nm=aO){j:iB}{f:Bool}:Ps (j5 (ln W.d)) (W.il (.el ⟨nm,j,F,[]⟩) f) λ_ U=>Nb i h [aC,nm] U/\Fm W U:=by
 have o:2<=φ/\2<=i:=by omega
 have g:=l.add (.el ⟨nm,j,F,[]⟩) f λe q=>by cases q;rfl
 have y:(W.il (.el _) f).h (ln W.d)=H ⟨nm,j,F,[]⟩:=N.ng;obtain⟨aJ,S,b,d⟩:=g.K o.1;refine Ps.bind (Q:=λu U=>u=(h,ln aJ.q)/\U=W.il (.el ⟨nm,j,F,[]⟩) f) (λu U e=>?_) λu X ⟨e1,e2⟩=>?_;obtain⟨c,k⟩:=u;obtain⟨a,K,G,_,_,t,_⟩:=wA g e λq=>by rw[show(W.il _ f).U=W.U from D,v]at q;cases q
 obtain⟨J,aI⟩:=t v;have z:=Lt (W:=W.il _ f) v e;obtain⟨OF,r,B,s⟩:=g.op;rw[YN r]at z;obtain⟨x,A,_,a2⟩:=s c (ra z);grind
 .subst e1 e2;have p:RX φ (DE (W.il (.el ⟨nm,j,F,[]⟩) f) (.el (ln W.d)))=i:=by
   have:(W.il (.el ⟨nm,j,F,[]⟩) f).nm (ln W.d)=nm:=by unfold N.nm;rw[y]
   unfold DE;dsimp only;rw[this];rcases E with⟨rfl,rfl,rfl⟩|⟨rfl,rfl,rfl⟩<;>decide+kernel
  have a1:Hu aC nm=C:=by rcases E with⟨_,_,rfl⟩|⟨_,_,rfl⟩<;>decide+kernel
  refine Ps.bind (Lw g S y (by grind) (λq=>absurd q (g.z0 o.1)) (λ_ _=>⟨b,by rw[Bg.2,d,p]⟩) (.inr (.inr ⟨D,(g.z0 o.1),o⟩))) λ_ σ3 ⟨P,f3,e,m,a0,n⟩=>(Ps.bind (Ju P m ⟨λ_=>n,λq=>?_⟩) λ_ a3 ⟨w,f4⟩=>Ps.pure ⟨?_,Fm.trans (a:=W) (Fm.trans ⟨_,_,_,_,D⟩ f3) f4⟩)
  all_goals grind
theorem Db(j:Nb (Lq W.g) h L W)(e:Ci W)(g:W.g<=4)(s:EH W.g L):NI W:=by have:em W=W.g:=di (by omega);exact⟨h,L,by grind,e,by grind⟩
theorem Y8(z:Nb 2 h [aC] W)(q:Ci W)(own:Bool)(bY:iB):Ps (p9 own bY) W λ_ U=>NI U/\U.g=3:=by
 have y:Ps (lW (aZ) own bY) W λj U=>j=ln W.d/\∃o f,U=W.il (.el ⟨(aZ),o,F,[]⟩) f:=λj U e=>by unfold lW at e;split at e;grind;cases e;exact⟨D,[],W.E,D⟩
 refine Ps.bind y λj σ1 ⟨e1,o,f,e2⟩=>?_;subst e1 e2;refine Ps.bind (Q:=λ_ X=>X=({W with head:=H _}:N).il _ f) (Ps.oc D) λ_ X e2=>?_;subst e2;have v:Nb 2 h _ {W with head:=H (ln W.d)}:=z.q D D z.B D z.E;refine Ps.bind (Gg v q.1 (.inl ⟨D,D,D⟩)) λ_ σ3 ⟨g,u⟩=>(Ps.ok D ⟨Db (g.q D D g.B D g.E) (u.off q) (by simp) (.inr (.inr (.inl ⟨D,D⟩))),D⟩)
theorem V5(y:Nb φ h L W)(v:W.U=I)(q:∀p,L.getLast?=H p->cZ ([bO,aN]++me) p=I):Ps (iq ja t) W λ_ U=>Nb φ h L U/\Fm W U:=by unfold iq;split;refine Ps.bind (Q:=λg U=>U=W/\∃K,W.h g.1=H K/\g.2=ln K.q/\L.getLast?=H K.name) (λg U e=>?_) λg U ⟨e,K,j,o,u⟩=>?_;grind[wA];subst e;exact Ps.bind (Y7 y j (q _ u) λ_=>o) λ_ _ h=>Ps.pure h;grind[Ps.pure,Fm.refl]
theorem acR(o:Nb φ h L W):Ps (iq (fM 0) t) W λ_ U=>Nb φ h L U/\Fm W U:=by unfold iq;split;obtain⟨K,e,j,_⟩:=o.A;refine Ps.bind (Q:=λg U=>g=(0,ln K.q)/\U=W) (Ps.ok (wh e) ⟨D,D⟩) λg U ⟨e1,e2⟩=>?_;subst e1 e2;exact Ps.bind (Y7 o e (by rw[j];decide+kernel) λ_=>D) λ_ _ h=>Ps.pure h;grind[Ps.pure,Fm.refl]
theorem acM(a0:Nb 4 h L W)(hf:W.U=I)(b:∀p,L.getLast?=H p->p=aC\/p=aZ)(S:fP t.d=C):Ps (gh t) W λ_ U=>Nb 4 h L U/\Fm W U:=by
 refine Ps.bind (Q:=λj U=>U=W/\∃K,W.h j.1=H K/\rZ (K.q.drop j.2)=I/\j.2=ln K.q/\L.getLast?=H K.name) (λj U e=>?_) λj U ⟨e,K,u,a,v,aJ⟩=>?_;grind[wA]
 .subst e;obtain⟨c,k⟩:=j;obtain⟨_,d,z⟩:=Sj S;refine Ps.bind (Lv a0 u a d (by rcases(b _ aJ)with e|e<;>rw[e]<;>decide+kernel) ⟨λ_=>z,by grind⟩ (λt' o E P=>⟨λq y g=>?_,by grind⟩) (λ_ _=>⟨D,v⟩) λ_=>v) λ_ _ h=>Ps.pure h.1;simp only[ByteArray.data_append,Array.toList_append,dA]at g;rcases g with g|g;exact(a0.bk c K t' o u E P).1 q y g;exact z y g
def aiK(g:cZ [dy,bO,aN] t.name=C):∀p,(Sk [aC,aZ]->cZ lM p=I)->(W.U=I->[aC,aZ].getLast?=H p)->W.U=I->Hu p t.name=C/\p≠⟨#[]⟩/\p≠aC:=λp _ q j=>by have:=q j;cases this;simp[dV]at g;rcases g with e|e|e<;>rw[e]<;>decide+kernel
theorem Yw(j:Nb 4 h [aC,aZ] W)(e:W.U=I)(g:cZ [dy,bO,aN] t.name=C):Ps (jA t) W λ_ U=>Nb 4 h [aC,aZ] U/\Fm W U/\U.A=W.A:=
 Ps.bind (Ps.and (pa j (λq=>by grind) λp a b=>aiK g p a b e) Jn) λ_ σ1 ⟨⟨a,b⟩,c,_⟩=>Ps.bind (Ps.ok D ⟨Nb.drop a,b.trans ⟨_,_,_,_,D⟩,by show σ1.A.dropLast=_;rw[c];simp⟩) λ_ _ h=>Ps.pure h
theorem Yv(S:Nb 4 h [aC,aZ] W)(v:W.U=I)(z:cZ [dy,bO,aN] t.name=C)(pl:Bool)(E:t.name=aN->pl=C):Ps (lu t pl) W λ_ U=>Nb 4 h [aC,aZ,t.name] U/\(U.A=W.A++[H (ln W.d)]/\∃e,U.h (ln W.d)=H e/\e.q=[]/\U.a=e.name/\(e.name=aN->U.S=C))/\∃d o f a x y,U={W with d:=d,A:=o,E:=f,B:=a,a:=x,S:=y,kept:=W.g,g:=5}:=by refine Ps.bind (Ps.and (pa S (λq=>by grind) λp a b=>aiK z p a b v) Jn) λ_ σ1 ⟨⟨a,d,o,f,P,e⟩,c,x,g,u,j⟩=>?_;subst e;exact Ps.ok D ⟨Nb.q a D D a.B D a.E,⟨c,x,g,j,u.symm,by grind⟩,_,_,_,_,_,_,D⟩
end
section
variable [VT]{φ h n:Nat}{L:List O}{W U:N}{t:dj}
theorem Yu(v:t.k=.start t.name)(o:cZ [dy,bO,aN] t.name=C){Q:N->Prop}(u:t.name=dy->Ps (jA t) W λ_=>Q)(j:cZ [bO,aN] t.name=C->∀q,(t.name=aN->q=C)->Ps (lu t q) W λ_=>Q):Ps (jp I (dx C n) (dx I n) (eI gI t) t) W λ_=>Q:=by
 let g:eI gI t=gE [uC gI.start t.name,gI.B,gI.l]:=by unfold eI;rw[v]
 simp[dV,nQ,nR]at o;rcases o with e|e|e;rw[g.trans (show _=Ru.dX 104 by rw[e];kernel_rfl)];exact u e;rw[g.trans (show _=Ru.dX 105 by rw[e];kernel_rfl)];exact Ps.bind (j (by rw[e];decide+kernel) _ (by grind)) λ_ _ h=>Ps.pure h;rw[g.trans (show _=Ru.dX 106 by rw[e];kernel_rfl)];exact Ps.bind (j (by rw[e];decide+kernel) C λ_=>D) λ_ _ h=>Ps.pure h
theorem YY{x:O}{a:List O}(q:alv U)(v:Nb 4 h (a++[x]) U)(o:U.g=5)(j:U.kept=3\/U.kept=4)(g:Ci U)(u:cZ [bO,aN] x=C)(s:EH U.kept a):NI U:=by
 have:Lq (em U)=4:=by have:em U=U.kept:=dw (.inl o);rw[this];rcases j with e|e<;>rw[e]<;>rfl
 let ⟨c5,e5,n1,n2,n3,n4⟩:=q
 exact⟨h,a++[x],by grind,g,by grind⟩
theorem agp(w:Nb 4 h [aC] W)(hf:Ci W)(F:W.g=4)(f:t.k=.start t.name)(m:cZ [dy,bO,aN] t.name=C)(hd:∀d,W.head=H d->fa W d aZ):Ps (rM (dx I n) t) W λ_=>NW:=by
 let ⟨OF,o1,o2,o3⟩:=w.op
 obtain⟨i,rfl⟩:∃i,OF=[i]:=by
  cases OF with
  |nil=>cases o2
  |cons i OF=>cases OF<;>grind
 cases hh:W.head with
 |none=>
  refine Ps.bind (Q:=λ_ _=>False) (λa U e=>?_) λ_ _ h=>h.elim
  let e:nK W.head W=.ok a U:=e
  rw[hh]at e;unfold nK at e;split at e;cases e;cases e
 |some d=>
  let ⟨ed,hd1,hd2⟩:=hd d hh
  let v:i≠d:=λe=>by
   subst e
   let R:W.nm i=ed.name:=by unfold N.nm;rw[hd1]
   grind
  refine Ps.bind (Q:=λ_ σ1=>Nb 4 h [aC,aZ] σ1/\σ1.A=[H i,H d]/\Fm W σ1) (λa U e=>?_) λ_ σ1 ⟨r,x,l⟩=>?_
  let e:nK (H d) W=.ok a U:=by rw[<-hh];exact e
  let ⟨g,u⟩:=Ju w hd1 ⟨λq=>by grind,λq=>by grind⟩ a U e
  rw[hd2]at g;exact⟨g,by rw[(aeG a U e).1,o1];rfl,u⟩
  let S:Ci σ1:=l.off hf
  have md:σ1.g=4:=l.q.2.1.trans F;have Q:σ1.head=H d:=by obtain⟨_,_,_,_,rfl⟩:=l;exact hh
  refine Ps.bind (Q:=λ_ X=>X.head=H d/\Ci X/\(Nb 4 h [aC,aZ] X/\X.A=[H i,H d]/\X.g=4\/Nb 4 h [aC,aZ,t.name] X/\(∃j,X.A=[H i,H d,H j]/\∃e,X.h j=H e/\e.q=[]/\X.a=e.name/\(e.name=aN->X.S=C))/\X.g=5/\X.kept=4/\cZ [bO,aN] t.name=C)) ?_ λ_ X ⟨M,A,O⟩=>Ps.bind (Q:=λ_=>NW) (λa U e=>?_) λ_ _ h=>Ps.pure h;cases n with
  |zero=>exact Ps.stuck D
  |succ n=>
   show Ps (dx I (n+1) 3 t) _ _;rw[jx (a:=gI) D D (by rw[f];simp)];refine Yu f m (λe=>?_) (λe pl a0=>?_);refine Ps.mono (Yw r S.1 m) λ_ X ⟨a,⟨_,_,_,_,e⟩,c⟩=>?_;rw[x]at c;refine⟨by grind,by rw[e];exact S,.inl ⟨a,c,by grind⟩⟩;refine Ps.mono (Yv r S.1 m pl a0) λ_ X ⟨a,⟨b,aI⟩,_,_,_,_,_,_,c⟩=>?_;rw[x]at b;refine⟨by grind,by rw[c];exact S,.inr ⟨a,⟨_,b,aI⟩,by rw[c],by grind,e⟩⟩
  have e:iH X.head X=.ok a U:=e;rw[M]at e;unfold iH at e;split at e;cases e;have ne:¬(H i:fW)=H d:=λe=>v (by injection e);rcases O with⟨g,u,P⟩|⟨g,⟨j,u,L,G,J⟩,P,s,B⟩;have e:X.A.erase (H d)=[i].map H:=by rw[u];simp[rf,v]
  obtain⟨OF,o,z,p⟩:=g.op;have aJ:OF=[i,d]:=by exact(wk λ_ _ e=>by injection e).1 (o.symm.trans u)
  subst aJ;have E:=g.stack (c:=[i]) λk f=>p k (by grind);have y:[i].map X.nm=[aC]:=by simp only[Fy,rP,RH]at z|-;exact⟨z.1,trivial⟩
  rw[y]at E;rw[e];refine .inl (Db (h:=h) (L:=[aC]) ?_ A (by grind) (.inr (.inl ⟨.inr P,D⟩)));have:=by show Lq X.g=4;rw[P];rfl
  grind;have e:X.A.erase (H d)=[i,j].map H:=by rw[u];simp[rf,v]
  obtain⟨OF,o,z,p⟩:=g.op;have aJ:OF=[i,d,j]:=by exact(wk λ_ _ e=>by injection e).1 (o.symm.trans u)
  subst aJ;have E:=g.stack (c:=[i,j]) λk f=>p k (by grind);have y:[i,j].map X.nm=[aC]++[t.name]:=by simp only[Fy,rP,RH,tf,tA]at z|-;exact⟨z.1,z.2.2.1,trivial⟩
  rw[y]at E;rw[e];exact .inl (YY ⟨j,L,C5 (o:=[H i]) D,G,J⟩ E P (.inr s) A B (by show EH X.kept _;rw[s];exact .inr (.inl ⟨.inr D,D⟩)));cases e
end
end
end Go.Proofs.YtcalkelgoekpfaaGreatDoor
