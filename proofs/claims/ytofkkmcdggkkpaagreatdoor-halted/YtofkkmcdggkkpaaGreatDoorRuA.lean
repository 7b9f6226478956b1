import Derived.Test.YtofkkmcdggkkpaaGreatDoorKept
import Derived.Deep.MidRow
import Derived.Laws.EntriesVeiled
import Derived.Great.BuildSlice
set_option linter.unusedSimpArgs false
set_option linter.unusedVariables false
set_option linter.defProp false
set_option maxHeartbeats 0
set_option maxRecDepth 100000
namespace Go.Proofs.YtofkkmcdggkkpaaGreatDoor
open Go.RowKit Tryz
def Gx:=@List.nodup_cons
def zL:=@Array.getElem?_setIfInBounds
def jB:=@List.setIfInBounds_toArray
def jC:=@List.set_cons_zero
def jD:=@List.set_cons_succ
def BP:=@List.length_map
def U9:=@List.map_reverse
def Z6:=@List.dropWhile_sublist
def RQ:=@List.map_map
def Va:=@Function.comp_def
def AO:=@List.mem_of_mem_erase
def Z7:=@List.getElem?_eq_none
def Vb:=@List.map_congr_left
section
variable {C args c : jM} {T : List TypeId} {X : Nat->Prop} {av kv v v0 v1 v2 v3 v4 v5 v6 v7 v8 v9 : gO} {b bB bD base bm bs g i k n s : Nat} {cw cw' w w' : gv} {e t : TypeId} {f : Nat->Nat} {p : gy->Bool} {x y : jg} {xs : List gO} {zs : kQ} {σ : Ab}
inductive Ru
 |nil
 |nothing
 |ie (f:Nat)
 |pq (m:Int)
 |gR (pf:Nat) (own:Bool)
 |ahead (f:Nat)
 |ends (f:Nat)
 |Nz (r:Ru)
 |rG (ks:List gy) (m:Int)
 |nJ (ks:List gy) (name:gy) (m:Int)
 |item (ks:List gy)
variable {R : List (List gy×Ru)} {ms : List (Nat×List (List gy×Ru))} {r : Ru} {rs : List (Ru×gO)}
abbrev iC (b:Nat):gO:=gJ b
abbrev box (w:gv) (b:Nat) (v:gO) (t:TypeId):Prop:=w.heap[b]?=some (gI #[v] t)
def nA (bm bB bD:Nat):Ru->gO->gv->Prop
 | .nil,v,_=>v= .nilFunc
 | .nothing,v,_=>v= .func (.func 79) #[] #[]
 | .ie f,v,_=>v= .func (.func f) #[iC bB] #[]
 | .pq m,v,w=>∃b1 b2,v= .func (.func 161) #[] #[iC b1,iC b2]/\box w b1 (iC bB) 93/\box w b2 (gn m) 154
 | .gR pf own,v,w=>∃b1,v= .func (.func 155) #[] #[iC b1]/\box w b1 (.func (.func pf) #[iC (if own then bB else bD)] #[]) 190
 | .ahead f,v,w=>∃b1 b2,v= .func (.func 208) #[] #[iC b2,iC b1]/\box w b1 (iC bB) 93/\box w b2 (.func (.func f) #[iC bB] #[]) 70
 | .ends f,v,w=>∃b1,v= .func (.func 213) #[] #[iC b1]/\box w b1 (.func (.func f) #[iC bB] #[]) 70
 | .Nz r,v,w=>∃b1 b2 u,v= .func (.func 218) #[] #[iC b1,iC b2]/\box w b1 (iC bB) 93/\box w b2 u 143/\nA bm bB bD r u w
 | .rG ks m,v,w=>∃b1 b2 b3 u,v= .func (.func 205) #[] #[iC b1,iC b2,iC b3]/\box w b1 (iC bB) 93/\box w b2 u 150/\Ask bm u (ij ks) w/\box w b3 (gn m) 154
 | .nJ ks name m,v,w=>∃b1 b2 b3 b4 u,v= .func (.func 207) #[] #[iC b1,iC b2,iC b3,iC b4]/\box w b1 (iC bB) 93/\box w b2 u 150/\Ask bm u (ij ks) w/\box w b3 (gH name) 9/\box w b4 (gn m) 154
 | .item ks,v,w=>∃b1 b2 b3 d h,v= .func (.func 263) #[] #[iC b1,iC b2,iC b3]/\box w b1 (iC bB) 93/\box w b2 d 150/\Ask bm d (ij ks) w/\box w b3 h 150/\Ask bm h (λs=>lc s&&!ij [jS,nc] s) w
def box.fr (h:box w b v t) (d:vT bm w w') (j:t∉Hl):box w' b v t:=d.cell h j
def nA.fr:∀{r:Ru} {v:gO} {w w':gv},nA bm bB bD r v w->vT bm w w'->nA bm bB bD r v w'
 | .nil,_,_,_,h,_=>h
 | .nothing,_,_,_,h,_=>h
 | .ie _,_,_,_,h,_=>h
 | .pq _,_,_,_,⟨b1,b2,e,h1,h2⟩,hf=>⟨b1,b2,e,box.fr h1 hf (by decide),box.fr h2 hf (by decide)⟩
 | .gR _ _,_,_,_,⟨b1,e,h1⟩,hf=>⟨b1,e,box.fr h1 hf (by decide)⟩
 | .ahead _,_,_,_,⟨b1,b2,e,h1,h2⟩,hf=>⟨b1,b2,e,box.fr h1 hf (by decide),box.fr h2 hf (by decide)⟩
 | .ends _,_,_,_,⟨b1,e,h1⟩,hf=>⟨b1,e,box.fr h1 hf (by decide)⟩
 | .Nz _,_,_,_,⟨b1,b2,u,e,h1,h2,hr⟩,hf=>⟨b1,b2,u,e,box.fr h1 hf (by decide),box.fr h2 hf (by decide),hr.fr hf⟩
 | .rG _ _,_,_,_,⟨b1,b2,b3,u,e,h1,h2,ha,h3⟩,hf=>⟨b1,b2,b3,u,e,box.fr h1 hf (by decide),box.fr h2 hf (by decide),ha.fr hf,box.fr h3 hf (by decide)⟩
 | .nJ _ _ _,_,_,_,⟨b1,b2,b3,b4,u,e,h1,h2,ha,h3,h4⟩,hf=>⟨b1,b2,b3,b4,u,e,box.fr h1 hf (by decide),box.fr h2 hf (by decide),ha.fr hf,box.fr h3 hf (by decide),box.fr h4 hf (by decide)⟩
 | .item _,_,_,_,⟨b1,b2,b3,u1,u2,e,h1,h2,ha,h3,hb⟩,hf=>⟨b1,b2,b3,u1,u2,e,box.fr h1 hf (by decide),box.fr h2 hf (by decide),ha.fr hf,box.fr h3 hf (by decide),hb.fr hf⟩
def pg:List (List gy×Ru)->gy->Option Ru
 |[],_=>none
 |p::R,k=>if ij p.1 k then some p.2 else pg R k
def IsMap (bm bB bD b:Nat) (R:List (List gy×Ru)) (v:gO) (w:gv):Prop:=
 ∃L,v= .map (some b)/\sM w b L/\∀k,match pg R k with
  |some r=>∃u,zP L k=some u/\nA bm bB bD r u w
  |none=>zP L k=none
theorem IsMap.fr (h:IsMap bm bB bD b R v w) (j:vT bm w w') (d:w'.heap[b]?=w.heap[b]?):IsMap bm bB bD b R v w':=by
 have⟨L,e,hm,hr⟩:=h;refine⟨L,e,hm.keeps d,λk=>?_⟩;have:=hr k;cases hq:pg R k with
 |none=>grind
 |some r=>rw[hq]at this;have⟨u,hu,hi⟩:=this;exact⟨u,hu,hi.fr j⟩
theorem L0:∀(L:List (gy×gO)) (k:gy) (v:gO) (s:gy),zP (Cn L k v) s=if kC s k then some v else zP L s
 |[],k,v,s=>rfl
 |p::L,k,v,s=>by
  unfold Cn
  by_cases d:kC k p.1=true
  .grind[zP,kC,Cn]
  .rw[gQ d];unfold zP;rw[L0 L k v s]
   grind[kC]
theorem PF (v:gO) (s:gy) (ks:List gy):∀(L:List (gy×gO)),zP (ze L ks v) s=if ij ks s then some v else zP L s:=by
 induction ks with
 |nil=>grind[zP,ze,ij]
 |cons k ks ih=>
  intro L;show zP (ze (Cn L k v) ks v) s=_;rw[ih,L0]
  grind[ij]
theorem IsMap.at (h:IsMap bm bB bD b R v w):∃j d,w.heap[b]?=some (.map j d):=by
 have⟨L,e,⟨j,d,ha,_⟩,hr⟩:=h
 grind
theorem S4 (bm bB bD b:Nat) (s:gy) (ks:List gy) (r:Ru) (R:List (List gy×Ru)) (v:gO) (w:gv) (A:pT s=true) (l:words s=ks) (B:xR w) (z:IsMap bm bB bD b R (.map (some b)) w) (m:b≠bm) (D:nA bm bB bD r v w):
  Calls prog 84 #[.map (some b),gH s,v] w λe w'=>e=iq (.map (some b))/\IsMap bm bB bD b ((ks,r)::R) (.map (some b)) w'/\Kept [b] w w'/\vT bm w w':=by
 have h:=z.at;have⟨L,_,hM,hR⟩:=z;refine(ae2 b s v L w A B.1 hM).mono ?_;rintro e w' ⟨rfl,d,q⟩;have j:=vT.of_map q h m;rw[l]at d;refine⟨rfl,⟨_,rfl,d,λk=>?_⟩,q,j⟩;rw[PF];unfold pg;cases hq:ij ks k with
 |true=>simp;exact D.fr j
 |false=>
  simp;have:=hR k;cases hq2:pg R k with
  |none=>grind
  |some r2=>rw[hq2]at this;have⟨u,hu,hi⟩:=this;exact⟨u,hu,hi.fr j⟩
def Uu (bm bB bD:Nat) (w:gv):IsMap bm bB bD w.heap.size [] (.map (some w.heap.size)) (w.alloc (.map #[] 0)):=⟨[],rfl,sM.new w,λ_=>rfl⟩
theorem sy (w:gv) (d h:Obj):((w.alloc d).alloc h).heap[w.heap.size]?=some d/\((w.alloc d).alloc h).heap[w.heap.size+1]?=some h:=by
 refine⟨(Below.heap_alloc _ _ _ (by simp)).trans (fY w _),?_⟩;have:=fY (w.alloc d) h
 simp_all
theorem oq (w:gv) (d h j:Obj):(((w.alloc d).alloc h).alloc j).heap[w.heap.size]?=some d/\(((w.alloc d).alloc h).alloc j).heap[w.heap.size+1]?=some h/\(((w.alloc d).alloc h).alloc j).heap[w.heap.size+1+1]?=some j:=by
 have⟨h1,h2⟩:=sy w d h;refine⟨(Below.heap_alloc _ _ _ (by grind)).trans h1,(Below.heap_alloc _ _ _ (by simp)).trans h2,?_⟩;have:=fY ((w.alloc d).alloc h) j
 simp_all
theorem F4 (w:gv) (d h j l:Obj):((((w.alloc d).alloc h).alloc j).alloc l).heap[w.heap.size]?=some d/\((((w.alloc d).alloc h).alloc j).alloc l).heap[w.heap.size+1]?=some h/\((((w.alloc d).alloc h).alloc j).alloc l).heap[w.heap.size+1+1]?=some j/\((((w.alloc d).alloc h).alloc j).alloc l).heap[w.heap.size+1+1+1]?=some l:=by
 have⟨h1,h2,h3⟩:=oq w d h j;refine⟨(Below.heap_alloc _ _ _ (by grind)).trans h1,(Below.heap_alloc _ _ _ (by simp)).trans h2,(Below.heap_alloc _ _ _ (by simp)).trans h3,?_⟩;have:=fY (((w.alloc d).alloc h).alloc j) l
 simp_all
abbrev zw (bm bB bD:Nat) (r:Ru) (w:gv) (e:Ending) (w':gv):Prop:=(∃v,e=iq v/\nA bm bB bD r v w')/\Kept [] w w'
def py (bm bB bD:Nat) (m:Int) (w:gv):Calls prog 88 #[iC bB,gn m] w (zw bm bB bD (.pq m) w):=by
 refine(abh bB m w).mono ?_;rintro e w' ⟨rfl,rfl⟩;have⟨h1,h2⟩:=sy w (gI #[iC bB] 93) (gI #[gn m] 154);exact⟨⟨_,rfl,_,_,rfl,h1,h2⟩,((Kept.refl _ _).alloc _).alloc _⟩
def ot (bm bB bD d:Nat) (own:Bool) (w:gv):Calls prog 80 #[iC bB,.func (.func d) #[iC (if own then bB else bD)] #[]] w (zw bm bB bD (.gR d own) w):=by
 refine(NL bB (.func d) #[iC (if own then bB else bD)] #[] w).mono ?_;rintro e w' ⟨rfl,rfl⟩;exact⟨⟨_,rfl,_,rfl,fY w _⟩,(Kept.refl _ _).alloc _⟩
def oh (bm bB bD f:Nat) (w:gv):Calls prog 112 #[iC bB,.func (.func f) #[iC bB] #[]] w (zw bm bB bD (.ahead f) w):=by
 refine(NM bB (.func f) #[iC bB] #[] w).mono ?_;rintro e w' ⟨rfl,rfl⟩;have⟨h1,h2⟩:=sy w (gI #[iC bB] 93) (gI #[.func (.func f) #[iC bB] #[]] 70);exact⟨⟨_,rfl,_,_,rfl,h1,h2⟩,((Kept.refl _ _).alloc _).alloc _⟩
def xl (bm bB bD f:Nat) (w:gv):Calls prog 116 #[.func (.func f) #[iC bB] #[]] w (zw bm bB bD (.ends f) w):=by
 refine(abj (.func f) #[iC bB] #[] w).mono ?_;rintro e w' ⟨rfl,rfl⟩;exact⟨⟨_,rfl,_,rfl,fY w _⟩,(Kept.refl _ _).alloc _⟩
theorem nA.func (h:nA bm bB bD r v w) (d:r≠ .nil):∃f a l,v= .func f a l:=by
 cases r with
 |nil=>grind
 |nothing=>exact⟨_,_,_,h⟩
 |ie f=>exact⟨_,_,_,h⟩
 |pq m=>have⟨_,_,e,_⟩:=h;grind
 |gR a b=>have⟨_,e,_⟩:=h;grind
 |ahead f=>have⟨_,_,e,_⟩:=h;grind
 |ends f=>have⟨_,e,_⟩:=h;grind
 |Nz r=>have⟨_,_,_,e,_⟩:=h;grind
 |rG a b=>have⟨_,_,_,_,e,_⟩:=h;grind
 |nJ a b c=>have⟨_,_,_,_,_,e,_⟩:=h;grind
 |item a=>have⟨_,_,_,_,_,e,_⟩:=h;grind
def JM (bm bB bD:Nat) (r:Ru) (u:gO) (w:gv) (j:r≠ .nil) (h:nA bm bB bD r u w):Calls prog 124 #[iC bB,u] w (zw bm bB bD (.Nz r) w):=by
 obtain⟨f,a,l,rfl⟩:=h.func j;refine(NN bB f a l w).mono ?_;rintro e w' ⟨rfl,rfl⟩;have⟨h1,h2⟩:=sy w (gI #[iC bB] 93) (gI #[.func f a l] 143);have d:Kept [] w ((w.alloc (gI #[iC bB] 93)).alloc (gI #[.func f a l] 143)):=((Kept.refl _ _).alloc _).alloc _;exact⟨⟨_,rfl,_,_,_,rfl,h1,h2,h.fr (.gX d)⟩,d⟩
theorem Ask.func (h:Ask bm v p w):∃f a l,v= .func f a l:=by
 have⟨k,lb,e,_⟩:=h.call
 grind
def Bb (bm bB bD:Nat) (ks:List gy) (m:Int) (u:gO) (w:gv) (h:Ask bm u (ij ks) w):Calls prog 109 #[iC bB,u,gn m] w (zw bm bB bD (.rG ks m) w):=by
 obtain⟨f,a,l,rfl⟩:=h.func;refine(Qd bB f a l m w).mono ?_;rintro e w' ⟨rfl,rfl⟩;have⟨h1,h2,h3⟩:=oq w (gI #[iC bB] 93) (gI #[.func f a l] 150) (gI #[gn m] 154);have d:Kept [] w (((w.alloc (gI #[iC bB] 93)).alloc (gI #[.func f a l] 150)).alloc (gI #[gn m] 154)):=(((Kept.refl _ _).alloc _).alloc _).alloc _;exact⟨⟨_,rfl,_,_,_,_,rfl,h1,h2,h.fr (.gX d),h3⟩,d⟩
def Cw (bm bB bD:Nat) (ks:List gy) (d:gy) (m:Int) (u:gO) (w:gv) (j:Ask bm u (ij ks) w):Calls prog 111 #[iC bB,u,gH d,gn m] w (zw bm bB bD (.nJ ks d m) w):=by
 obtain⟨f,a,l,rfl⟩:=j.func;refine(NP bB f a l d m w).mono ?_;rintro e w' ⟨rfl,rfl⟩;have⟨h1,h2,h3,h4⟩:=F4 w (gI #[iC bB] 93) (gI #[.func f a l] 150) (gI #[gH d] 9) (gI #[gn m] 154);have h:Kept [] w ((((w.alloc (gI #[iC bB] 93)).alloc (gI #[.func f a l] 150)).alloc (gI #[gH d] 9)).alloc (gI #[gn m] 154)):=((((Kept.refl _ _).alloc _).alloc _).alloc _).alloc _;exact⟨⟨_,rfl,_,_,_,_,_,rfl,h1,h2,j.fr (.gX h),h3,h4⟩,h⟩
structure my where
 blank:Ru:= .nil
 ke:Ru:= .nil
 gR:Ru:= .nil
 iM:Ru:= .nil
 im:Ru:= .nil
 start:Option (List (List gy×Ru)):=none
 stop:Option (List (List gy×Ru)):=none
 jV:Ru:= .nil
 kx:Ru:= .nil
 iE:Ru:= .nil
variable {sp : my}
def rD (bm bB bD:Nat):Option (List (List gy×Ru))->gO->gv->Prop
 |none,v,_=>v= .map none
 |some R,v,w=>∃b,IsMap bm bB bD b R v w
theorem IsMap.lt (h:IsMap bm bB bD b R v w):b < w.heap.size:=by
 have⟨es,ck,ha⟩:=h.at
 grind
def rD.il {R : Option (List (List gy×Ru))} (h:rD bm bB bD R v w) (d:Kept [] w w'):rD bm bB bD R v w':=by
 cases R with
 |none=>exact h
 |some R=>
  have⟨b,hm⟩:=h;exact⟨b,hm.fr (.gX d) (d.block b hm.lt (by simp))⟩
structure kN (bm bB bD:Nat) (sp:my) (v0 v1 v2 v3 v4 v5 v6 v7 v8 v9:gO) (w:gv):Prop where
 blank:nA bm bB bD sp.blank v0 w
 ke:nA bm bB bD sp.ke v1 w
 gR:nA bm bB bD sp.gR v2 w
 iM:nA bm bB bD sp.iM v3 w
 im:nA bm bB bD sp.im v4 w
 start:rD bm bB bD sp.start v5 w
 stop:rD bm bB bD sp.stop v6 w
 jV:nA bm bB bD sp.jV v7 w
 kx:nA bm bB bD sp.kx v8 w
 iE:nA bm bB bD sp.iE v9 w
def kN.il (h:kN bm bB bD sp v0 v1 v2 v3 v4 v5 v6 v7 v8 v9 w) (d:Kept [] w w'):kN bm bB bD sp v0 v1 v2 v3 v4 v5 v6 v7 v8 v9 w':=
 have f:vT bm w w':= .gX d
 ⟨h.blank.fr f,h.ke.fr f,h.gR.fr f,h.iM.fr f,h.im.fr f,h.start.il d,h.stop.il d,h.jV.fr f,h.kx.fr f,h.iE.fr f⟩
def jQ (bm bB bD:Nat) (sp:my) (w:gv) (e:Ending) (w':gv):Prop:=
 ∃v0 v1 v2 v3 v4 v5 v6 v7 v8 v9,e=iq (.agg #[v0,v1,v2,v3,v4,v5,v6,v7,v8,v9])/\kN bm bB bD sp v0 v1 v2 v3 v4 v5 v6 v7 v8 v9 w'/\Kept [] w w'
def BD (bB bD:Nat) (w:gv):Prop:=w.cell? ⟨bB,187,none⟩=some (iC bD)/\bB < w.heap.size
def BD.il (h:BD bB bD w) (d:Kept [] w w'):BD bB bD w':=⟨(d.cell (p:=⟨bB,187,none⟩) h.2 (by simp)).trans h.1,lV h.2 d.size⟩
abbrev uk:jM:=#[.nilFunc,.nilFunc,.nilFunc,.nilFunc,.nilFunc,.map none,.map none,.nilFunc,.nilFunc,.nilFunc]
def sB (w:gv) (o:Obj):∃W,W=w.alloc o/\Kept [] w W/\W.heap[w.heap.size]?=some o/\W.heap.size=w.heap.size+1:=⟨_,rfl,(Kept.refl _ _).alloc _,fY w _,by simp⟩
theorem rD.I9 {R : Option (List (List gy×Ru))} (h:rD bm bB bD R v w) (j:Kept [s] w w') (l:w.heap[s]?=some (gI c t)) (f:vT bm w w'):rD bm bB bD R v w':=by
 cases R with
 |none=>exact h
 |some R=>
  have⟨b,hb⟩:=h;refine⟨b,hb.fr f (j.block b hb.lt ?_)⟩;intro d;have e:=List.mem_singleton.1 d;have⟨es,ck,ha⟩:=hb.at
  grind
def kN.I9 (h:kN bm bB bD sp v0 v1 v2 v3 v4 v5 v6 v7 v8 v9 w) (d:Kept [s] w w') (l:w.heap[s]?=some (gI c 147)):kN bm bB bD sp v0 v1 v2 v3 v4 v5 v6 v7 v8 v9 w':=
 have f:vT bm w w':=⟨_,d,λk j _=>by
  have e:=List.mem_singleton.1 j;subst e;exact .inl ⟨_,_,_,l,by decide⟩⟩
 ⟨h.blank.fr f,h.ke.fr f,h.gR.fr f,h.iM.fr f,h.im.fr f,h.start.I9 d l f,h.stop.I9 d l f,h.jV.fr f,h.kx.fr f,h.iE.fr f⟩
def Qy (v0 v1 v2 v3 v4 v5 v6 v7 v8 v9:gO):jp uk 0 [v0,v1,v2,v3,v4,v5,v6,v7,v8,v9]=#[v0,v1,v2,v3,v4,v5,v6,v7,v8,v9]:=by
 simp[jp]
def kA (h:w.heap[s]?=some (gI uk 147)):w.cell? ⟨s,0,none⟩=some .nilFunc/\w.cell? ⟨s,1,none⟩=some .nilFunc/\w.cell? ⟨s,2,none⟩=some .nilFunc/\w.cell? ⟨s,3,none⟩=some .nilFunc/\w.cell? ⟨s,4,none⟩=some .nilFunc/\w.cell? ⟨s,5,none⟩=some (.map none)/\w.cell? ⟨s,6,none⟩=some (.map none)/\w.cell? ⟨s,7,none⟩=some .nilFunc/\w.cell? ⟨s,8,none⟩=some .nilFunc/\w.cell? ⟨s,9,none⟩=some .nilFunc:=by
 simp only[fW h];simp
def jA {w1 : gv} (h:w1.heap[w.heap.size]?=some (gI uk 147)) (q:Kept [] w w1) (z:kN bm bB bD sp v0 v1 v2 v3 v4 v5 v6 v7 v8 v9 w1) (W:gv) (d:W=w1.setCells w.heap.size 0 [v0,v1,v2,v3,v4,v5,v6,v7,v8,v9]):
  W.heap[w.heap.size]?=some (gI #[v0,v1,v2,v3,v4,v5,v6,v7,v8,v9] 147)/\kN bm bB bD sp v0 v1 v2 v3 v4 v5 v6 v7 v8 v9 W/\Kept [] w W:=by
 have m:=km [v0,v1,v2,v3,v4,v5,v6,v7,v8,v9] w1 w.heap.size uk _ _ 0 h;have j:Kept [w.heap.size] w1 W:=by rw[d];exact Kept.setCells (.inl (by simp)) _ _ (Kept.refl _ _)
 have l:Kept [] w W:=by rw[d];exact Kept.setCells (.inr (ig _)) _ _ q
 rw[Qy,<-d]at m;exact⟨m,z.I9 j h,l⟩
def kD {t : Nat} {j:Func} {a : Act} {W : gv} (d:j.results=#[.cell t 147]) (z:a.tmps.getD t undef=gJ w.heap.size) (m:a.defers=[])
  (q:W.heap[w.heap.size]?=some (gI #[v0,v1,v2,v3,v4,v5,v6,v7,v8,v9] 147)/\kN bm bB bD sp v0 v1 v2 v3 v4 v5 v6 v7 v8 v9 W/\Kept [] w W):bodyPost prog j (jQ bm bB bD sp w) .ret a W:=by
 have⟨hg,hr,hk⟩:=q;refine qf (v:= .agg #[v0,v1,v2,v3,v4,v5,v6,v7,v8,v9]) ?_ m ⟨_,_,_,_,_,_,_,_,_,_,rfl,hr,hk⟩;have l:=fW hg;have h:a.tmps[t]?.getD undef=gJ w.heap.size:=by simpa using z
 simp only[results,d];simp[h,asAddr,Result.andThen,go_sem,l]
def WG (bm bB bD:Nat) (w:gv) (q:BD bB bD w) (B:xR w) (z:bm < w.heap.size):
  Calls prog 50 #[iC bB] w (jQ bm bB bD {blank:= .nothing,gR:= .gR 81 false,iM:= .ie 82,iE:= .ie 83} w):=by
 have A:=@run_makeMap prog;have⟨W0,HW0,HK0,HG0,HZ0⟩:=sB w (gI uk 147);have⟨xy,hBl⟩:=q;go_enter func50,ntmps50
 go_wp21
 refine(ot bm bB bD 81 false _).mono ?_;rintro e w1 ⟨⟨D,rfl,h⟩,j⟩;have⟨f1,a1,l1,hv1⟩:=h.func (by simp);subst hv1;have l:=fU h;have m:Kept [] w w1:=(HW0▸HK0).trans j;have d:=j.at (HW0▸HG0) (by simp);have HS:=fU (jA (v0:= .func (.func 79) #[] #[]) (v1:= .nilFunc) (v2:= .func f1 a1 l1) (v3:= .func (.func 82) #[iC bB] #[]) (v4:= .nilFunc) (v5:= .map none) (v6:= .map none) (v7:= .nilFunc) (v8:= .nilFunc) (v9:= .func (.func 83) #[iC bB] #[])
  (sp:={blank:= .nothing,gR:= .gR 81 false,iM:= .ie 82,iE:= .ie 83}) d m ⟨rfl,rfl,l,rfl,rfl,rfl,rfl,rfl,rfl,rfl⟩ _ rfl)
 clear h;have⟨q0,q1,q2,q3,q4,q5,q6,q7,q8,q9⟩:=kA d;have u:=gE d;go_wp2;exact kD results50 rfl rfl HS
structure St (bm bB bD:Nat) (w cw:gv) (rs:List (Ru×gO)) (ms:List (Nat×List (List gy×Ru))):Prop where
 k:Kept [] w cw
 g:cw.heap[w.heap.size]?=some (gI uk 147)
 t:xR cw
 lt:bm < w.heap.size
 Xs:∀p∈rs,nA bm bB bD p.1 p.2 cw
 Er:∀p∈ms,IsMap bm bB bD p.1 p.2 (.map (some p.1)) cw/\w.heap.size<=p.1/\p.1≠bm
 nd:(ms.map (·.1)).Nodup
def St.start (bm bB bD:Nat) (w:gv) (j:xR w) (d:bm < w.heap.size):∃W,W=w.alloc (gI uk 147)/\St bm bB bD w W [] []:=
 ⟨_,rfl,(Kept.refl _ _).alloc _,fY w _,j.fr (bm:=bm) (.gX ((Kept.refl _ _).alloc _)),d,(λ_ h=>(by cases h)),(λ_ h=>(by cases h)),(by simp)⟩
def St.Ae (s:St bm bB bD w cw rs ms) (h:Kept [] cw cw'):St bm bB bD w cw' rs ms:=
 have f:vT bm cw cw':= .gX h
 ⟨s.k.trans h,h.at s.g (by simp),s.t.fr f,s.lt,λp d=>(s.Xs p d).fr f,λp d=>⟨(s.Er p d).1.fr f (h.block _ (s.Er p d).1.lt (by simp)),(s.Er p d).2⟩,s.nd⟩
def St.call (s:St bm bB bD w cw rs ms) (j:Kept [] cw cw') (l:nA bm bB bD r v cw'):St bm bB bD w cw' ((r,v)::rs) ms:=
 have d:=s.Ae j
 ⟨d.k,d.g,d.t,d.lt,λp h=>by
  rcases List.mem_cons.1 h with rfl|h
  .exact l
  .exact d.Xs p h,d.Er,d.nd⟩
def St.map (s:St bm bB bD w cw rs ms):∃W b,W=cw.alloc (.map #[] 0)/\b=cw.heap.size/\St bm bB bD w W rs ((b,[])::ms):=by
 have j:Kept [] cw (cw.alloc (.map #[] 0)):=(Kept.refl _ _).alloc _;have d:=s.Ae j;refine⟨_,_,rfl,rfl,d.k,d.g,d.t,d.lt,d.Xs,λp h=>?_,?_⟩
 .rcases List.mem_cons.1 h with rfl|h
  .exact⟨Uu bm bB bD cw,s.k.size,by have:=s.k.size;have:=s.lt;omega⟩
  .exact d.Er p h
 .rw[yC,Gx];refine⟨λl=>?_,s.nd⟩;have⟨p,h,e⟩:=List.mem_map.1 l;have:=(s.Er p h).1.lt;omega
theorem St.on {z : List (List gy×Ru)} (s:St bm bB bD w cw rs ((b,R)::ms)) (m:Kept [b] cw cw') (l:vT bm cw cw') (D:IsMap bm bB bD b z (.map (some b)) cw'):St bm bB bD w cw' rs ((b,z)::ms):=by
 have A:=s.Er (b,R) (by simp);have q:=s.nd;rw[yC,Gx]at q;refine⟨s.k.next m (λx F=> .inr (by grind)),m.at s.g ?_,s.t.fr l,s.lt,λp h=>(s.Xs p h).fr l,λp h=>?_,s.nd⟩
 .intro d;have e:=List.mem_singleton.1 d;have⟨es,ck,ha⟩:=A.1.at;have B:=s.g
  grind
 .rcases List.mem_cons.1 h with rfl|h
  .grind
  .have j:=s.Er p (oW _ h);refine⟨j.1.fr l (m.block _ j.1.lt λd=>?_),j.2⟩
   grind
def St.at (s:St bm bB bD w cw rs ms) (h:(r,v)∈rs):nA bm bB bD r v cw:=s.Xs (r,v) h
def St.oL (s:St bm bB bD w cw rs ms) (h:(b,R)∈ms):rD bm bB bD (some R) (.map (some b)) cw:=⟨b,(s.Er (b,R) h).1⟩
def St.nF (S:St bm bB bD w cw rs ((b,R)::ms)) (s:gy) (ks:List gy) (r:Ru) (z:pT s=true) (d:words s=ks) (A:nA bm bB bD r v cw):
  Calls prog 84 #[.map (some b),gH s,v] cw λe w'=>e=iq (.map (some b))/\St bm bB bD w w' rs ((b,(ks,r)::R)::ms):=by
 have h:=S.Er (b,R) (pP ..);refine(S4 bm bB bD b s ks r R v cw z d S.t h.1 h.2.2 A).mono ?_;rintro e w' ⟨j,l,m,q⟩;exact⟨j,S.on m q l⟩
def St.made (S:St bm bB bD w cw rs ms) {f : Nat} (C:Calls prog f args cw (zw bm bB bD r cw)) (j:r≠ .nil):
  Calls prog f args cw λe w'=>∃f a l,e=iq (.func f a l)/\St bm bB bD w w' ((r,.func f a l)::rs) ms:=by
 refine C.mono ?_;rintro e w' ⟨⟨x,rfl,d⟩,h⟩;obtain⟨f,a,l,rfl⟩:=d.func j;exact⟨f,a,l,rfl,S.call h d⟩
def St.Vx (S:St bm bB bD w cw rs ms) {f : Nat} (C:Calls prog f args cw λe w'=>(∃v,e=iq v/\Ask bm v p w')/\Kept [] cw w'):
  Calls prog f args cw λe w'=>∃f a l,e=iq (.func f a l)/\Ask bm (.func f a l) p w'/\St bm bB bD w w' rs ms:=by
 refine C.mono ?_;rintro e w' ⟨⟨x,rfl,d⟩,h⟩;obtain⟨f,a,l,rfl⟩:=d.func;exact⟨f,a,l,rfl,d,S.Ae h⟩
theorem Be (bm:Nat) (w:gv):Calls prog 110 #[] w λe w'=>(∃v,e=iq v/\Ask bm v (ij [fZ]) w')/\Kept [] w w':=by
 have⟨W,hW,HK,g,z⟩:=sB w (gI #[gH fZ] 9);have C:=NF bm w.heap.size 1 [fZ] W g (by decide);have j:=fU hW;clear hW;go_enter func110,ntmps110
 go_wp21
 rw[<-j.out];refine C.mono ?_;rintro e w' ⟨⟨v,rfl,d⟩,m⟩;have q:=d;have h:=HK.trans m;have⟨f,a,l,hv⟩:=d.func;subst hv;go_wp2;go_ret
 simp_all
theorem zI (bm:Nat) (w:gv):Calls prog 122 #[] w λe w'=>(∃v,e=iq v/\Ask bm v (ij [gp,gq,gr]) w')/\Kept [] w w':=by
 have⟨W,hW,HK,g,z⟩:=sB w (gI #[gH gp,gH gq,gH gr] 9);have C:=NF bm w.heap.size 3 [gp,gq,gr] W g (by decide);have j:=fU hW;clear hW;go_enter func122,ntmps122
 go_wp21
 rw[<-j.out];refine C.mono ?_;rintro e w' ⟨⟨v,rfl,d⟩,m⟩;have q:=d;have h:=HK.trans m;have⟨f,a,l,hv⟩:=d.func;subst hv;go_wp2;go_ret
 simp_all
def ny (d:Nat) (own:Bool):my:={blank:= .pq 6,gR:= .gR d own,iM:= .nothing,im:= .nothing,start:=some [([fX],(.pq 6))],iE:= .ie 228}
def QT (bm bB bD h j:Nat) (own:Bool) (w:gv) (d:j=if own then bB else bD):Calls prog 80 #[iC bB,.func (.func h) #[iC j] #[]] w (zw bm bB bD (.gR h own) w):=by
 rw[d];exact ot bm bB bD h own w
def D6 (bm bB bD l G:Nat) (own:Bool) (j:G=if own then bB else bD) (w:gv) (O:BD bB bD w) (U:xR w) (F:bm < w.heap.size):
  Calls prog 135 #[iC bB,.func (.func l) #[iC G] #[]] w (jQ bm bB bD (ny l own) w):=by
 have S:=@run_makeMap prog;have q:=fU j;clear j;have⟨W0,hW0,HS0⟩:=St.start bm bB bD w U F;have⟨xy,hBl⟩:=O;have B:=fU hW0;clear hW0;go_enter func135,ntmps135
 go_wp21
 rw[<-B.out];refine(HS0.made (py bm bB bD 6 _) nofun).mono ?_;rintro e Y ⟨K,I,V,rfl,z⟩
 go_wp21
 refine(z.made (QT bm bB bD l G own _ q) nofun).mono ?_;rintro e Z ⟨N,J,W,rfl,A⟩;have⟨W3,b1,hW3,hb1,HS3⟩:=A.map;have D:=fU hW3;have m:=fU hb1;clear hW3 hb1
 go_wp21
 rw[<-D.out,<-m.out];refine(HS3.made (py bm bB bD 6 _) nofun).mono ?_;rintro e W4 ⟨f4,a4,l4,rfl,h⟩
 go_wp21
 refine(h.nF _ [fX] (.pq 6) (by rfl) (by rfl) (h.at (by simp))).mono ?_;rintro e W5 ⟨rfl,d⟩;have H:=jA (sp:=ny l own) (v0:= .func K I V) (v1:= .nilFunc) (v2:= .func N J W) (v3:= .func (.func 79) #[] #[]) (v4:= .func (.func 79) #[] #[]) (v5:= .map (some b1)) (v6:= .map none) (v7:= .nilFunc) (v8:= .nilFunc) (v9:= .func (.func 228) #[iC bB] #[]) d.g d.k ⟨(d.at (r:= .pq 6) (by simp)),rfl,(d.at (r:= .gR l own) (by simp)),rfl,rfl,(d.oL (by simp)),rfl,rfl,rfl,rfl⟩ _ rfl;have⟨q0,q1,q2,q3,q4,q5,q6,q7,q8,q9⟩:=kA d.g;have u:=gE d.g;go_wp2;exact kD results135 rfl rfl H
def FK {A : Nat} {own : Bool} (h:kN bm bB bD (ny A own) v0 v1 v2 v3 v4 v5 v6 v7 v8 v9 w):∃l d q m j z b5,v0= .func l d q/\v1= .nilFunc/\v2= .func m j z/\v3= .func (.func 79) #[] #[]/\v4= .func (.func 79) #[] #[]/\v5= .map (some b5)/\v6= .map none/\v7= .nilFunc/\v8= .nilFunc/\v9= .func (.func 228) #[iC bB] #[]:=by
 have⟨l,d,q,e0⟩:=h.blank.func (by simp[ny]);have⟨m,j,z,e2⟩:=h.gR.func (by simp[ny]);have⟨b5,L,e5,_⟩:=h.start;exact⟨l,d,q,m,j,z,b5,e0,h.ke,e2,h.iM,h.im,e5,h.stop,h.jV,h.kx,h.iE⟩
def Fe (bm bB bD:Nat) (w:gv) (l:BD bB bD w) (B:xR w) (j:bm < w.heap.size):
  Calls prog 67 #[iC bB] w (jQ bm bB bD (ny 81 false) w):=by
 have⟨W0,hW0,HS0⟩:=St.start bm bB bD w B j;have q:=l;have⟨xy,hBl⟩:=l;have h:=fU hW0;clear hW0;go_enter func67,ntmps67
 go_wp21
 rw[<-h.out];refine(D6 bm bB bD 81 bD false rfl _ (q.il HS0.k) HS0.t (lV HS0.lt HS0.k.size)).mono ?_;rintro e D ⟨v0,v1,v2,v3,v4,v5,v6,v7,v8,v9,rfl,m,A⟩;obtain⟨H,F,J,I,G,K,b5,rfl,rfl,rfl,rfl,rfl,rfl,rfl,rfl,rfl,rfl⟩:=FK m;have d:=HS0.Ae A;have z:=jA d.g d.k m _ rfl;have⟨q0,q1,q2,q3,q4,q5,q6,q7,q8,q9⟩:=kA d.g;have u:=gE d.g;go_wp2;exact kD results67 rfl rfl z
structure Dc (bm bB bD:Nat) (w cw:gv) (rs:List (Ru×gO)) (ms:List (Nat×List (List gy×Ru))):Prop where
 k:Kept [] w cw
 t:xR cw
 lt:bm < w.heap.size
 Xs:∀p∈rs,nA bm bB bD p.1 p.2 cw
 Er:∀p∈ms,IsMap bm bB bD p.1 p.2 (.map (some p.1)) cw/\w.heap.size<=p.1/\p.1≠bm
 nd:(ms.map (·.1)).Nodup
def Dc.start (bm bB bD:Nat) (w:gv) (j:xR w) (d:bm < w.heap.size):Dc bm bB bD w w [] []:=
 ⟨Kept.refl _ _,j,d,(λ_ h=>(by cases h)),(λ_ h=>(by cases h)),(by simp)⟩
def Dc.Ae (s:Dc bm bB bD w cw rs ms) (h:Kept [] cw cw'):Dc bm bB bD w cw' rs ms:=
 have f:vT bm cw cw':= .gX h
 ⟨s.k.trans h,s.t.fr f,s.lt,λp d=>(s.Xs p d).fr f,λp d=>⟨(s.Er p d).1.fr f (h.block _ (s.Er p d).1.lt (by simp)),(s.Er p d).2⟩,s.nd⟩
def Dc.call (s:Dc bm bB bD w cw rs ms) (j:Kept [] cw cw') (l:nA bm bB bD r v cw'):Dc bm bB bD w cw' ((r,v)::rs) ms:=
 have d:=s.Ae j
 ⟨d.k,d.t,d.lt,λp h=>by
  rcases List.mem_cons.1 h with rfl|h
  .exact l
  .exact d.Xs p h,d.Er,d.nd⟩
def Dc.map (s:Dc bm bB bD w cw rs ms):∃W b,W=cw.alloc (.map #[] 0)/\b=cw.heap.size/\Dc bm bB bD w W rs ((b,[])::ms):=by
 have j:Kept [] cw (cw.alloc (.map #[] 0)):=(Kept.refl _ _).alloc _;have h:=s.Ae j;refine⟨_,_,rfl,rfl,h.k,h.t,h.lt,h.Xs,λp d=>?_,?_⟩
 .rcases List.mem_cons.1 d with rfl|d
  .exact⟨Uu bm bB bD cw,s.k.size,by have:=s.k.size;have:=s.lt;omega⟩
  .exact h.Er p d
 .rw[yC,Gx];refine⟨λl=>?_,s.nd⟩;have⟨p,d,e⟩:=List.mem_map.1 l;have:=(s.Er p d).1.lt;omega
theorem Dc.on {m : List (List gy×Ru)} (s:Dc bm bB bD w cw rs ((b,R)::ms)) (q:Kept [b] cw cw') (j:vT bm cw cw') (B:IsMap bm bB bD b m (.map (some b)) cw'):Dc bm bB bD w cw' rs ((b,m)::ms):=by
 have A:=s.Er (b,R) (by simp);have l:=s.nd;rw[yC,Gx]at l;refine⟨s.k.next q (λx D=> .inr (by grind)),s.t.fr j,s.lt,λp d=>(s.Xs p d).fr j,λp d=>?_,s.nd⟩;rcases List.mem_cons.1 d with rfl|d
 .grind
 .have h:=s.Er p (oW _ d);refine⟨h.1.fr j (q.block _ h.1.lt λz=>?_),h.2⟩
  grind
def Dc.at (s:Dc bm bB bD w cw rs ms) (h:(r,v)∈rs):nA bm bB bD r v cw:=s.Xs (r,v) h
def ON (bm bB bD:Nat) (R:List (List gy×Ru)) (w:gv) (e:Ending) (w':gv):Prop:=∃b,e=iq (.map (some b))/\IsMap bm bB bD b R (.map (some b)) w'/\w.heap.size<=b/\b≠bm/\Kept [] w w'
def St.mapOf (s:St bm bB bD w cw rs ms) (q:Kept [] cw cw') (z:IsMap bm bB bD b R (.map (some b)) cw') (m:cw.heap.size<=b) (l:b≠bm):St bm bB bD w cw' rs ((b,R)::ms):=by
 have d:=s.Ae q;refine⟨d.k,d.g,d.t,d.lt,d.Xs,λp j=>?_,?_⟩
 .rcases List.mem_cons.1 j with rfl|j
  .exact⟨z,jP s.k.size m,l⟩
  .exact d.Er p j
 .rw[yC,Gx];refine⟨λh=>?_,s.nd⟩;have⟨p,j,e⟩:=List.mem_map.1 h;have:=(s.Er p j).1.lt;omega
def Dc.nF (S:Dc bm bB bD w cw rs ((b,R)::ms)) (s:gy) (ks:List gy) (r:Ru) (z:pT s=true) (d:words s=ks) (A:nA bm bB bD r v cw):
  Calls prog 84 #[.map (some b),gH s,v] cw λe w'=>e=iq (.map (some b))/\Dc bm bB bD w w' rs ((b,(ks,r)::R)::ms):=by
 have h:=S.Er (b,R) (pP ..);refine(S4 bm bB bD b s ks r R v cw z d S.t h.1 h.2.2 A).mono ?_;rintro e w' ⟨j,l,m,q⟩;exact⟨j,S.on m q l⟩
def Dc.made (S:Dc bm bB bD w cw rs ms) {f : Nat} (C:Calls prog f args cw (zw bm bB bD r cw)) (j:r≠ .nil):
  Calls prog f args cw λe w'=>∃f a l,e=iq (.func f a l)/\Dc bm bB bD w w' ((r,.func f a l)::rs) ms:=by
 refine C.mono ?_;rintro e w' ⟨⟨x,rfl,d⟩,h⟩;obtain⟨f,a,l,rfl⟩:=d.func j;exact⟨f,a,l,rfl,S.call h d⟩
def lZ:List (List gy×Ru):=[([gV],(.ie 199)),([tq,Gz,AP,iG],(.ie 198)),([iL],(.ie 197)),([j3],(.ie 196)),([nc],(.ie 195)),([kM],(.ie 194)),([mf,mg],(.ie 193)),([jS,oy,qI,mL,hH,lB,lC],(.ie 192)),([fX],(.ie 191)),([gA],(.ie 190))]
def GG (bm bB bD:Nat) (w:gv) (O:xR w) (I:bm < w.heap.size):
  Calls prog 105 #[iC bB] w (ON bm bB bD lZ w):=by
 have N:=@run_makeMap prog;have l:=Dc.start bm bB bD w O I;go_enter func105,ntmps105;have⟨W1,b1,hW1,hb1,HS1⟩:=l.map;have H:=fU hW1;have j:=fU hb1;clear hW1 hb1
 go_wp21
 rw[<-H.out,<-j.out];refine(HS1.nF _ [gA] (.ie 190) (by rfl) (by rfl) rfl).mono ?_;rintro e S ⟨rfl,m⟩
 go_wp21
 refine(m.nF _ [fX] (.ie 191) (by rfl) (by rfl) rfl).mono ?_;rintro e U ⟨rfl,q⟩
 go_wp21
 refine(q.nF _ [jS,oy,qI,mL,hH,lB,lC] (.ie 192) (by rfl) (by rfl) rfl).mono ?_;rintro e W4 ⟨rfl,z⟩
 go_wp21
 refine(z.nF _ [mf,mg] (.ie 193) (by rfl) (by rfl) rfl).mono ?_;rintro e V ⟨rfl,A⟩
 go_wp21
 refine(A.nF _ [kM] (.ie 194) (by rfl) (by rfl) rfl).mono ?_;rintro e W ⟨rfl,B⟩
 go_wp21
 refine(B.nF _ [nc] (.ie 195) (by rfl) (by rfl) rfl).mono ?_;rintro e Y ⟨rfl,D⟩
 go_wp21
 refine(D.nF _ [j3] (.ie 196) (by rfl) (by rfl) rfl).mono ?_;rintro e Z ⟨rfl,F⟩
 go_wp21
 refine(F.nF _ [iL] (.ie 197) (by rfl) (by rfl) rfl).mono ?_;rintro e W9 ⟨rfl,G⟩
 go_wp21
 refine(G.nF _ [tq,Gz,AP,iG] (.ie 198) (by rfl) (by rfl) rfl).mono ?_;rintro e J ⟨rfl,h⟩
 go_wp21
 refine(h.nF _ [gV] (.ie 199) (by rfl) (by rfl) rfl).mono ?_;rintro e K ⟨rfl,d⟩;go_wp2;go_ret;exact⟨b1,rfl,(d.Er (b1,[([gV],(.ie 199)),([tq,Gz,AP,iG],(.ie 198)),([iL],(.ie 197)),([j3],(.ie 196)),([nc],(.ie 195)),([kM],(.ie 194)),([mf,mg],(.ie 193)),([jS,oy,qI,mL,hH,lB,lC],(.ie 192)),([fX],(.ie 191)),([gA],(.ie 190))]) (by simp)).1,(d.Er (b1,[([gV],(.ie 199)),([tq,Gz,AP,iG],(.ie 198)),([iL],(.ie 197)),([j3],(.ie 196)),([nc],(.ie 195)),([kM],(.ie 194)),([mf,mg],(.ie 193)),([jS,oy,qI,mL,hH,lB,lC],(.ie 192)),([fX],(.ie 191)),([gA],(.ie 190))]) (by simp)).2.1,(d.Er (b1,[([gV],(.ie 199)),([tq,Gz,AP,iG],(.ie 198)),([iL],(.ie 197)),([j3],(.ie 196)),([nc],(.ie 195)),([kM],(.ie 194)),([mf,mg],(.ie 193)),([jS,oy,qI,mL,hH,lB,lC],(.ie 192)),([fX],(.ie 191)),([gA],(.ie 190))]) (by simp)).2.2,d.k⟩
def vE:my:={ny 136 true with stop:=some [([fX],.ie 137)]}
theorem QD (bm bB bD:Nat) (w:gv) (hb:BD bB bD w) (ht:xR w) (D:bm < w.heap.size):
  Calls prog 66 #[iC bB] w (jQ bm bB bD vE w):=by
 have a5:=@run_makeMap prog;have⟨W0,hW0,HS0⟩:=St.start bm bB bD w ht D;have HB:=hb;have I:=fU hW0;clear hW0 ht D hb;go_enter func66,ntmps66
 go_wp21
 rw[<-I.out];refine(D6 bm bB bD 136 bB true rfl _ (HB.il HS0.k) HS0.t (lV HS0.lt HS0.k.size)).mono ?_;rintro e h ⟨v0,v1,v2,v3,v4,v5,v6,v7,v8,v9,rfl,W,hk⟩;obtain⟨U,O,Y,V,S,Z,b5,rfl,rfl,rfl,rfl,rfl,rfl,rfl,rfl,rfl,rfl⟩:=FK W;have B:=HS0.Ae hk;have A:=fU W;clear W hk;have⟨W2,hW2,K2,g2,z2⟩:=sB h (gI #[.func U O Y,.nilFunc,.func V S Z,.func (.func 79) #[] #[],.func (.func 79) #[] #[],.map (some b5),.map none,.nilFunc,.nilFunc,.func (.func 228) #[iC bB] #[]] 147);have S2:=B.Ae K2;have⟨W3,b1,hW3,hb1,HS3⟩:=S2.map;have N:Kept [] W2 W3:=by rw[hW3];exact(Kept.refl _ _).alloc _
 have F:=fU (show h.heap.size+1=b1 by omega);have G:=N.at g2 (by simp);have j:=A.il (K2.trans N);have a1:=(show h.heap.size < b1 by omega);have a3:=(show b5 < b1 by
  have⟨b5',hm5⟩:=A.start;have e:b5=b5':=by have⟨L,e,_⟩:=hm5;simpa using e
  have:=hm5.lt;omega)
 have J:=fU hW2;have K:=fU hW3;clear hW2 K2 g2 z2 S2 hW3 hb1 N
 go_wp21
 rw[<-J.out,<-K.out,F.out];refine(S4 bm bB bD b1 _ [fX] (.ie 137) [] _ _ (by rfl) (by rfl) HS3.t (HS3.Er (b1,[]) (by simp)).1 (HS3.Er (b1,[]) (by simp)).2.2 rfl).mono ?_;rintro e W4 ⟨rfl,z,q,d⟩;have m:=HS3.on q d z;have l:=q.at G (by grind);have H:Hid (kN bm bB bD vE (.func U O Y) .nilFunc (.func V S Z) (.func (.func 79) #[] #[]) (.func (.func 79) #[] #[]) (.map (some b5)) (.map (some b1)) .nilFunc .nilFunc (.func (.func 228) #[iC bB] #[]) W4):=by
  refine fU ⟨j.blank.fr d,j.ke.fr d,j.gR.fr d,j.iM.fr d,j.im.fr d,?_,⟨b1,z⟩,j.jV.fr d,j.kx.fr d,j.iE.fr d⟩;have⟨b5',hm5⟩:=j.start;have e:b5=b5':=by have⟨L,e,_⟩:=hm5;simpa using e
  subst e;exact⟨b5,hm5.fr d (q.block b5 hm5.lt (by grind))⟩
 have a4:w.heap.size < h.heap.size:=jk B.g;have HF:=jA (w1:=W4.setCell ⟨h.heap.size,6,none⟩ (.map (some b1))) ((Below.heap_setCell W4 ⟨h.heap.size,6,none⟩ _ w.heap.size (by grind)).trans m.g) (m.k.setCell (p:=⟨h.heap.size,6,none⟩) (.inr (by grind)) _) (H.I9 ((Kept.refl [h.heap.size] W4).setCell (p:=⟨h.heap.size,6,none⟩) (.inl (by simp)) _) l) _ rfl;have a6:w.heap.size≠h.heap.size:=by omega
 clear z q d;have c0:W4.cell? ⟨h.heap.size,0,none⟩=some (.func U O Y):=(fW l 0).trans rfl;have c1:W4.cell? ⟨h.heap.size,1,none⟩=some .nilFunc:=(fW l 1).trans rfl;have c2:W4.cell? ⟨h.heap.size,2,none⟩=some (.func V S Z):=(fW l 2).trans rfl;have c3:W4.cell? ⟨h.heap.size,3,none⟩=some (.func (.func 79) #[] #[]):=(fW l 3).trans rfl;have c4:W4.cell? ⟨h.heap.size,4,none⟩=some (.func (.func 79) #[] #[]):=(fW l 4).trans rfl;have c5:W4.cell? ⟨h.heap.size,5,none⟩=some (.map (some b5)):=(fW l 5).trans rfl;have c6:W4.cell? ⟨h.heap.size,6,none⟩=some (.map none):=(fW l 6).trans rfl;have c7:W4.cell? ⟨h.heap.size,7,none⟩=some .nilFunc:=(fW l 7).trans rfl;have c8:W4.cell? ⟨h.heap.size,8,none⟩=some .nilFunc:=(fW l 8).trans rfl;have c9:W4.cell? ⟨h.heap.size,9,none⟩=some (.func (.func 228) #[iC bB] #[]):=(fW l 9).trans rfl;have d6:=gE l 6;clear l;have⟨q0,q1,q2,q3,q4,q5,q6,q7,q8,q9⟩:=kA m.g;have u:=gE m.g;go_wp2;exact kD results66 rfl rfl HF
def wS (bm:Nat) (v:gO) (p:gy->Bool) (X:Nat->Prop) (w:gv):Prop:=∃E,nQ E v p w/\∀e∈E,xP bm w e/\¬X e
theorem wS.ask (h:wS bm v p X w):Ask bm v p w:=by
 have⟨E,hA,hE⟩:=h
 grind[Ask]
def wS.kept (h:wS bm v p X w) (j:Kept [] w w'):wS bm v p X w':=by
 have⟨E,hA,hE⟩:=h;exact⟨E,hA.il j,λe d=>⟨(hE e d).1.fr (.gX j),(hE e d).2⟩⟩
def wS.other {j : Nat->Prop} (h:wS bm v p X w) (l:∀e,e < w.heap.size->j e->X e):wS bm v p j w:=by
 have⟨E,hA,hE⟩:=h;exact⟨E,hA,λe d=>⟨(hE e d).1,λm=>(hE e d).2 (l e (hA.lt e d) m)⟩⟩
def wS.of (h:Ask bm v p w) (j:∀e,e < w.heap.size->¬X e):wS bm v p X w:=by
 have⟨E,hA,hE⟩:=h;exact⟨E,hA,λe d=>⟨hE e d,j e (hA.lt e d)⟩⟩
theorem wS.set {bm k:Nat} {v:gO} {p:gy->Bool} {X:Nat->Prop} {w:gv} (h:wS bm v p X w) (l:X k) (u:gO):wS bm v p X (w.setCell ⟨k,0,none⟩ u):=by
 have⟨E,hA,hE⟩:=h;have j:∀e∈E,(w.setCell ⟨k,0,none⟩ u).heap[e]?=w.heap[e]?:=λe d=>Below.heap_setCell w ⟨k,0,none⟩ u e (λq=>(hE e d).2 (by grind));refine⟨E,hA.keeps j (by simp),λe d=>⟨?_,(hE e d).2⟩⟩
 grind[xP]
theorem Up (bm g d:Nat) (h:List gy) (X:Nat->Prop) (w:gv) (B:w.heap[g]?=some (gI (h.map Value.string).toArray 9)) (j:h.length<=4096) (D:∀e,X e->e < w.heap.size/\e≠g):
  Calls prog 206 #[oY g h.length d] w λe w'=>(∃v,e=iq v/\wS bm v (ij h) X w')/\Kept [] w w':=by
 refine(acF g d h.length w).mono ?_;rintro e w' ⟨rfl,rfl⟩;have A:Kept [] w (w.alloc (gI #[oY g h.length d] 210)):=(Kept.refl _ _).alloc _;have l:=fY w (gI #[oY g h.length d] 210);have m:=A.at B (by simp);refine⟨⟨_,rfl,_,YP _ g d h _ l m j,λe q=>?_⟩,A⟩;simp at q;rcases q with rfl|rfl
 .exact⟨.inr ⟨_,_,l,by decide⟩,λz=>by grind⟩
 .exact⟨.inr ⟨_,_,m,by decide⟩,λz=>(D _ z).2 rfl⟩
theorem XZ (bm:Nat) (v1 v2:gO) (p q:gy->Bool) (X:Nat->Prop) (w:gv) (z:wS bm v1 p X w) (A:wS bm v2 q X w) (B:∀e,X e->e < w.heap.size):
  Calls prog 262 #[v1,v2] w λe w'=>(∃v,e=iq v/\wS bm v (λs=>p s&&!q s) X w')/\Kept [] w w':=by
 have⟨E1,a1,c1⟩:=z;have⟨E2,a2,c2⟩:=A;refine(X0 E1 E2 v1 v2 p q w a1 a2).mono ?_;rintro e w' ⟨⟨v,rfl,m,j,l⟩,h⟩;refine⟨⟨v,rfl,_,m,λe d=>⟨Mh (.inr ⟨_,_,j,by decide⟩) (.inr ⟨_,_,l,by decide⟩) (λe d=>(c1 e d).1.fr (.gX h)) (λe d=>(c2 e d).1.fr (.gX h)) e d,λD=>?_⟩⟩,h⟩
 grind
def XX (s5 s6:gO) (e:Nat):Prop:=iC e=s5\/iC e=s6
abbrev aaK:List gy:=[jS,nc]
abbrev ad0:gy->Bool:=λs=>lc s&&!ij aaK s
structure OL (bm bB:Nat) (ks:List gy) (sl u:gO) (w1:gv) (b0 b1 b2 b3 b4 b5 b6 b7 b8 b9 b10 b11 b12:Bool) (s5 s6 s7 s8 s9 s10 s11 s12 s13 s14 s15:gO) (w:gv):Prop where
 k:Kept [] w1 w
 f0:b0=true->s7=sl
 f1:b1=true->wS bm s8 (ij ks) (XX s5 s6) w
 f2:b2=true->s9=iC bB
 f3:b3=true->s10=iC bB
 f4:b4=true->s11=jG bB 184
 f5:b5=true->s12=u
 f6:b6=true->∃g,s13=oY g 2 2/\w.heap[g]?=some (gI #[gH jS,gH nc] 9)
 f7:b7=true->wS bm s14 (ij aaK) (XX s5 s6) w
 f8:b8=true->wS bm s15 ad0 (XX s5 s6) w
 f9:if b9 then ∃k,s5=iC k/\w1.heap.size<=k/\box w k (if b11 then s8 else .nilFunc) 150 else s5=undef
 f10:if b10 then ∃k,s6=iC k/\w1.heap.size<=k/\box w k (if b12 then s15 else .nilFunc) 150 else s6=undef
 ne:b9=true->b10=true->s5≠s6
 d11:b11=true->b1=true/\b9=true
 d12:b12=true->b8=true/\b10=true
section
variable {bm bB:Nat} {ks:List gy} {sl u:gO} {w1:gv} {b0 b1 b2 b3 b4 b5 b6 b7 b8 b9 b10 b11 b12:Bool} {s5 s6 s7 s8 s9 s10 s11 s12 s13 s14 s15:gO} {w w':gv}
theorem XX.lt (h:OL bm bB ks sl u w1 b0 b1 b2 b3 b4 b5 b6 b7 b8 b9 b10 b11 b12 s5 s6 s7 s8 s9 s10 s11 s12 s13 s14 s15 w) {e:Nat} (d:XX s5 s6 e):w1.heap.size<=e/\∃v,box w e v 150:=by
 rcases d with d|d
 .have:=h.f9;cases b9 with
  |false=>rw[this]at d;simp[undef]at d
  |true=>grind
 .have:=h.f10;cases b10 with
  |false=>rw[this]at d;simp[undef]at d
  |true=>grind
theorem OL.go (h:OL bm bB ks sl u w1 b0 b1 b2 b3 b4 b5 b6 b7 b8 b9 b10 b11 b12 s5 s6 s7 s8 s9 s10 s11 s12 s13 s14 s15 w) (d:Kept [] w w'):OL bm bB ks sl u w1 b0 b1 b2 b3 b4 b5 b6 b7 b8 b9 b10 b11 b12 s5 s6 s7 s8 s9 s10 s11 s12 s13 s14 s15 w':=by
 refine⟨h.k.trans d,h.f0,λq=>(h.f1 q).kept d,h.f2,h.f3,h.f4,h.f5,λq=>?_,λq=>(h.f7 q).kept d,λq=>(h.f8 q).kept d,?_,?_,h.ne,h.d11,h.d12⟩
 .have⟨g,e,hg⟩:=h.f6 q;exact⟨g,e,d.at hg (by simp)⟩
 .have:=h.f9;cases b9 with
  |false=>grind
  |true=>have⟨k,e,h1,h2⟩:=this;exact⟨k,e,h1,d.at h2 (by simp)⟩
 .have:=h.f10;cases b10 with
  |false=>grind
  |true=>have⟨k,e,h1,h2⟩:=this;exact⟨k,e,h1,d.at h2 (by simp)⟩
end
theorem abP (bm bB bD g D:Nat) (ks:List gy) (u:gO) (w:gv) (hB:bB < w.heap.size) (hu:w.cell? ⟨bB,184,none⟩=some u) (hA:Ask bm u lc w) (h2:w.heap[g]?=some (gI (ks.map Value.string).toArray 9)) (ab:ks.length<=4096):
  Calls prog 179 #[iC bB,oY g ks.length D] w (zw bm bB bD (.item ks) w):=by
 obtain⟨uf,ua,ul,rfl⟩:=hA.func;have⟨w1,hw1,HK,HG,HZ⟩:=sB w (gI #[iC bB] 93);have HU:=hu;have HB:=hB;have a1:=fU hA;have H2:=h2;have a3:=ab;have HW:=fU hw1;clear hA hw1;go_enter func179,ntmps179
 go_wp21
 refine tC (by rfl) ?_;change wpAny _ _ _ _ _ _ _ (World.drew _);rw[<-HW.out];refine Bh (I:=λl a W=>∃b0 b1 b2 b3 b4 b5 b6 b7 b8 b9 b10 b11 b12 s5 s6 s7 s8 s9 s10 s11 s12 s13 s14 s15,l=#[b0,b1,b2,b3,b4,b5,b6,b7,b8,b9,b10,b11,b12]/\a=⟨#[iC bB,oY g ks.length D,gJ w.heap.size,undef,.nilFunc,s5,s6,s7,s8,s9,s10,s11,s12,s13,s14,s15,undef],[]⟩/\OL bm bB ks (oY g ks.length D) (.func uf ua ul) w1 b0 b1 b2 b3 b4 b5 b6 b7 b8 b9 b10 b11 b12 s5 s6 s7 s8 s9 s10 s11 s12 s13 s14 s15 W) ?_ ?_ _ _ _ _ ?_ ?_
 .rintro l a W i ⟨b0,b1,b2,b3,b4,b5,b6,b7,b8,b9,b10,b11,b12,s5,s6,s7,s8,s9,s10,s11,s12,s13,s14,s15,rfl,rfl,d⟩ hi;simp only[Region.ready,MH,Ku]at hi;have⟨U,hc⟩:=hi;have U:i < 13:=U;obtain rfl|rfl|rfl|rfl|rfl|rfl|rfl|rfl|rfl|rfl|rfl|rfl|rfl:i=0\/i=1\/i=2\/i=3\/i=4\/i=5\/i=6\/i=7\/i=8\/i=9\/i=10\/i=11\/i=12:=by omega
  all_goals simp[Region.binds]at hc
  .refine kP rfl ?_;intro B h;go_simp;refine h _ _ ?_
   iterate 24 apply Exists.intro
   refine⟨rfl,rfl,?_⟩;exact⟨d.k,λ_=>rfl,d.f1,d.f2,d.f3,d.f4,d.f5,d.f6,d.f7,d.f8,d.f9,d.f10,d.ne,d.d11,d.d12⟩
  .refine kP rfl ?_;intro B h;have e7:=d.f0 hc.2;subst e7;have O:b11=false:=by
    cases b11 with
    |false=>rfl
    |true=>have:=(d.d11 rfl).1;simp[hc.1]at this
   subst O;have C:=(Up bm g D ks (XX s5 s6) W ((HK.trans d.k).at H2 (by simp)) a3 (λe j=>by
    have⟨h1,v,h3⟩:=XX.lt d j
    grind))
   go_simp;refine C.mono ?_;rintro e w' ⟨⟨v,rfl,F⟩,m⟩;have J:=d.go m;refine h _ _ ?_
   iterate 24 apply Exists.intro
   refine⟨rfl,rfl,?_⟩;exact⟨J.k,J.f0,λ_=>F,J.f2,J.f3,J.f4,J.f5,J.f6,J.f7,J.f8,J.f9,J.f10,J.ne,(λq=>by simp at q),J.d12⟩
  .refine kP rfl ?_;intro B h;have c0:W.cell? ⟨w.heap.size,0,none⟩=some (iC bB):=(fW (d.k.at HG (by simp)) 0).trans rfl;go_simp;refine h _ _ ?_
   iterate 24 apply Exists.intro
   refine⟨rfl,rfl,?_⟩;exact⟨d.k,d.f0,d.f1,λ_=>rfl,d.f3,d.f4,d.f5,d.f6,d.f7,d.f8,d.f9,d.f10,d.ne,d.d11,d.d12⟩
  .refine kP rfl ?_;intro B h;have e9:=d.f2 hc.2;subst e9;go_simp;refine h _ _ ?_
   iterate 24 apply Exists.intro
   refine⟨rfl,rfl,?_⟩;exact⟨d.k,d.f0,d.f1,d.f2,λ_=>rfl,d.f4,d.f5,d.f6,d.f7,d.f8,d.f9,d.f10,d.ne,d.d11,d.d12⟩
  .refine kP rfl ?_;intro B h;have a4:=d.f3 hc.2;subst a4;go_simp;refine h _ _ ?_
   iterate 24 apply Exists.intro
   refine⟨rfl,rfl,?_⟩;exact⟨d.k,d.f0,d.f1,d.f2,d.f3,λ_=>rfl,d.f5,d.f6,d.f7,d.f8,d.f9,d.f10,d.ne,d.d11,d.d12⟩
  .refine kP rfl ?_;intro B h;have a5:=d.f4 hc.2;subst a5;have c0:W.cell? ⟨bB,184,none⟩=some (.func uf ua ul):=((HK.trans d.k).cell (p:=⟨bB,184,none⟩) HB (by simp)).trans HU;go_simp;refine h _ _ ?_
   iterate 24 apply Exists.intro
   refine⟨rfl,rfl,?_⟩;exact⟨d.k,d.f0,d.f1,d.f2,d.f3,d.f4,λ_=>rfl,d.f6,d.f7,d.f8,d.f9,d.f10,d.ne,d.d11,d.d12⟩
  .refine kP rfl ?_;intro B h;go_simp;have m:Kept [] W (W.alloc (gI #[gH jS,gH nc] 9)):=(Kept.refl _ _).alloc _;have J:=d.go m;refine h _ _ ?_
   iterate 24 apply Exists.intro
   refine⟨rfl,rfl,?_⟩;exact⟨J.k,J.f0,J.f1,J.f2,J.f3,J.f4,J.f5,λ_=>⟨_,rfl,fY W _⟩,J.f7,J.f8,J.f9,J.f10,J.ne,J.d11,J.d12⟩
  .refine kP rfl ?_;intro B h;have⟨g3,e13,h13⟩:=d.f6 (by simp[hc]);subst e13;have C:=(Up bm g3 2 aaK (XX s5 s6) W h13 (by decide) (λe j=>by
    have⟨h1,v,h3⟩:=XX.lt d j
    grind))
   go_simp;refine C.mono ?_;rintro e w' ⟨⟨v,rfl,F⟩,m⟩;have J:=d.go m;refine h _ _ ?_
   iterate 24 apply Exists.intro
   refine⟨rfl,rfl,?_⟩;exact⟨J.k,J.f0,J.f1,J.f2,J.f3,J.f4,J.f5,J.f6,λ_=>F,J.f8,J.f9,J.f10,J.ne,J.d11,J.d12⟩
  .refine kP rfl ?_;intro B h;have a6:=d.f5 (by simp[hc]);subst a6;have a7:=d.f7 (by simp[hc]);have S:b12=false:=by
    cases b12 with
    |false=>rfl
    |true=>have:=(d.d12 rfl).1;simp[hc.1]at this
   subst S;have a9:wS bm (.func uf ua ul) lc (XX s5 s6) W:=(wS.of (a1.fr (.gX HK)) (λe he j=>by have:=(XX.lt d j).1;omega)).kept d.k;have C:=(XZ bm (.func uf ua ul) s14 lc (ij aaK) (XX s5 s6) W a9 a7 (λe j=>by
    have⟨h1,v,h3⟩:=XX.lt d j;exact jk h3))
   go_simp;refine C.mono ?_;rintro e w' ⟨⟨v,rfl,F⟩,m⟩;have J:=d.go m;refine h _ _ ?_
   iterate 24 apply Exists.intro
   refine⟨rfl,rfl,?_⟩;exact⟨J.k,J.f0,J.f1,J.f2,J.f3,J.f4,J.f5,J.f6,J.f7,λ_=>F,J.f9,J.f10,J.ne,J.d11,(λq=>by simp at q)⟩
  .refine kP rfl ?_;intro B h;have z:b11=false:=by
    cases b11 with
    |false=>rfl
    |true=>have:=(d.d11 rfl).2;simp[hc]at this
   subst z;have H:b9=false:=by simpa using hc
   subst H;have N:s5=undef:=d.f9;subst N;go_simp;have m:Kept [] W (W.alloc (gI #[.nilFunc] 150)):=(Kept.refl _ _).alloc _;have J:=d.go m;have G:∀e,e < W.heap.size->XX (iC W.heap.size) s6 e->XX undef s6 e:=λe he j=>by
    rcases j with j|j
    .simp at j<;>omega
    .exact .inr j
   refine h _ _ ?_
   iterate 24 apply Exists.intro
   refine⟨rfl,rfl,?_⟩;exact⟨J.k,J.f0,(λq=>((d.f1 q).other G).kept m),J.f2,J.f3,J.f4,J.f5,J.f6,(λq=>((d.f7 q).other G).kept m),(λq=>((d.f8 q).other G).kept m),⟨_,rfl,d.k.size,fY W _⟩,J.f10,(λ_ q=>by subst q;have⟨k,e1,h1,h3⟩:=d.f10;grind),(λq=>by simp at q),J.d12⟩
  .refine kP rfl ?_;intro B h;have z:b12=false:=by
    cases b12 with
    |false=>rfl
    |true=>have:=(d.d12 rfl).2;simp[hc]at this
   subst z;have H:b10=false:=by simpa using hc
   subst H;have N:s6=undef:=d.f10;subst N;go_simp;have m:Kept [] W (W.alloc (gI #[.nilFunc] 150)):=(Kept.refl _ _).alloc _;have J:=d.go m;have G:∀e,e < W.heap.size->XX s5 (iC W.heap.size) e->XX s5 undef e:=λe he j=>by
    rcases j with j|j
    .exact .inl j
    grind
   refine h _ _ ?_
   iterate 24 apply Exists.intro
   refine⟨rfl,rfl,?_⟩;exact⟨J.k,J.f0,(λq=>((d.f1 q).other G).kept m),J.f2,J.f3,J.f4,J.f5,J.f6,(λq=>((d.f7 q).other G).kept m),(λq=>((d.f8 q).other G).kept m),J.f9,⟨_,rfl,d.k.size,fY W _⟩,(λq _=>by subst q;have⟨k,e1,h1,h3⟩:=d.f9;grind),J.d11,(λq=>by simp at q)⟩
  .refine kP rfl ?_;intro B h;have z:b11=false:=by simp[hc]
   subst z;have H:b9=true:=by simp[hc]
   have K:b1=true:=by simp[hc]
   subst H K;have⟨k,N,h1,h3⟩:=d.f9;subst N;have⟨f,aa,ll,F⟩:=(d.f1 rfl).ask.func;subst F;have c0:W.cell? ⟨k,0,none⟩=some .nilFunc:=(fW h3 0).trans rfl;have c1:=gE h3 0;go_simp;have j:XX (iC k) s6 k:= .inl rfl;refine h _ _ ?_
   iterate 24 apply Exists.intro
   refine⟨rfl,rfl,?_⟩;refine⟨d.k.setCell (p:=⟨k,0,none⟩) (.inr h1) _,d.f0,(λq=>(d.f1 q).set j _),d.f2,d.f3,d.f4,d.f5,λq=>?_,(λq=>(d.f7 q).set j _),(λq=>(d.f8 q).set j _),⟨k,rfl,h1,(gg h3 0 _).trans rfl⟩,?_,d.ne,(λ_=>⟨rfl,rfl⟩),d.d12⟩
   .have⟨g3,e13,h13⟩:=d.f6 q;exact⟨g3,e13,(Below.heap_setCell W ⟨k,0,none⟩ _ g3 (xW h13 h3 (by decide))).trans h13⟩
   .have:=d.f10;split at this
    .rename_i V;have⟨k2,e2,h4,h5⟩:=this;rw[gF V];refine⟨k2,e2,h4,(Below.heap_setCell W ⟨k,0,none⟩ _ k2 (λq=>?_)).trans h5⟩;subst q;exact d.ne rfl V e2.symm
    grind
  .refine kP rfl ?_;intro B h;have z:b12=false:=by simp[hc]
   subst z;have H:b10=true:=by simp[hc]
   have K:b8=true:=by simp[hc]
   subst H K;have⟨k,N,h1,h3⟩:=d.f10;subst N;have⟨f,aa,ll,F⟩:=(d.f8 rfl).ask.func;subst F;have c0:W.cell? ⟨k,0,none⟩=some .nilFunc:=(fW h3 0).trans rfl;have c1:=gE h3 0;go_simp;have j:XX s5 (iC k) k:= .inr rfl;refine h _ _ ?_
   iterate 24 apply Exists.intro
   refine⟨rfl,rfl,?_⟩;refine⟨d.k.setCell (p:=⟨k,0,none⟩) (.inr h1) _,d.f0,(λq=>(d.f1 q).set j _),d.f2,d.f3,d.f4,d.f5,λq=>?_,(λq=>(d.f7 q).set j _),(λq=>(d.f8 q).set j _),?_,⟨k,rfl,h1,(gg h3 0 _).trans rfl⟩,d.ne,d.d11,(λ_=>⟨rfl,rfl⟩)⟩
   .have⟨g3,e13,h13⟩:=d.f6 q;exact⟨g3,e13,(Below.heap_setCell W ⟨k,0,none⟩ _ g3 (xW h13 h3 (by decide))).trans h13⟩
   .have:=d.f9;split at this
    .rename_i V;have⟨k2,e2,h4,h5⟩:=this;rw[gF V];refine⟨k2,e2,h4,(Below.heap_setCell W ⟨k,0,none⟩ _ k2 (λq=>?_)).trans h5⟩;subst q;exact d.ne V rfl e2
    grind
 .rintro l a W ⟨b0,b1,b2,b3,b4,b5,b6,b7,b8,b9,b10,b11,b12,s5,s6,s7,s8,s9,s10,s11,s12,s13,s14,s15,rfl,rfl,d⟩ A;simp only[Region.ready,U7,Ku]at A;have q0:=A 0 (by decide);simp[Region.binds]at q0;subst q0;have q1:=A 1 (by decide);simp[Region.binds]at q1;subst q1;have q2:=A 2 (by decide);simp[Region.binds]at q2;subst q2;have q3:=A 3 (by decide);simp[Region.binds]at q3;subst q3;have q4:=A 4 (by decide);simp[Region.binds]at q4;subst q4;have q5:=A 5 (by decide);simp[Region.binds]at q5;subst q5;have q6:=A 6 (by decide);simp[Region.binds]at q6;subst q6;have q7:=A 7 (by decide);simp[Region.binds]at q7;subst q7;have q8:=A 8 (by decide);simp[Region.binds]at q8;subst q8;have q9:=A 9 (by decide);simp[Region.binds]at q9;subst q9;have Y:=A 10 (by decide);simp[Region.binds]at Y;subst Y;have Z:=A 11 (by decide);simp[Region.binds]at Z;subst Z;have a0:=A 12 (by decide);simp[Region.binds]at a0;subst a0;have⟨k5,e5,h5,X5⟩:=d.f9;have⟨k6,e6,h6,X6⟩:=d.f10;subst e5 e6;have A1:=(d.f1 rfl).ask;have A2:=(d.f8 rfl).ask;have a2:=HK.trans d.k;have G2:=d.k.at HG (by simp);rename_i KK a8;refine a8 _ _ ?_;go_wp2;go_ret;exact⟨⟨_,rfl,_,_,_,_,_,rfl,G2,X5,A1,X6,A2⟩,a2⟩
 .decide
 .exact⟨false,false,false,false,false,false,false,false,false,false,false,false,false,undef,undef,undef,undef,undef,undef,undef,undef,undef,undef,undef,rfl,rfl,(Kept.refl _ _).drew,by simp,by simp,by simp,by simp,by simp,by simp,by simp,by simp,by simp,rfl,rfl,by simp,by simp,by simp⟩
def BS (bm bB:Nat) (w:gv):Prop:=bB < w.heap.size/\∃u,w.cell? ⟨bB,184,none⟩=some u/\Ask bm u lc w
def BS.il (h:BS bm bB w) (d:Kept [] w w'):BS bm bB w':=by
 have⟨h1,u,hu,hA⟩:=h;exact⟨lV h1 d.size,u,(d.cell (p:=⟨bB,184,none⟩) h1 (by simp)).trans hu,hA.fr (.gX d)⟩
def Dc.top (s:Dc bm bB bD w cw rs ((b,R)::ms)):IsMap bm bB bD b R (.map (some b)) cw/\w.heap.size<=b/\b≠bm:=s.Er (b,R) (by simp)
def Dc.slice (s:Dc bm bB bD w cw rs ms) (h:List gy) (d:jM) (j:(h.map Value.string).toArray=d):∃W g,W=cw.alloc (gI d 9)/\g=cw.heap.size/\W.heap[g]?=some (gI (h.map Value.string).toArray 9)/\Dc bm bB bD w W rs ms:=
 ⟨_,_,rfl,rfl,by rw[j];exact fY cw _,s.Ae ((Kept.refl _ _).alloc _)⟩
def QU (s:Dc bm bB bD w cw rs ms) (h:BS bm bB w) (g d:Nat) (ks:List gy) (l:cw.heap[g]?=some (gI (ks.map Value.string).toArray 9)) (j:ks.length<=4096):
  Calls prog 179 #[iC bB,oY g ks.length d] cw (zw bm bB bD (.item ks) cw):=by
 have⟨h1,u,hu,hA⟩:=h.il s.k;exact abP bm bB bD g d ks u cw h1 hu hA l j
def mc:List (List gy×Ru):=[([gV],(.ie 189)),([iG],(.ie 188)),([Gz,AP],(.ie 187)),([tq],(.ie 186)),([j3,tm,jE],(.ie 185)),([iX],(.ie 184)),([gN,gm],(.ie 183)),([jF],(.ie 182)),([fZ],(.ie 181)),([hH],(.ie 180)),([lB,lC],(.item [lB,lC])),([kM],(.item [kM])),([iL],(.ie 178)),([uj],(.ie 177)),([mf,mg],(.ie 176)),([mL],(.ie 175)),([jS,oy,qI,nc],(.ie 174)),([gS,gw,io,gh,gp,iy,gq,iA,gr,ic],.nothing),([jh,jq,iQ],(.pq 3)),([gA],(.ie 173)),([fX],(.ie 172))]
def DW (bm bB bD:Nat) (w:gv) (aa:BS bm bB w) (ht:xR w) (a9:bm < w.heap.size):
  Calls prog 103 #[iC bB] w (ON bm bB bD mc w):=by
 have l:=aa;have ay:=@run_makeMap prog;have Z:=Dc.start bm bB bD w ht a9;go_enter func103,ntmps103;have⟨W1,b1,hW1,hb1,HS1⟩:=Z.map;have a8:=fU hW1;have V:=fU hb1;clear hW1 hb1
 go_wp21
 rw[<-a8.out,<-V.out];refine(HS1.nF _ [fX] (.ie 172) (by rfl) (by rfl) rfl).mono ?_;rintro e W2 ⟨rfl,a0⟩
 go_wp21
 refine(a0.nF _ [gA] (.ie 173) (by rfl) (by rfl) rfl).mono ?_;rintro e W3 ⟨rfl,a1⟩
 go_wp21
 refine(a1.made (py bm bB bD 3 _) nofun).mono ?_;rintro e W4 ⟨f4,a4,l4,rfl,O⟩
 go_wp21
 refine(O.nF _ [jh,jq,iQ] (.pq 3) (by rfl) (by rfl) (O.at (by simp))).mono ?_;rintro e W5 ⟨rfl,a2⟩
 go_wp21
 refine(a2.nF _ [gS,gw,io,gh,gp,iy,gq,iA,gr,ic] .nothing rfl (by rfl) rfl).mono ?_;rintro e W6 ⟨rfl,a3⟩
 go_wp21
 refine(a3.nF _ [jS,oy,qI,nc] (.ie 174) (by rfl) (by rfl) rfl).mono ?_;rintro e W7 ⟨rfl,a5⟩
 go_wp21
 refine(a5.nF _ [mL] (.ie 175) (by rfl) (by rfl) rfl).mono ?_;rintro e W8 ⟨rfl,a6⟩
 go_wp21
 refine(a6.nF _ [mf,mg] (.ie 176) (by rfl) (by rfl) rfl).mono ?_;rintro e W9 ⟨rfl,a7⟩
 go_wp21
 refine(a7.nF _ [uj] (.ie 177) (by rfl) (by rfl) rfl).mono ?_;rintro e ab ⟨rfl,m⟩
 go_wp21
 refine(m.nF _ [iL] (.ie 178) (by rfl) (by rfl) rfl).mono ?_;rintro e ac ⟨rfl,q⟩;have⟨W12,g1,hW12,hg1,HSL1,HS12⟩:=q.slice [kM] #[gH kM] rfl;have S:=fU hW12;have W:=fU hg1;clear hW12 hg1
 go_wp21
 rw[<-S.out,<-W.out];refine(HS12.made (QU HS12 l g1 1 [kM] HSL1 (by decide)) nofun).mono ?_;rintro e ad ⟨aw,ar,az,rfl,h⟩
 go_wp21
 refine(h.nF _ [kM] (.item [kM]) (by rfl) (by rfl) (h.at (by simp))).mono ?_;rintro e ae ⟨rfl,z⟩;have⟨W15,g2,hW15,hg2,HSL2,HS15⟩:=z.slice [lB,lC] #[gH lB,gH lC] rfl;have U:=fU hW15;have Y:=fU hg2;clear hW15 hg2
 go_wp21
 rw[<-U.out,<-Y.out];refine(HS15.made (QU HS15 l g2 2 [lB,lC] HSL2 (by decide)) nofun).mono ?_;rintro e af ⟨ax,au,aA,rfl,j⟩
 go_wp21
 refine(j.nF _ [lB,lC] (.item [lB,lC]) (by rfl) (by rfl) (j.at (by simp))).mono ?_;rintro e ag ⟨rfl,A⟩
 go_wp21
 refine(A.nF _ [hH] (.ie 180) (by rfl) (by rfl) rfl).mono ?_;rintro e ah ⟨rfl,B⟩
 go_wp21
 refine(B.nF _ [fZ] (.ie 181) (by rfl) (by rfl) rfl).mono ?_;rintro e ai ⟨rfl,D⟩
 go_wp21
 refine(D.nF _ [jF] (.ie 182) (by rfl) (by rfl) rfl).mono ?_;rintro e aj ⟨rfl,F⟩
 go_wp21
 refine(F.nF _ [gN,gm] (.ie 183) (by rfl) (by rfl) rfl).mono ?_;rintro e ak ⟨rfl,G⟩
 go_wp21
 refine(G.nF _ [iX] (.ie 184) (by rfl) (by rfl) rfl).mono ?_;rintro e al ⟨rfl,H⟩
 go_wp21
 refine(H.nF _ [j3,tm,jE] (.ie 185) (by rfl) (by rfl) rfl).mono ?_;rintro e am ⟨rfl,I⟩
 go_wp21
 refine(I.nF _ [tq] (.ie 186) (by rfl) (by rfl) rfl).mono ?_;rintro e an ⟨rfl,J⟩
 go_wp21
 refine(J.nF _ [Gz,AP] (.ie 187) (by rfl) (by rfl) rfl).mono ?_;rintro e ao ⟨rfl,K⟩
 go_wp21
 refine(K.nF _ [iG] (.ie 188) (by rfl) (by rfl) rfl).mono ?_;rintro e ap ⟨rfl,N⟩
 go_wp21
 refine(N.nF _ [gV] (.ie 189) (by rfl) (by rfl) rfl).mono ?_;rintro e aq ⟨rfl,d⟩;go_wp2;go_ret;exact⟨b1,rfl,d.top.1,d.top.2.1,d.top.2.2,d.k⟩
def kF:my:={ke:= .ie 102,gR:= .gR 87 true,start:=some mc,stop:=some lZ,jV:= .ie 104,kx:= .ie 106,iE:= .nothing}
def Zu (bm bB bD:Nat) (w:gv) (O:BS bm bB w) (S:xR w) (B:bm < w.heap.size):
  Calls prog 56 #[iC bB] w (jQ bm bB bD kF w):=by
 have⟨W0,hW0,HS0⟩:=St.start bm bB bD w S B;have I:=O;have q:=fU hW0;clear hW0;go_enter func56,ntmps56
 go_wp21
 rw[<-q.out];refine(HS0.made (ot bm bB bD 87 true _) nofun).mono ?_;rintro e V ⟨N,K,U,rfl,h⟩
 go_wp21
 refine(DW bm bB bD _ (I.il h.k) h.t (lV h.lt h.k.size)).mono ?_;rintro e W ⟨b1,rfl,G,z,l,D⟩;have j:=h.mapOf D G z l
 go_wp21
 refine(GG bm bB bD _ j.t (lV j.lt j.k.size)).mono ?_;rintro e Y ⟨b2,rfl,H,A,m,F⟩;have d:=j.mapOf F H A m;have J:=jA (sp:=kF) (v0:= .nilFunc) (v1:= .func (.func 102) #[iC bB] #[]) (v2:= .func N K U) (v3:= .nilFunc) (v4:= .nilFunc) (v5:= .map (some b1)) (v6:= .map (some b2)) (v7:= .func (.func 104) #[iC bB] #[]) (v8:= .func (.func 106) #[iC bB] #[]) (v9:= .func (.func 79) #[] #[]) d.g d.k ⟨rfl,rfl,(d.at (r:= .gR 87 true) (by simp)),rfl,rfl,(d.oL (by simp)),(d.oL (by simp)),rfl,rfl,rfl⟩ _ rfl;have⟨q0,q1,q2,q3,q4,q5,q6,q7,q8,q9⟩:=kA d.g;have u:=gE d.g;go_wp2;exact kD results56 rfl rfl J
def ln:my:={blank:= .nothing,gR:= .gR 81 false,iM:= .nothing,start:=some [([fX],(.ie 85))],stop:=some [([gS,gA,fX,j3],(.ie 86))],kx:= .nothing,iE:= .ie 86}
def N7 (bm bB bD:Nat) (w:gv) (H:BD bB bD w) (J:xR w) (B:bm < w.heap.size):
  Calls prog 51 #[iC bB] w (jQ bm bB bD ln w):=by
 have I:=@run_makeMap prog;have⟨W0,hW0,HS0⟩:=St.start bm bB bD w J B;have⟨xy,hBl⟩:=H;have q:=fU hW0;clear hW0;go_enter func51,ntmps51
 go_wp21
 rw[<-q.out];refine(HS0.made (ot bm bB bD 81 false _) nofun).mono ?_;rintro e N ⟨G,F,K,rfl,l⟩;have⟨W2,b1,hW2,hb1,HS2⟩:=l.map;have z:=fU hW2;have h:=fU hb1;clear hW2 hb1
 go_wp21
 rw[<-z.out,<-h.out];refine(HS2.nF _ [fX] (.ie 85) (by rfl) (by rfl) rfl).mono ?_;rintro e O ⟨rfl,m⟩;have⟨W4,b2,hW4,hb2,HS4⟩:=m.map;have A:=fU hW4;have j:=fU hb2;clear hW4 hb2
 go_wp21
 rw[<-A.out,<-j.out];refine(HS4.nF _ [gS,gA,fX,j3] (.ie 86) (by rfl) (by rfl) rfl).mono ?_;rintro e S ⟨rfl,d⟩;have D:=jA (sp:=ln) (v0:= .func (.func 79) #[] #[]) (v1:= .nilFunc) (v2:= .func G F K) (v3:= .func (.func 79) #[] #[]) (v4:= .nilFunc) (v5:= .map (some b1)) (v6:= .map (some b2)) (v7:= .nilFunc) (v8:= .func (.func 79) #[] #[]) (v9:= .func (.func 86) #[iC bB] #[]) d.g d.k ⟨rfl,rfl,(d.at (r:= .gR 81 false) (by simp)),rfl,rfl,(d.oL (by simp)),(d.oL (by simp)),rfl,rfl,rfl⟩ _ rfl;have⟨q0,q1,q2,q3,q4,q5,q6,q7,q8,q9⟩:=kA d.g;have u:=gE d.g;go_wp2;exact kD results51 rfl rfl D
def lr:my:={blank:= .nothing,gR:= .gR 87 true,iM:= .nothing,start:=some [([gS],(.ie 89)),([fX],(.pq 6))],stop:=some [([gS,gA,fX,j3],(.ie 90))],kx:= .nothing,iE:= .ie 90}
def N8 (bm bB bD:Nat) (w:gv) (J:BD bB bD w) (N:xR w) (F:bm < w.heap.size):
  Calls prog 52 #[iC bB] w (jQ bm bB bD lr w):=by
 have K:=@run_makeMap prog;have⟨W0,hW0,HS0⟩:=St.start bm bB bD w N F;have⟨xy,hBl⟩:=J;have A:=fU hW0;clear hW0;go_enter func52,ntmps52
 go_wp21
 rw[<-A.out];refine(HS0.made (ot bm bB bD 87 true _) nofun).mono ?_;rintro e S ⟨I,H,O,rfl,m⟩;have⟨W2,b1,hW2,hb1,HS2⟩:=m.map;have B:=fU hW2;have j:=fU hb1;clear hW2 hb1
 go_wp21
 rw[<-B.out,<-j.out];refine(HS2.made (py bm bB bD 6 _) nofun).mono ?_;rintro e U ⟨Z,Y,l3,rfl,h⟩
 go_wp21
 refine(h.nF _ [fX] (.pq 6) (by rfl) (by rfl) (h.at (by simp))).mono ?_;rintro e W4 ⟨rfl,q⟩
 go_wp21
 refine(q.nF _ [gS] (.ie 89) (by rfl) (by rfl) rfl).mono ?_;rintro e V ⟨rfl,z⟩;have⟨W6,b2,hW6,hb2,HS6⟩:=z.map;have D:=fU hW6;have l:=fU hb2;clear hW6 hb2
 go_wp21
 rw[<-D.out,<-l.out];refine(HS6.nF _ [gS,gA,fX,j3] (.ie 90) (by rfl) (by rfl) rfl).mono ?_;rintro e W ⟨rfl,d⟩;have G:=jA (sp:=lr) (v0:= .func (.func 79) #[] #[]) (v1:= .nilFunc) (v2:= .func I H O) (v3:= .func (.func 79) #[] #[]) (v4:= .nilFunc) (v5:= .map (some b1)) (v6:= .map (some b2)) (v7:= .nilFunc) (v8:= .func (.func 79) #[] #[]) (v9:= .func (.func 90) #[iC bB] #[]) d.g d.k ⟨rfl,rfl,(d.at (r:= .gR 87 true) (by simp)),rfl,rfl,(d.oL (by simp)),(d.oL (by simp)),rfl,rfl,rfl⟩ _ rfl;have⟨q0,q1,q2,q3,q4,q5,q6,q7,q8,q9⟩:=kA d.g;have u:=gE d.g;go_wp2;exact kD results52 rfl rfl G
def lF:my:={blank:= .ie 91,gR:= .gR 87 true,iM:= .nothing,start:=some [([iQ],(.ie 94)),([jq],(.ie 93)),([jh],(.ie 92)),([fX],(.pq 6)),([gS],.nothing)],stop:=some [([gA,fX,j3],(.ie 96)),([gS],(.ie 95))],kx:= .nothing,iE:= .ie 96}
def Zw (bm bB bD:Nat) (w:gv) (V:BD bB bD w) (Y:xR w) (J:bm < w.heap.size):
  Calls prog 53 #[iC bB] w (jQ bm bB bD lF w):=by
 have W:=@run_makeMap prog;have⟨W0,hW0,HS0⟩:=St.start bm bB bD w Y J;have⟨xy,hBl⟩:=V;have G:=fU hW0;clear hW0;go_enter func53,ntmps53
 go_wp21
 rw[<-G.out];refine(HS0.made (ot bm bB bD 87 true _) nofun).mono ?_;rintro e W1 ⟨U,S,Z,rfl,q⟩;have⟨W2,b1,hW2,hb1,HS2⟩:=q.map;have H:=fU hW2;have l:=fU hb1;clear hW2 hb1
 go_wp21
 rw[<-H.out,<-l.out];refine(HS2.nF _ [gS] .nothing (by rfl) (by rfl) rfl).mono ?_;rintro e W3 ⟨rfl,z⟩
 go_wp21
 refine(z.made (py bm bB bD 6 _) nofun).mono ?_;rintro e W4 ⟨f4,a4,l4,rfl,j⟩
 go_wp21
 refine(j.nF _ [fX] (.pq 6) (by rfl) (by rfl) (j.at (by simp))).mono ?_;rintro e W5 ⟨rfl,A⟩
 go_wp21
 refine(A.nF _ [jh] (.ie 92) (by rfl) (by rfl) rfl).mono ?_;rintro e W6 ⟨rfl,B⟩
 go_wp21
 refine(B.nF _ [jq] (.ie 93) (by rfl) (by rfl) rfl).mono ?_;rintro e W7 ⟨rfl,D⟩
 go_wp21
 refine(D.nF _ [iQ] (.ie 94) (by rfl) (by rfl) rfl).mono ?_;rintro e W8 ⟨rfl,F⟩;have⟨W9,b2,hW9,hb2,HS9⟩:=F.map;have I:=fU hW9;have m:=fU hb2;clear hW9 hb2
 go_wp21
 rw[<-I.out,<-m.out];refine(HS9.nF _ [gS] (.ie 95) (by rfl) (by rfl) rfl).mono ?_;rintro e N ⟨rfl,h⟩
 go_wp21
 refine(h.nF _ [gA,fX,j3] (.ie 96) (by rfl) (by rfl) rfl).mono ?_;rintro e O ⟨rfl,d⟩;have K:=jA (sp:=lF) (v0:= .func (.func 91) #[iC bB] #[]) (v1:= .nilFunc) (v2:= .func U S Z) (v3:= .func (.func 79) #[] #[]) (v4:= .nilFunc) (v5:= .map (some b1)) (v6:= .map (some b2)) (v7:= .nilFunc) (v8:= .func (.func 79) #[] #[]) (v9:= .func (.func 96) #[iC bB] #[]) d.g d.k ⟨rfl,rfl,(d.at (r:= .gR 87 true) (by simp)),rfl,rfl,(d.oL (by simp)),(d.oL (by simp)),rfl,rfl,rfl⟩ _ rfl;have⟨q0,q1,q2,q3,q4,q5,q6,q7,q8,q9⟩:=kA d.g;have u:=gE d.g;go_wp2;exact kD results53 rfl rfl K
def mq:my:={blank:= .ie 91,gR:= .gR 87 true,iM:= .nothing,start:=some [([jh,jq,iQ],(.ie 98)),([gA],(.ie 97)),([fX],(.pq 6)),([gS],.nothing)],stop:=some [([gA,fX,j3],(.ie 99))],kx:= .nothing,iE:= .ie 99}
def QE (bm bB bD:Nat) (w:gv) (N:BD bB bD w) (S:xR w) (H:bm < w.heap.size):
  Calls prog 54 #[iC bB] w (jQ bm bB bD mq w):=by
 have O:=@run_makeMap prog;have⟨W0,hW0,HS0⟩:=St.start bm bB bD w S H;have⟨xy,hBl⟩:=N;have D:=fU hW0;clear hW0;go_enter func54,ntmps54
 go_wp21
 rw[<-D.out];refine(HS0.made (ot bm bB bD 87 true _) nofun).mono ?_;rintro e V ⟨K,J,U,rfl,m⟩;have⟨W2,b1,hW2,hb1,HS2⟩:=m.map;have F:=fU hW2;have j:=fU hb1;clear hW2 hb1
 go_wp21
 rw[<-F.out,<-j.out];refine(HS2.nF _ [gS] .nothing (by rfl) (by rfl) rfl).mono ?_;rintro e W ⟨rfl,q⟩
 go_wp21
 refine(q.made (py bm bB bD 6 _) nofun).mono ?_;rintro e W4 ⟨f4,a4,l4,rfl,h⟩
 go_wp21
 refine(h.nF _ [fX] (.pq 6) (by rfl) (by rfl) (h.at (by simp))).mono ?_;rintro e Y ⟨rfl,z⟩
 go_wp21
 refine(z.nF _ [gA] (.ie 97) (by rfl) (by rfl) rfl).mono ?_;rintro e Z ⟨rfl,A⟩
 go_wp21
 refine(A.nF _ [jh,jq,iQ] (.ie 98) (by rfl) (by rfl) rfl).mono ?_;rintro e W7 ⟨rfl,B⟩;have⟨W8,b2,hW8,hb2,HS8⟩:=B.map;have G:=fU hW8;have l:=fU hb2;clear hW8 hb2
 go_wp21
 rw[<-G.out,<-l.out];refine(HS8.nF _ [gA,fX,j3] (.ie 99) (by rfl) (by rfl) rfl).mono ?_;rintro e W9 ⟨rfl,d⟩;have I:=jA (sp:=mq) (v0:= .func (.func 91) #[iC bB] #[]) (v1:= .nilFunc) (v2:= .func K J U) (v3:= .func (.func 79) #[] #[]) (v4:= .nilFunc) (v5:= .map (some b1)) (v6:= .map (some b2)) (v7:= .nilFunc) (v8:= .func (.func 79) #[] #[]) (v9:= .func (.func 99) #[iC bB] #[]) d.g d.k ⟨rfl,rfl,(d.at (r:= .gR 87 true) (by simp)),rfl,rfl,(d.oL (by simp)),(d.oL (by simp)),rfl,rfl,rfl⟩ _ rfl;have⟨q0,q1,q2,q3,q4,q5,q6,q7,q8,q9⟩:=kA d.g;have u:=gE d.g;go_wp2;exact kD results54 rfl rfl I
def qZ:my:={ke:= .ie 91,im:= .ie 100,iE:= .ie 101}
def Zx (bm bB bD:Nat) (w:gv) (h:BD bB bD w) (l:xR w) (d:bm < w.heap.size):
  Calls prog 55 #[iC bB] w (jQ bm bB bD qZ w):=by
 have j:=@run_makeMap prog;have⟨W0,HW0,HS0⟩:=St.start bm bB bD w l d;have⟨xy,hBl⟩:=h;go_enter func55,ntmps55;go_wp2;exact kD results55 rfl rfl ⟨fY w _,⟨rfl,rfl,rfl,rfl,rfl,rfl,rfl,rfl,rfl,rfl⟩,(Kept.refl _ _).alloc _⟩
def kT:my:={ke:= .ie 118,iE:= .ie 119}
def Lo (bm bB bD:Nat) (w:gv) (h:BD bB bD w) (l:xR w) (d:bm < w.heap.size):
  Calls prog 58 #[iC bB] w (jQ bm bB bD kT w):=by
 have j:=@run_makeMap prog;have⟨W0,HW0,HS0⟩:=St.start bm bB bD w l d;have⟨xy,hBl⟩:=h;go_enter func58,ntmps58;go_wp2;exact kD results58 rfl rfl ⟨fY w _,⟨rfl,rfl,rfl,rfl,rfl,rfl,rfl,rfl,rfl,rfl⟩,(Kept.refl _ _).alloc _⟩
def zh:my:={start:=some [([gw,io,gh,gp,iy,gq,iA,gr,ic],(.ahead 120))],stop:=some [([gA,io,gh,fX,gp,iy,gq,iA,gr,ic],.nothing),([fZ],(.ahead 120)),([gw],(.ends 120))],iE:= .pq 6}
def QF (bm bB bD:Nat) (w:gv) (U:BD bB bD w) (W:xR w) (K:bm < w.heap.size):
  Calls prog 59 #[iC bB] w (jQ bm bB bD zh w):=by
 have V:=@run_makeMap prog;have⟨W0,hW0,HS0⟩:=St.start bm bB bD w W K;have⟨xy,hBl⟩:=U;have m:=fU hW0;clear hW0;go_enter func59,ntmps59;have⟨W1,b1,hW1,hb1,HS1⟩:=HS0.map;have G:=fU hW1;have q:=fU hb1;clear hW1 hb1
 go_wp21
 rw[<-m.out];rw[<-G.out,show w.heap.size+1=b1 by rw[q.out,m.out];simp];refine(HS1.made (oh bm bB bD 120 _) nofun).mono ?_;rintro e Y ⟨f2,a2,l2,rfl,h⟩
 go_wp21
 refine(h.nF _ [gw,io,gh,gp,iy,gq,iA,gr,ic] (.ahead 120) rfl (by rfl) (h.at (by simp))).mono ?_;rintro e Z ⟨rfl,A⟩;have⟨W4,b2,hW4,hb2,HS4⟩:=A.map;have H:=fU hW4;have z:=fU hb2;clear hW4 hb2
 go_wp21
 rw[<-H.out,<-z.out];refine(HS4.made (xl bm bB bD 120 _) nofun).mono ?_;rintro e W5 ⟨f5,a5,l5,rfl,j⟩
 go_wp21
 refine(j.nF _ [gw] (.ends 120) (by rfl) (by rfl) (j.at (by simp))).mono ?_;rintro e W6 ⟨rfl,B⟩
 go_wp21
 refine(B.made (oh bm bB bD 120 _) nofun).mono ?_;rintro e W7 ⟨f7,a7,l7,rfl,l⟩
 go_wp21
 refine(l.nF _ [fZ] (.ahead 120) (by rfl) (by rfl) (l.at (by simp))).mono ?_;rintro e W8 ⟨rfl,D⟩
 go_wp21
 refine(D.nF _ [gA,io,gh,fX,gp,iy,gq,iA,gr,ic] .nothing rfl (by rfl) rfl).mono ?_;rintro e W9 ⟨rfl,F⟩
 go_wp21
 refine(F.made (py bm bB bD 6 _) nofun).mono ?_;rintro e S ⟨J,I,N,rfl,d⟩;have O:=jA (sp:=zh) (v0:= .nilFunc) (v1:= .nilFunc) (v2:= .nilFunc) (v3:= .nilFunc) (v4:= .nilFunc) (v5:= .map (some b1)) (v6:= .map (some b2)) (v7:= .nilFunc) (v8:= .nilFunc) (v9:= .func J I N) d.g d.k ⟨rfl,rfl,rfl,rfl,rfl,(d.oL (by simp)),(d.oL (by simp)),rfl,rfl,(d.at (r:= .pq 6) (by simp))⟩ _ rfl;have⟨q0,q1,q2,q3,q4,q5,q6,q7,q8,q9⟩:=kA d.g;have u:=gE d.g;go_wp2;exact kD results59 rfl rfl O
def Cz:my:={ke:= .ie 107,gR:= .gR 87 true,iM:= .nothing,start:=some [([jE],(.ie 115)),([iL],(.ie 114)),([iQ],(.pq 3)),([fZ],(.ahead 113)),([iy,iA,ic],(.nJ [fZ] gp 11)),([gp,gq,gr],(.rG [fZ] 11)),([io],(.nJ [fZ] gh 10)),([gh],(.rG [fZ] 10)),([gw],(.ie 108))],stop:=some [([gA,gw,io,gh,fX,gp,iy,gq,iA,gr,ic],.nothing),([fZ],(.ends 113))],iE:= .ie 117}
def WF (bm bB bD:Nat) (w:gv) (hb:BD bB bD w) (ht:xR w) (ad:bm < w.heap.size):
  Calls prog 57 #[iC bB] w (jQ bm bB bD Cz w):=by
 have aK:=@run_makeMap prog;have⟨W0,hW0,HS0⟩:=St.start bm bB bD w ht ad;have⟨xy,hBl⟩:=hb;have ab:=fU hW0;clear hW0;go_enter func57,ntmps57
 go_wp21
 rw[<-ab.out];refine(HS0.made (ot bm bB bD 87 true _) nofun).mono ?_;rintro e W1 ⟨f1,a1,l1,rfl,a0⟩;have⟨W2,b1,hW2,hb1,HS2⟩:=a0.map;have ac:=fU hW2;have Y:=fU hb1;clear hW2 hb1
 go_wp21
 rw[<-ac.out,<-Y.out];refine(HS2.nF _ [gw] (.ie 108) (by rfl) (by rfl) rfl).mono ?_;rintro e W3 ⟨rfl,a2⟩
 go_wp21
 refine(a2.Vx (Be bm _)).mono ?_;rintro e W4 ⟨f4,a4,l4,rfl,V,a3⟩
 go_wp21
 refine(a3.made (Bb bm bB bD [fZ] 10 _ _ V) nofun).mono ?_;rintro e W5 ⟨f5,a5,l5,rfl,O⟩
 go_wp21
 refine(O.nF _ [gh] (.rG [fZ] 10) (by rfl) (by rfl) (O.at (by simp))).mono ?_;rintro e W6 ⟨rfl,a6⟩
 go_wp21
 refine(a6.Vx (Be bm _)).mono ?_;rintro e W7 ⟨f7,a7,l7,rfl,W,a9⟩
 go_wp21
 refine(a9.made (Cw bm bB bD [fZ] gh 10 _ _ W) nofun).mono ?_;rintro e W8 ⟨f8,a8,l8,rfl,S⟩
 go_wp21
 refine(S.nF _ [io] (.nJ [fZ] gh 10) (by rfl) (by rfl) (S.at (by simp))).mono ?_;rintro e W9 ⟨rfl,aa⟩
 go_wp21
 refine(aa.Vx (Be bm _)).mono ?_;rintro e ae ⟨aD,aw,aL,rfl,z,B⟩
 go_wp21
 refine(B.made (Bb bm bB bD [fZ] 11 _ _ z) nofun).mono ?_;rintro e af ⟨aE,ax,aM,rfl,h⟩
 go_wp21
 refine(h.nF _ [gp,gq,gr] (.rG [fZ] 11) (by rfl) (by rfl) (h.at (by simp))).mono ?_;rintro e ag ⟨rfl,D⟩
 go_wp21
 refine(D.Vx (Be bm _)).mono ?_;rintro e ah ⟨aF,ay,aN,rfl,A,F⟩
 go_wp21
 refine(F.made (Cw bm bB bD [fZ] gp 11 _ _ A) nofun).mono ?_;rintro e ai ⟨aG,az,aO,rfl,j⟩
 go_wp21
 refine(j.nF _ [iy,iA,ic] (.nJ [fZ] gp 11) (by rfl) (by rfl) (j.at (by simp))).mono ?_;rintro e aj ⟨rfl,G⟩
 go_wp21
 refine(G.made (oh bm bB bD 113 _) nofun).mono ?_;rintro e ak ⟨aH,aA,aP,rfl,l⟩
 go_wp21
 refine(l.nF _ [fZ] (.ahead 113) (by rfl) (by rfl) (l.at (by simp))).mono ?_;rintro e al ⟨rfl,H⟩
 go_wp21
 refine(H.made (py bm bB bD 3 _) nofun).mono ?_;rintro e am ⟨aI,aB,aQ,rfl,m⟩
 go_wp21
 refine(m.nF _ [iQ] (.pq 3) (by rfl) (by rfl) (m.at (by simp))).mono ?_;rintro e an ⟨rfl,I⟩
 go_wp21
 refine(I.nF _ [iL] (.ie 114) (by rfl) (by rfl) rfl).mono ?_;rintro e ao ⟨rfl,J⟩
 go_wp21
 refine(J.nF _ [jE] (.ie 115) (by rfl) (by rfl) rfl).mono ?_;rintro e ap ⟨rfl,K⟩;have⟨W22,b2,hW22,hb2,HS22⟩:=K.map;have U:=fU hW22;have Z:=fU hb2;clear hW22 hb2
 go_wp21
 rw[<-U.out,<-Z.out];refine(HS22.made (xl bm bB bD 113 _) nofun).mono ?_;rintro e aq ⟨aJ,aC,aR,rfl,q⟩
 go_wp21
 refine(q.nF _ [fZ] (.ends 113) (by rfl) (by rfl) (q.at (by simp))).mono ?_;rintro e ar ⟨rfl,N⟩
 go_wp21
 refine(N.nF _ [gA,gw,io,gh,fX,gp,iy,gq,iA,gr,ic] .nothing rfl rfl rfl).mono ?_;rintro e au ⟨rfl,d⟩;have HF:=jA (sp:=Cz) (v0:= .nilFunc) (v1:= .func (.func 107) #[iC bB] #[]) (v2:= .func f1 a1 l1) (v3:= .func (.func 79) #[] #[]) (v4:= .nilFunc) (v5:= .map (some b1)) (v6:= .map (some b2)) (v7:= .nilFunc) (v8:= .nilFunc) (v9:= .func (.func 117) #[iC bB] #[]) d.g d.k ⟨rfl,rfl,(d.at (r:= .gR 87 true) (by simp)),rfl,rfl,(d.oL (by simp)),(d.oL (by simp)),rfl,rfl,rfl⟩ _ rfl;have⟨q0,q1,q2,q3,q4,q5,q6,q7,q8,q9⟩:=kA d.g;have u:=gE d.g;go_wp2;exact kD results57 rfl rfl HF
def qY:my:={blank:= .ie 91,gR:= .gR 87 true,iM:= .nothing,im:= .pq 6,start:=some [([io],(.ie 92)),([fX],(.pq 6))],stop:=some [([gh],(.ends 121)),([io],.nothing)],iE:= .ahead 121}
def GH (bm bB bD:Nat) (w:gv) (hb:BD bB bD w) (ht:xR w) (N:bm < w.heap.size):
  Calls prog 60 #[iC bB] w (jQ bm bB bD qY w):=by
 have a0:=@run_makeMap prog;have⟨W0,hW0,HS0⟩:=St.start bm bB bD w ht N;have⟨xy,hBl⟩:=hb;have G:=fU hW0;clear hW0;go_enter func60,ntmps60
 go_wp21
 rw[<-G.out];refine(HS0.made (ot bm bB bD 87 true _) nofun).mono ?_;rintro e W1 ⟨Z,W,l1,rfl,z⟩
 go_wp21
 refine(z.made (py bm bB bD 6 _) nofun).mono ?_;rintro e W2 ⟨f2,Y,l2,rfl,A⟩;have⟨W3,b1,hW3,hb1,HS3⟩:=A.map;have H:=fU hW3;have m:=fU hb1;clear hW3 hb1
 go_wp21
 rw[<-H.out,<-m.out];refine(HS3.made (py bm bB bD 6 _) nofun).mono ?_;rintro e W4 ⟨f4,a4,l4,rfl,j⟩
 go_wp21
 refine(j.nF _ [fX] (.pq 6) (by rfl) (by rfl) (j.at (by simp))).mono ?_;rintro e W5 ⟨rfl,B⟩
 go_wp21
 refine(B.nF _ [io] (.ie 92) (by rfl) (by rfl) rfl).mono ?_;rintro e W6 ⟨rfl,D⟩;have⟨W7,b2,hW7,hb2,HS7⟩:=D.map;have I:=fU hW7;have q:=fU hb2;clear hW7 hb2
 go_wp21
 rw[<-I.out,<-q.out];refine(HS7.nF _ [io] .nothing (by rfl) (by rfl) rfl).mono ?_;rintro e W8 ⟨rfl,F⟩
 go_wp21
 refine(F.made (xl bm bB bD 121 _) nofun).mono ?_;rintro e W9 ⟨f9,a9,l9,rfl,l⟩
 go_wp21
 refine(l.nF _ [gh] (.ends 121) (by rfl) (by rfl) (l.at (by simp))).mono ?_;rintro e U ⟨rfl,h⟩
 go_wp21
 refine(h.made (oh bm bB bD 121 _) nofun).mono ?_;rintro e V ⟨K,J,O,rfl,d⟩;have S:=jA (sp:=qY) (v0:= .func (.func 91) #[iC bB] #[]) (v1:= .nilFunc) (v2:= .func Z W l1) (v3:= .func (.func 79) #[] #[]) (v4:= .func f2 Y l2) (v5:= .map (some b1)) (v6:= .map (some b2)) (v7:= .nilFunc) (v8:= .nilFunc) (v9:= .func K J O) d.g d.k ⟨rfl,rfl,(d.at (r:= .gR 87 true) (by simp)),rfl,(d.at (r:= .pq 6) (by simp)),(d.oL (by simp)),(d.oL (by simp)),rfl,rfl,(d.at (r:= .ahead 121) (by simp))⟩ _ rfl;have⟨q0,q1,q2,q3,q4,q5,q6,q7,q8,q9⟩:=kA d.g;have u:=gE d.g;go_wp2;exact kD results60 rfl rfl S
def oP:my:={start:=some [([gw,io,gh,gp,gq,gr],(.ahead 123)),([iy,iA],(.nJ [gp,gq,gr] ic 12)),([ic],(.rG [gp,gq,gr] 12))],stop:=some [([gA,gw,io,gh,fX,iy,iA,ic],.nothing),([fZ],(.ahead 123)),([gp,gq,gr],(.Nz (.ends 123)))],iE:= .pq 7}
def Ln (bm bB bD:Nat) (w:gv) (hb:BD bB bD w) (ht:xR w) (a0:bm < w.heap.size):
  Calls prog 61 #[iC bB] w (jQ bm bB bD oP w):=by
 have ak:=@run_makeMap prog;have⟨W0,hW0,HS0⟩:=St.start bm bB bD w ht a0;have⟨xy,hBl⟩:=hb;have F:=fU hW0;clear hW0;go_enter func61,ntmps61;have⟨W1,b1,hW1,hb1,HS1⟩:=HS0.map;have W:=fU hW1;have J:=fU hb1;clear hW1 hb1
 go_wp21
 rw[<-F.out];rw[<-W.out,show w.heap.size+1=b1 by rw[J.out,F.out];simp];refine(HS1.Vx (zI bm _)).mono ?_;rintro e W2 ⟨f2,a2,l2,rfl,H,N⟩
 go_wp21
 refine(N.made (Bb bm bB bD [gp,gq,gr] 12 _ _ H) nofun).mono ?_;rintro e W3 ⟨f3,a3,l3,rfl,A⟩
 go_wp21
 refine(A.nF _ [ic] (.rG [gp,gq,gr] 12) (by rfl) (by rfl) (A.at (by simp))).mono ?_;rintro e W4 ⟨rfl,O⟩
 go_wp21
 refine(O.Vx (zI bm _)).mono ?_;rintro e W5 ⟨f5,a5,l5,rfl,I,S⟩
 go_wp21
 refine(S.made (Cw bm bB bD [gp,gq,gr] ic 12 _ _ I) nofun).mono ?_;rintro e W6 ⟨f6,a6,l6,rfl,B⟩
 go_wp21
 refine(B.nF _ [iy,iA] (.nJ [gp,gq,gr] ic 12) (by rfl) (by rfl) (B.at (by simp))).mono ?_;rintro e W7 ⟨rfl,U⟩
 go_wp21
 refine(U.made (oh bm bB bD 123 _) nofun).mono ?_;rintro e W8 ⟨f8,a8,l8,rfl,D⟩
 go_wp21
 refine(D.nF _ [gw,io,gh,gp,gq,gr] (.ahead 123) rfl (by rfl) (D.at (by simp))).mono ?_;rintro e W9 ⟨rfl,V⟩;have⟨W10,b2,hW10,hb2,HS10⟩:=V.map;have G:=fU hW10;have K:=fU hb2;clear hW10 hb2
 go_wp21
 rw[<-G.out,<-K.out];refine(HS10.made (xl bm bB bD 123 _) nofun).mono ?_;rintro e a4 ⟨ah,ae,al,rfl,h⟩
 go_wp21
 refine(h.made (JM bm bB bD (.ends 123) _ _ (by simp) (h.at (by simp))) nofun).mono ?_;rintro e a7 ⟨ai,af,am,rfl,j⟩
 go_wp21
 refine(j.nF _ [gp,gq,gr] (.Nz (.ends 123)) (by rfl) (by rfl) (j.at (by simp))).mono ?_;rintro e a9 ⟨rfl,m⟩
 go_wp21
 refine(m.made (oh bm bB bD 123 _) nofun).mono ?_;rintro e aa ⟨aj,ag,an,rfl,l⟩
 go_wp21
 refine(l.nF _ [fZ] (.ahead 123) (by rfl) (by rfl) (l.at (by simp))).mono ?_;rintro e ab ⟨rfl,q⟩
 go_wp21
 refine(q.nF _ [gA,gw,io,gh,fX,iy,iA,ic] .nothing (by rfl) (by rfl) rfl).mono ?_;rintro e ac ⟨rfl,z⟩
 go_wp21
 refine(z.made (py bm bB bD 7 _) nofun).mono ?_;rintro e ad ⟨Z,Y,a1,rfl,d⟩;have HF:=jA (sp:=oP) (v0:= .nilFunc) (v1:= .nilFunc) (v2:= .nilFunc) (v3:= .nilFunc) (v4:= .nilFunc) (v5:= .map (some b1)) (v6:= .map (some b2)) (v7:= .nilFunc) (v8:= .nilFunc) (v9:= .func Z Y a1) d.g d.k ⟨rfl,rfl,rfl,rfl,rfl,(d.oL (by simp)),(d.oL (by simp)),rfl,rfl,(d.at (r:= .pq 7) (by simp))⟩ _ rfl;have⟨q0,q1,q2,q3,q4,q5,q6,q7,q8,q9⟩:=kA d.g;have u:=gE d.g;go_wp2;exact kD results61 rfl rfl HF
def AA:my:={start:=some [([gw,io,gh,gp,gq,gr,ic],(.ahead 126)),([iy,iA],(.ie 125))],stop:=some [([gA,gw,io,gh,fX,iy,iA],.nothing),([gp,gq,gr],(.Nz (.ahead 126))),([fZ],(.ahead 126)),([ic],(.ends 126))],iE:= .pq 7}
def abL (bm bB bD:Nat) (w:gv) (hb:BD bB bD w) (ht:xR w) (U:bm < w.heap.size):
  Calls prog 62 #[iC bB] w (jQ bm bB bD AA w):=by
 have aa:=@run_makeMap prog;have⟨W0,hW0,HS0⟩:=St.start bm bB bD w ht U;have⟨xy,hBl⟩:=hb;have B:=fU hW0;clear hW0;go_enter func62,ntmps62;have⟨W1,b1,hW1,hb1,HS1⟩:=HS0.map;have K:=fU hW1;have D:=fU hb1;clear hW1 hb1
 go_wp21
 rw[<-B.out];rw[<-K.out,show w.heap.size+1=b1 by rw[D.out,B.out];simp];refine(HS1.nF _ [iy,iA] (.ie 125) (by rfl) (by rfl) rfl).mono ?_;rintro e W2 ⟨rfl,G⟩
 go_wp21
 refine(G.made (oh bm bB bD 126 _) nofun).mono ?_;rintro e W3 ⟨f3,a3,l3,rfl,q⟩
 go_wp21
 refine(q.nF _ [gw,io,gh,gp,gq,gr,ic] (.ahead 126) rfl (by rfl) (q.at (by simp))).mono ?_;rintro e W4 ⟨rfl,H⟩;have⟨W5,b2,hW5,hb2,HS5⟩:=H.map;have N:=fU hW5;have F:=fU hb2;clear hW5 hb2
 go_wp21
 rw[<-N.out,<-F.out];refine(HS5.made (xl bm bB bD 126 _) nofun).mono ?_;rintro e W6 ⟨f6,a6,l6,rfl,z⟩
 go_wp21
 refine(z.nF _ [ic] (.ends 126) (by rfl) (by rfl) (z.at (by simp))).mono ?_;rintro e W7 ⟨rfl,I⟩
 go_wp21
 refine(I.made (oh bm bB bD 126 _) nofun).mono ?_;rintro e W8 ⟨f8,a8,l8,rfl,A⟩
 go_wp21
 refine(A.nF _ [fZ] (.ahead 126) (by rfl) (by rfl) (A.at (by simp))).mono ?_;rintro e W9 ⟨rfl,J⟩
 go_wp21
 refine(J.made (oh bm bB bD 126 _) nofun).mono ?_;rintro e Y ⟨a7,a4,ab,rfl,h⟩
 go_wp21
 refine(h.made (JM bm bB bD (.ahead 126) _ _ (by simp) (h.at (by simp))) nofun).mono ?_;rintro e Z ⟨a9,a5,ac,rfl,j⟩
 go_wp21
 refine(j.nF _ [gp,gq,gr] (.Nz (.ahead 126)) (by rfl) (by rfl) (j.at (by simp))).mono ?_;rintro e a0 ⟨rfl,l⟩
 go_wp21
 refine(l.nF _ [gA,gw,io,gh,fX,iy,iA] .nothing (by rfl) (by rfl) rfl).mono ?_;rintro e a1 ⟨rfl,m⟩
 go_wp21
 refine(m.made (py bm bB bD 7 _) nofun).mono ?_;rintro e a2 ⟨S,O,V,rfl,d⟩;have W:=jA (sp:=AA) (v0:= .nilFunc) (v1:= .nilFunc) (v2:= .nilFunc) (v3:= .nilFunc) (v4:= .nilFunc) (v5:= .map (some b1)) (v6:= .map (some b2)) (v7:= .nilFunc) (v8:= .nilFunc) (v9:= .func S O V) d.g d.k ⟨rfl,rfl,rfl,rfl,rfl,(d.oL (by simp)),(d.oL (by simp)),rfl,rfl,(d.at (r:= .pq 7) (by simp))⟩ _ rfl;have⟨q0,q1,q2,q3,q4,q5,q6,q7,q8,q9⟩:=kA d.g;have u:=gE d.g;go_wp2;exact kD results62 rfl rfl W
def Fj:my:={start:=some [([gw,io,gh,gp,iy,gq,iA,gr,ic],(.ahead 127))],stop:=some [([gA,gw,io,gh,fX],.nothing),([fZ,gp,gq,gr,ic],(.Nz (.ahead 127))),([iy,iA],(.Nz (.ends 127)))],iE:= .pq 6}
def Zv (bm bB bD:Nat) (w:gv) (Z:BD bB bD w) (ht:xR w) (O:bm < w.heap.size):
  Calls prog 63 #[iC bB] w (jQ bm bB bD Fj w):=by
 have a0:=@run_makeMap prog;have⟨W0,hW0,HS0⟩:=St.start bm bB bD w ht O;have⟨xy,hBl⟩:=Z;have B:=fU hW0;clear hW0;go_enter func63,ntmps63;have⟨W1,b1,hW1,hb1,HS1⟩:=HS0.map;have I:=fU hW1;have D:=fU hb1;clear hW1 hb1
 go_wp21
 rw[<-B.out];rw[<-I.out,show w.heap.size+1=b1 by rw[D.out,B.out];simp];refine(HS1.made (oh bm bB bD 127 _) nofun).mono ?_;rintro e W2 ⟨f2,a2,l2,rfl,l⟩
 go_wp21
 refine(l.nF _ [gw,io,gh,gp,iy,gq,iA,gr,ic] (.ahead 127) rfl (by rfl) (l.at (by simp))).mono ?_;rintro e W3 ⟨rfl,G⟩;have⟨W4,b2,hW4,hb2,HS4⟩:=G.map;have J:=fU hW4;have F:=fU hb2;clear hW4 hb2
 go_wp21
 rw[<-J.out,<-F.out];refine(HS4.made (xl bm bB bD 127 _) nofun).mono ?_;rintro e W5 ⟨f5,a5,l5,rfl,m⟩
 go_wp21
 refine(m.made (JM bm bB bD (.ends 127) _ _ (by simp) (m.at (by simp))) nofun).mono ?_;rintro e W6 ⟨f6,a6,l6,rfl,q⟩
 go_wp21
 refine(q.nF _ [iy,iA] (.Nz (.ends 127)) (by rfl) (by rfl) (q.at (by simp))).mono ?_;rintro e W7 ⟨rfl,H⟩
 go_wp21
 refine(H.made (oh bm bB bD 127 _) nofun).mono ?_;rintro e W8 ⟨f8,a8,l8,rfl,z⟩
 go_wp21
 refine(z.made (JM bm bB bD (.ahead 127) _ _ (by simp) (z.at (by simp))) nofun).mono ?_;rintro e W9 ⟨f9,a9,l9,rfl,A⟩
 go_wp21
 refine(A.nF _ [fZ,gp,gq,gr,ic] (.Nz (.ahead 127)) (by rfl) (by rfl) (A.at (by simp))).mono ?_;rintro e V ⟨rfl,h⟩
 go_wp21
 refine(h.nF _ [gA,gw,io,gh,fX] .nothing (by rfl) (by rfl) rfl).mono ?_;rintro e W ⟨rfl,j⟩
 go_wp21
 refine(j.made (py bm bB bD 6 _) nofun).mono ?_;rintro e Y ⟨N,K,S,rfl,d⟩;have U:=jA (sp:=Fj) (v0:= .nilFunc) (v1:= .nilFunc) (v2:= .nilFunc) (v3:= .nilFunc) (v4:= .nilFunc) (v5:= .map (some b1)) (v6:= .map (some b2)) (v7:= .nilFunc) (v8:= .nilFunc) (v9:= .func N K S) d.g d.k ⟨rfl,rfl,rfl,rfl,rfl,(d.oL (by simp)),(d.oL (by simp)),rfl,rfl,(d.at (r:= .pq 6) (by simp))⟩ _ rfl;have⟨q0,q1,q2,q3,q4,q5,q6,q7,q8,q9⟩:=kA d.g;have u:=gE d.g;go_wp2;exact kD results63 rfl rfl U
def AB:my:={ke:= .ie 128,gR:= .gR 87 true,start:=some [([jE,jF],(.ahead 132)),([iX],(.ends 132)),([uj],(.ie 131)),([gm],(.ie 130)),([gN],(.ie 129)),([fX],(.pq 6))],stop:=some [([iX],(.ends 132)),([gN],(.ie 134)),([gm],(.ie 133))],iE:= .nothing}
def Tj (bm bB bD:Nat) (w:gv) (hb:BD bB bD w) (ht:xR w) (U:bm < w.heap.size):
  Calls prog 64 #[iC bB] w (jQ bm bB bD AB w):=by
 have aa:=@run_makeMap prog;have⟨W0,hW0,HS0⟩:=St.start bm bB bD w ht U;have⟨xy,hBl⟩:=hb;have O:=fU hW0;clear hW0;go_enter func64,ntmps64
 go_wp21
 rw[<-O.out];refine(HS0.made (ot bm bB bD 87 true _) nofun).mono ?_;rintro e W1 ⟨f1,a1,l1,rfl,G⟩;have⟨W2,b1,hW2,hb1,HS2⟩:=G.map;have S:=fU hW2;have D:=fU hb1;clear hW2 hb1
 go_wp21
 rw[<-S.out,<-D.out];refine(HS2.made (py bm bB bD 6 _) nofun).mono ?_;rintro e W3 ⟨f3,a3,l3,rfl,z⟩
 go_wp21
 refine(z.nF _ [fX] (.pq 6) (by rfl) (by rfl) (z.at (by simp))).mono ?_;rintro e W4 ⟨rfl,H⟩
 go_wp21
 refine(H.nF _ [gN] (.ie 129) (by rfl) (by rfl) rfl).mono ?_;rintro e W5 ⟨rfl,I⟩
 go_wp21
 refine(I.nF _ [gm] (.ie 130) (by rfl) (by rfl) rfl).mono ?_;rintro e W6 ⟨rfl,J⟩
 go_wp21
 refine(J.nF _ [uj] (.ie 131) (by rfl) (by rfl) rfl).mono ?_;rintro e W7 ⟨rfl,K⟩
 go_wp21
 refine(K.made (xl bm bB bD 132 _) nofun).mono ?_;rintro e W8 ⟨f8,a8,l8,rfl,A⟩
 go_wp21
 refine(A.nF _ [iX] (.ends 132) (by rfl) (by rfl) (A.at (by simp))).mono ?_;rintro e W9 ⟨rfl,N⟩
 go_wp21
 refine(N.made (oh bm bB bD 132 _) nofun).mono ?_;rintro e W ⟨a7,a5,ab,rfl,h⟩
 go_wp21
 refine(h.nF _ [jE,jF] (.ahead 132) (by rfl) (by rfl) (h.at (by simp))).mono ?_;rintro e Y ⟨rfl,l⟩;have⟨W12,b2,hW12,hb2,HS12⟩:=l.map;have B:=fU hW12;have F:=fU hb2;clear hW12 hb2
 go_wp21
 rw[<-B.out,<-F.out];refine(HS12.nF _ [gm] (.ie 133) (by rfl) (by rfl) rfl).mono ?_;rintro e Z ⟨rfl,m⟩
 go_wp21
 refine(m.nF _ [gN] (.ie 134) (by rfl) (by rfl) rfl).mono ?_;rintro e a0 ⟨rfl,q⟩
 go_wp21
 refine(q.made (xl bm bB bD 132 _) nofun).mono ?_;rintro e a2 ⟨a9,a6,ac,rfl,j⟩
 go_wp21
 refine(j.nF _ [iX] (.ends 132) (by rfl) (by rfl) (j.at (by simp))).mono ?_;rintro e a4 ⟨rfl,d⟩;have V:=jA (sp:=AB) (v0:= .nilFunc) (v1:= .func (.func 128) #[iC bB] #[]) (v2:= .func f1 a1 l1) (v3:= .nilFunc) (v4:= .nilFunc) (v5:= .map (some b1)) (v6:= .map (some b2)) (v7:= .nilFunc) (v8:= .nilFunc) (v9:= .func (.func 79) #[] #[]) d.g d.k ⟨rfl,rfl,(d.at (r:= .gR 87 true) (by simp)),rfl,rfl,(d.oL (by simp)),(d.oL (by simp)),rfl,rfl,rfl⟩ _ rfl;have⟨q0,q1,q2,q3,q4,q5,q6,q7,q8,q9⟩:=kA d.g;have u:=gE d.g;go_wp2;exact kD results64 rfl rfl V
def su:my:={start:=some [([gw,fZ,gp,gq,gr,ic,iy,iA],(.ahead 132))],stop:=some [([gw,fZ,gp,gq,gr,ic,iy,iA],(.Nz (.ahead 132)))],iE:= .pq 14}
def D7 (bm bB bD:Nat) (w:gv) (K:BD bB bD w) (O:xR w) (G:bm < w.heap.size):
  Calls prog 65 #[iC bB] w (jQ bm bB bD su w):=by
 have N:=@run_makeMap prog;have⟨W0,hW0,HS0⟩:=St.start bm bB bD w O G;have⟨xy,hBl⟩:=K;have m:=fU hW0;clear hW0;go_enter func65,ntmps65;have⟨W1,b1,hW1,hb1,HS1⟩:=HS0.map;have D:=fU hW1;have q:=fU hb1;clear hW1 hb1
 go_wp21
 rw[<-m.out];rw[<-D.out,show w.heap.size+1=b1 by rw[q.out,m.out];simp];refine(HS1.made (oh bm bB bD 132 _) nofun).mono ?_;rintro e U ⟨f2,a2,l2,rfl,h⟩
 go_wp21
 refine(h.nF _ [gw,fZ,gp,gq,gr,ic,iy,iA] (.ahead 132) (by rfl) (by rfl) (h.at (by simp))).mono ?_;rintro e V ⟨rfl,A⟩;have⟨W4,b2,hW4,hb2,HS4⟩:=A.map;have F:=fU hW4;have z:=fU hb2;clear hW4 hb2
 go_wp21
 rw[<-F.out,<-z.out];refine(HS4.made (oh bm bB bD 132 _) nofun).mono ?_;rintro e W ⟨f5,a5,l5,rfl,j⟩
 go_wp21
 refine(j.made (JM bm bB bD (.ahead 132) _ _ (by simp) (j.at (by simp))) nofun).mono ?_;rintro e Y ⟨f6,a6,l6,rfl,l⟩
 go_wp21
 refine(l.nF _ [gw,fZ,gp,gq,gr,ic,iy,iA] (.Nz (.ahead 132)) (by rfl) (by rfl) (l.at (by simp))).mono ?_;rintro e Z ⟨rfl,B⟩
 go_wp21
 refine(B.made (py bm bB bD 14 _) nofun).mono ?_;rintro e W8 ⟨J,I,S,rfl,d⟩;have H:=jA (sp:=su) (v0:= .nilFunc) (v1:= .nilFunc) (v2:= .nilFunc) (v3:= .nilFunc) (v4:= .nilFunc) (v5:= .map (some b1)) (v6:= .map (some b2)) (v7:= .nilFunc) (v8:= .nilFunc) (v9:= .func J I S) d.g d.k ⟨rfl,rfl,rfl,rfl,rfl,(d.oL (by simp)),(d.oL (by simp)),rfl,rfl,(d.at (r:= .pq 14) (by simp))⟩ _ rfl;have⟨q0,q1,q2,q3,q4,q5,q6,q7,q8,q9⟩:=kA d.g;have u:=gE d.g;go_wp2;exact kD results65 rfl rfl H
def mH (z:jM) (d f a:Int) (v:gO) (bD:Nat):jM:=((((z.setIfInBounds 0 (gn d)).setIfInBounds 1 (gn f)).setIfInBounds 2 (gn a)).setIfInBounds 3 v).setIfInBounds 187 (iC bD)
def se:Tryz.zeroCells157.size=199:=by rfl
def BC (z:jM) (d f a:Int) (v:gO) (bD:Nat):(mH z d f a v bD).size=z.size:=by
 simp[mH]
theorem xi (z:jM) (d f a:Int) (v:gO) (bD i:Nat) (h:4<=i) (j:i≠187):(mH z d f a v bD)[i]?=z[i]?:=by
 simp only[mH,zL]
 grind
def yr:List my:=[{blank:= .nothing,gR:= .gR 81 false,iM:= .ie 82,iE:= .ie 83},ln,lr,lF,mq,qZ,kF,Cz,kT,zh,qY,oP,AA,Fj,AB,su,vE,ny 81 false]
def nA.one (h:nA bm bB bD r v w):v.oneCell'=true:=by
 by_cases d:r= .nil
 .subst d;have:v= .nilFunc:=h;subst this;rfl
 .obtain⟨f,a,l,rfl⟩:=h.func d;rfl
def rD.one {R : Option (List (List gy×Ru))} (h:rD bm bB bD R v w):v.oneCell'=true:=by
 cases R with
 |none=>have:v= .map none:=h;subst this;rfl
 |some R=>obtain⟨b,L,rfl,_⟩:=h;rfl
def kN.one (h:kN bm bB bD sp v0 v1 v2 v3 v4 v5 v6 v7 v8 v9 w):∀v∈[v0,v1,v2,v3,v4,v5,v6,v7,v8,v9],v.oneCell'=true:=by
 intro v d;simp at d;rcases d with rfl|rfl|rfl|rfl|rfl|rfl|rfl|rfl|rfl|rfl
 .exact h.blank.one
 .exact h.ke.one
 .exact h.gR.one
 .exact h.iM.one
 .exact h.im.one
 .exact h.start.one
 .exact h.stop.one
 .exact h.jV.one
 .exact h.kx.one
 .exact h.iE.one
theorem kN.YV (h:kN bm bB bD sp v0 v1 v2 v3 v4 v5 v6 v7 v8 v9 w) (d:Kept [s] w w') (j:w.heap[s]?=some (gI c 157)):kN bm bB bD sp v0 v1 v2 v3 v4 v5 v6 v7 v8 v9 w':=
 have f:vT bm w w':=⟨_,d,λk l _=>by
  grind[Hl]⟩
 ⟨h.blank.fr f,h.ke.fr f,h.gR.fr f,h.iM.fr f,h.im.fr f,h.start.I9 d j f,h.stop.I9 d j f,h.jV.fr f,h.kx.fr f,h.iE.fr f⟩
def AU (bm bB bD:Nat) (d:List gO) (W:gv):Prop:=d.length=180/\∀m sp,yr[m]?=some sp->∃v0 v1 v2 v3 v4 v5 v6 v7 v8 v9,(d.drop (10*m)).take 10=[v0,v1,v2,v3,v4,v5,v6,v7,v8,v9]/\kN bm bB bD sp v0 v1 v2 v3 v4 v5 v6 v7 v8 v9 W
def AU.YV {d : List gO} (h:AU bm bB bD d w) (j:Kept [s] w w') (q:w.heap[s]?=some (gI c 157)):AU bm bB bD d w':=by
 refine⟨h.1,λm sp l=>?_⟩;have⟨v0,v1,v2,v3,v4,v5,v6,v7,v8,v9,e,hr⟩:=h.2 m sp l;exact⟨v0,v1,v2,v3,v4,v5,v6,v7,v8,v9,e,hr.YV j q⟩
section
variable {P:Program} {ops:Array Oper} {rest:List Oper} {o:Oper} {a:Act} {w:gv} {Q:Exit->Act->gv->Prop}
def AL (m:o.guard=none) (d:Option Tmp) (l:o.dst=d) (v:gO) (q:(execOp a.eval o).run P w= .ok (.value v) w) (h:wpList P ops Q rest (a.put d v) w):wpList P ops Q (o::rest) a w:=by
 subst l;refine wpList_plain m λK j=>?_;unfold Oper.wp;rw[q];exact j _ _ h
end
structure ac5 (bm bB bD:Nat) (d f a:Int) (av:gO) (w W:gv):Prop where
 k:Kept [] w W
 new:w.heap.size<=bB
 ir:∃c6 cs v1 v2 v3,W.heap[bB]?=some (gI (jp c6 4 cs) 157)/\c6=((((mH Tryz.zeroCells157 d f a av bD).setIfInBounds 184 v1).setIfInBounds 185 v2).setIfInBounds 186 v3)/\AU bm bB bD cs W/\Ask bm v1 lc W/\Ask bm v2 uM W/\Ask bm v3 iP W
 xf:W.heap[bD]?=some (gI #[gH kI,jX,.pointer none,jX] 142)
 ne:bD≠bB
 afG:w.heap.size<=bD
def Xf (d:gv) (bm:Nat) (c:jM) (j:gv) (h:j=((d.alloc (gI #[.map (some bm)] 137)).alloc (gI #[gH kI,jX,.pointer none,jX] 142)).alloc (gI c 157)):
  j.heap[d.heap.size]?=some (gI #[.map (some bm)] 137)/\j.heap[d.heap.size+1]?=some (gI #[gH kI,jX,.pointer none,jX] 142)/\j.heap[d.heap.size+1+1]?=some (gI c 157)/\Kept [] d j:=by
 have⟨h1,h2,h3⟩:=oq d (gI #[.map (some bm)] 137) (gI #[gH kI,jX,.pointer none,jX] 142) (gI c 157);subst h;exact⟨h1,h2,h3,(((Kept.refl _ _).alloc _).alloc _).alloc _⟩
theorem WQ {d : gv} (h:gv) (j:h=((d.setCell ⟨bB,184,none⟩ v1).setCell ⟨bB,185,none⟩ v2).setCell ⟨bB,186,none⟩ v3) (l:d.heap[bB]?=some (gI c 157)):h.heap[bB]?=some (gI (((c.setIfInBounds 184 v1).setIfInBounds 185 v2).setIfInBounds 186 v3) 157)/\Kept [bB] d h/\vT bm d h:=by
 have m:=gg l 184 v1;have q:=gg m 185 v2;have A:=gg q 186 v3;have k:Kept [bB] d h:=by
  rw[j];exact(((Kept.refl [bB] d).setCell (p:=⟨bB,184,none⟩) (.inl (by simp)) v1).setCell (p:=⟨bB,185,none⟩) (.inl (by simp)) v2).setCell (p:=⟨bB,186,none⟩) (.inl (by simp)) v3
 refine⟨by grind,k,⟨_,k,λx z _=>?_⟩⟩;have e:=List.mem_singleton.1 z;subst e;exact .inl ⟨_,_,_,l,by decide⟩
def adS (d f a:Int) (af:Fn) (aa al:jM) (w:gv) (ht:xR w):
  Calls prog 35 #[.agg #[gn d,gn f,gn a],.func af aa al] w λe W=>∃bm bB bD,e=iq (iC bB)/\ac5 bm bB bD d f a (.func af aa al) w W:=by
 obtain⟨w0,f5,K0,g0,z0⟩:=sB w (gI #[gn d,gn f,gn a] 55);have HT:=fU ht;have eV:=fU f5;have ec:=fU K0;have ev:=fU g0;have fq:=fU z0;clear ht f5 K0 g0 z0;go_enter func35,ntmps35;go_wp2_with fail;rw[<-eV.out];refine(Le _ (HT.out.fr (bm:=0) (.gX ec.out)).1).mono ?_;rintro e W1 ⟨bm,rfl,f4,H,eY⟩;have g1:=H.at ev.out (by simp);have c0:W1.cell? ⟨w.heap.size,0,none⟩=some (gn d):=(fW g1 0).trans rfl;have c1:W1.cell? ⟨w.heap.size,1,none⟩=some (gn f):=(fW g1 1).trans rfl;have c2:W1.cell? ⟨w.heap.size,2,none⟩=some (gn a):=(fW g1 2).trans rfl;have f3:=jk g1;have eB:=fU f4;have ed:=fU (ec.out.trans H);have fg:=fU eY;clear f4 H eY g1;go_wp2_with fail;clear c0 c1 c2 f3;obtain⟨W2,eh⟩:∃W,W=((W1.alloc (gI #[.map (some bm)] 137)).alloc (gI #[gH kI,jX,.pointer none,jX] 142)).alloc (gI (mH Tryz.zeroCells157 d f a (.func af aa al) (W1.heap.size+1)) 157):=⟨_,rfl⟩;obtain⟨gC,gD,gB,k2⟩:=Xf W1 bm _ W2 eh;change Code.wp _ _ _ _ (((W1.alloc (gI #[.map (some bm)] 137)).alloc (gI #[gH kI,jX,.pointer none,jX] 142)).alloc (gI (mH Tryz.zeroCells157 d f a (.func af aa al) (W1.heap.size+1)) 157));rw[<-eh];clear eh;obtain⟨bB,eZ⟩:∃b,b=W1.heap.size+1+1:=⟨_,rfl⟩;obtain⟨bD,f1⟩:∃b,b=W1.heap.size+1:=⟨_,rfl⟩;obtain⟨bC,f0⟩:∃b,b=W1.heap.size:=⟨_,rfl⟩;rw[<-eZ]at gB|-;rw[<-f1]at gB gD|-;rw[<-f0]at gC|-;have I:bC≠bB:=by omega
 have ea:=fU (show bD≠bB by omega);have ee:=fU (show w.heap.size<=bB/\w.heap.size<=bD by have:=ed.out.size;omega);have bR:=fU gC;have ey:=fU gD;have ex:=fU gB;have ef:=fU (eB.out.kept k2 (by simp));have ez:=fU (ed.out.trans k2);have er:=fU (show bm < W2.heap.size by
  obtain⟨es,ck,ha,_⟩:=ef.out;exact(Array.getElem?_eq_some_iff.1 ha).1)
 clear gC gD gB k2 eZ f1 f0 eB;have CA:Hid (∀(c:Nat) (W:gv),c < 16->Kept [] W2 W->Calls prog 49 #[.agg #[.map (some bm)],gn c] W λe w'=>(∃v,e=iq v/\Ask bm v (isC B8 c) w')/\Kept [] W w'):=fU (λc W hc l=>aau bm c B8 W (ef.out.kept l (by simp)) hc aaF);have fF:W2.cell? ⟨bC,0,none⟩=some (.map (some bm)):=(fW bR.out 0).trans rfl
 go_region_held3 (λw'=>w'.cell? ⟨bC,0,none⟩=some (.map (some bm))) ((first|assumption|go_keep|exact(kU I).trans (by assumption)|exact(kU I).trans ((kU I).trans (by assumption))|exact(kU I).trans ((kU I).trans ((kU I).trans (by assumption))))) ((first|(go_at_call 49;refine(CA.out 2 _ (by decide) (Kept.refl _ _).drew).mono ?_;rintro e W3 ⟨⟨v1,rfl,ej⟩,H⟩;obtain⟨f8,f7,f9,fJ⟩:=ej.func;subst fJ;have eo:=fU ej;have bL:Hid (Kept [] W2 W3):=fU (Kept.trans (Kept.refl _ _).drew H);have fG:W3.cell? ⟨bC,0,none⟩=some (.map (some bm)):=(fW (bL.out.at bR.out (by simp)) 0).trans rfl;have eu:=fU (vT.gX (bm:=bm) H);clear ej H)|(go_at_call 49;refine(CA.out 4 _ (by decide) bL.out).mono ?_;rintro e W4 ⟨⟨v2,rfl,ek⟩,em⟩;obtain⟨fO,fM,fQ,fK⟩:=ek.func;subst fK;have ep:=fU ek;have bM:Hid (Kept [] W2 W4):=fU (Kept.trans bL.out em);have fH:W4.cell? ⟨bC,0,none⟩=some (.map (some bm)):=(fW (bM.out.at bR.out (by simp)) 0).trans rfl;have dP:=fU (vT.gX (bm:=bm) em);clear ek em)|(go_at_call 49;refine(CA.out 8 _ (by decide) bM.out).mono ?_;rintro e W5 ⟨⟨v3,rfl,el⟩,en⟩;obtain⟨fP,fN,fR,fL⟩:=el.func;subst fL;have eq:=fU el;have D:Hid (Kept [] W2 W5):=fU (Kept.trans bM.out en);have fI:W5.cell? ⟨bC,0,none⟩=some (.map (some bm)):=(fW (D.out.at bR.out (by simp)) 0).trans rfl;have bQ:=fU (vT.gX (bm:=bm) en);clear el en;have G:=fU (D.out.at ex.out (by simp));have fa:W5.cell? ⟨bB,184,none⟩=some .nilFunc:=(fW G.out 184).trans ((xi _ d f a _ bD 184 (by decide) (by decide)).trans (by kernel_rfl));have fd:=gE G.out 184;have fb:W5.cell? ⟨bB,185,none⟩=some .nilFunc:=(fW G.out 185).trans ((xi _ d f a _ bD 185 (by decide) (by decide)).trans (by kernel_rfl));have fe:=gE G.out 185;have fc:W5.cell? ⟨bB,186,none⟩=some .nilFunc:=(fW G.out 186).trans ((xi _ d f a _ bD 186 (by decide) (by decide)).trans (by kernel_rfl));have ff:=gE G.out 186)))
 obtain⟨W6,ei⟩:∃W,W=((W5.setCell ⟨bB,184,none⟩ (.func f8 f7 f9)).setCell ⟨bB,185,none⟩ (.func fO fM fQ)).setCell ⟨bB,186,none⟩ (.func fP fN fR):=⟨_,rfl⟩;rw[<-ei];obtain⟨g6,k6,f6⟩:=WQ (bm:=bm) W6 ei G.out;have K6:Kept [] w W6:=(ez.out.trans D.out).next k6 (λx hx=> .inr (by rw[List.mem_singleton.1 hx];exact ee.out.1))
 have A1:=eo.out.fr (dP.out.trans (bQ.out.trans f6));have A2:=ep.out.fr (bQ.out.trans f6);have A3:=eq.out.fr f6;have f2:W6.heap[bD]?=some (gI #[gH kI,jX,.pointer none,jX] 142):=k6.at (D.out.at ey.out (by simp)) (by have:=ea.out;simpa using this);have dZ:bm < W6.heap.size:=lV (lV er.out D.out.size) k6.size;have q:Hid (∀W,Kept [] W6 W->BD bB bD W/\BS bm bB W/\xR W/\bm < W.heap.size):=by
  have b0:BD bB bD W6:=⟨(fW g6 187).trans (by
   simp only[mH,zL,RM,se];rfl),jk g6⟩
  have b1:BS bm bB W6:=⟨jk g6,.func f8 f7 f9,(fW g6 184).trans (by
   simp only[mH,zL,RM,se];rfl),A1⟩
  exact fU (λW l=>⟨b0.il l,b1.il l,HT.out.fr (.gX (bm:=bm) (K6.trans l)),lV dZ l.size⟩)
 have dK:=fU (And.intro A1 (And.intro A2 A3));have ew:=fU g6;have eA:=fU K6;have et:=fU f2;have dO:=fU ee.out;have eb:=fU ea.out;have dL:Hid (Kept [] W6 W6):=fU (Kept.refl _ _);clear ei g6 k6 f6 K6 A1 A2 A3 f2 dZ fF fG fH fI fa fb fc fd fe ff G bL bM D eu dP bQ eo ep eq bR ey ex ef ez er fg ed eV ec ev fq HT CA I ea ee;go_wp2_with fail;refine(WG bm bB bD _ (q.out _ dL.out).1 (q.out _ dL.out).2.2.1 (q.out _ dL.out).2.2.2).mono ?_;rintro e W7 ⟨bW,bX,bY,bZ,c3,c4,c5,c6,c7,c8,rfl,A,l⟩;have eK:=fU A;have dM:=fU (dL.out.trans l);have fS:=fU l;clear A l;go_wp2_with fail;refine(N7 bm bB bD _ (q.out _ dM.out).1 (q.out _ dM.out).2.2.1 (q.out _ dM.out).2.2.2).mono ?_;rintro e W8 ⟨c9,ca,cb,cc,cf,cg,ch,ci,cj,cl,rfl,A,l⟩;have eL:=fU A;have dN:=fU (dM.out.trans l);have fh:=fU l;clear A l;go_wp2_with fail;refine(N8 bm bB bD _ (q.out _ dN.out).1 (q.out _ dN.out).2.2.1 (q.out _ dN.out).2.2.2).mono ?_;rintro e W9 ⟨cm,cn,co,cp,cq,cr,ct,cu,cv,cx,rfl,A,l⟩;have eM:=fU A;have bq:=fU (dN.out.trans l);have fi:=fU l;clear A l;go_wp2_with fail;refine(Zw bm bB bD _ (q.out _ bq.out).1 (q.out _ bq.out).2.2.1 (q.out _ bq.out).2.2.2).mono ?_;rintro e fr ⟨cy,cz,cA,cB,cC,cD,cE,cF,cG,cH,rfl,A,l⟩;have eN:=fU A;have br:=fU (bq.out.trans l);have fj:=fU l;clear A l;go_wp2_with fail;refine(QE bm bB bD _ (q.out _ br.out).1 (q.out _ br.out).2.2.1 (q.out _ br.out).2.2.2).mono ?_;rintro e fs ⟨cI,cJ,cK,cL,cM,cN,cO,cP,cQ,cR,rfl,A,l⟩;have eO:=fU A;have bt:=fU (br.out.trans l);have fk:=fU l;clear A l;go_wp2_with fail;refine(Zx bm bB bD _ (q.out _ bt.out).1 (q.out _ bt.out).2.2.1 (q.out _ bt.out).2.2.2).mono ?_;rintro e ft ⟨cS,cT,cU,cV,cW,cX,cY,cZ,d0,d1,rfl,A,l⟩;have eP:=fU A;have bu:=fU (bt.out.trans l);have fl:=fU l;clear A l;go_wp2_with fail;refine(Zu bm bB bD _ (q.out _ bu.out).2.1 (q.out _ bu.out).2.2.1 (q.out _ bu.out).2.2.2).mono ?_;rintro e fu ⟨d2,d3,d4,d5,d6,d7,d8,d9,da,db,rfl,A,l⟩;have eQ:=fU A;have bv:=fU (bu.out.trans l);have fm:=fU l;clear A l;go_wp2_with fail;refine(WF bm bB bD _ (q.out _ bv.out).1 (q.out _ bv.out).2.2.1 (q.out _ bv.out).2.2.2).mono ?_;rintro e fv ⟨dc,dd,de,df,dg,dh,di,dj,dk,dl,rfl,A,l⟩;have eR:=fU A;have bw:=fU (bv.out.trans l);have fn:=fU l;clear A l;go_wp2_with fail;refine(Lo bm bB bD _ (q.out _ bw.out).1 (q.out _ bw.out).2.2.1 (q.out _ bw.out).2.2.2).mono ?_;rintro e fw ⟨dm,dp,dq,dr,ds,dt,du,dv,dw,dx,rfl,A,l⟩;have eS:=fU A;have bx:=fU (bw.out.trans l);have fo:=fU l;clear A l;go_wp2_with fail;refine(QF bm bB bD _ (q.out _ bx.out).1 (q.out _ bx.out).2.2.1 (q.out _ bx.out).2.2.2).mono ?_;rintro e fx ⟨dy,dz,dA,dB,dD,dE,dF,dG,dH,dJ,rfl,A,l⟩;have eT:=fU A;have bz:=fU (bx.out.trans l);have fp:=fU l;clear A l;go_wp2_with fail;refine(GH bm bB bD _ (q.out _ bz.out).1 (q.out _ bz.out).2.2.1 (q.out _ bz.out).2.2.2).mono ?_;rintro e fy ⟨J,K,N,O,S,U,V,Y,Z,a0,rfl,A,l⟩;have dR:=fU A;have bA:=fU (bz.out.trans l);have eC:=fU l;clear A l;go_wp2_with fail;refine(Ln bm bB bD _ (q.out _ bA.out).1 (q.out _ bA.out).2.2.1 (q.out _ bA.out).2.2.2).mono ?_;rintro e fz ⟨a1,a2,a3,a4,a5,a6,a7,a8,a9,ab,rfl,A,l⟩;have dS:=fU A;have bE:=fU (bA.out.trans l);have eD:=fU l;clear A l;go_wp2_with fail;refine(abL bm bB bD _ (q.out _ bE.out).1 (q.out _ bE.out).2.2.1 (q.out _ bE.out).2.2.2).mono ?_;rintro e fA ⟨ac,ad,ae,ag,ah,ai,aj,ak,am,an,rfl,A,l⟩;have dT:=fU A;have bF:=fU (bE.out.trans l);have eE:=fU l;clear A l;go_wp2_with fail;refine(Zv bm bB bD _ (q.out _ bF.out).1 (q.out _ bF.out).2.2.1 (q.out _ bF.out).2.2.2).mono ?_;rintro e fB ⟨ao,ap,aq,ar,au,aw,ax,ay,az,aA,rfl,A,l⟩;have dU:=fU A;have bG:=fU (bF.out.trans l);have eF:=fU l;clear A l;go_wp2_with fail;refine(Tj bm bB bD _ (q.out _ bG.out).1 (q.out _ bG.out).2.2.1 (q.out _ bG.out).2.2.2).mono ?_;rintro e fC ⟨aB,aC,aD,aE,aF,aG,aH,aI,aJ,aK,rfl,A,l⟩;have dV:=fU A;have bH:=fU (bG.out.trans l);have eG:=fU l;clear A l;go_wp2_with fail;refine(D7 bm bB bD _ (q.out _ bH.out).1 (q.out _ bH.out).2.2.1 (q.out _ bH.out).2.2.2).mono ?_;rintro e fD ⟨aL,aM,aN,aO,aP,aQ,aR,aS,aT,aU,rfl,A,l⟩;have dW:=fU A;have bI:=fU (bH.out.trans l);have eH:=fU l;clear A l;go_wp2_with fail;refine(QD bm bB bD _ (q.out _ bI.out).1 (q.out _ bI.out).2.2.1 (q.out _ bI.out).2.2.2).mono ?_;rintro e fE ⟨aV,aW,aX,aY,aZ,ba,bb,bc,bd,be,rfl,A,l⟩;have dX:=fU A;have bJ:=fU (bI.out.trans l);have eI:=fU l;clear A l;go_wp2_with fail;refine(Fe bm bB bD _ (q.out _ bJ.out).1 (q.out _ bJ.out).2.2.1 (q.out _ bJ.out).2.2.2).mono ?_;rintro e z ⟨bf,bg,bh,bi,bj,bk,bl,bn,bo,bp,rfl,A,l⟩;have dY:=fU A;have bK:=fU (bJ.out.trans l);have eJ:=fU l;clear A l;have e9:Kept [] z z:=Kept.refl _ _;have e8:Kept [] fE z:=eJ.out.trans e9;have e7:Kept [] fD z:=eI.out.trans e8;have e6:Kept [] fC z:=eH.out.trans e7;have e5:Kept [] fB z:=eG.out.trans e6;have e4:Kept [] fA z:=eF.out.trans e5;have e3:Kept [] fz z:=eE.out.trans e4;have e0:Kept [] fy z:=eD.out.trans e3;have E9:Kept [] fx z:=eC.out.trans e0;have E8:Kept [] fw z:=fp.out.trans E9;have E7:Kept [] fv z:=fo.out.trans E8;have E6:Kept [] fu z:=fn.out.trans E7;have E5:Kept [] ft z:=fm.out.trans E6;have E4:Kept [] fs z:=fl.out.trans E5;have E3:Kept [] fr z:=fk.out.trans E4;have E2:Kept [] W9 z:=fj.out.trans E3;have E1:Kept [] W8 z:=fi.out.trans E2;have E0:Kept [] W7 z:=fh.out.trans E1;obtain⟨cs,bP⟩:∃c:List gO,c=[bW,bX,bY,bZ,c3,c4,c5,c6,c7,c8,c9,ca,cb,cc,cf,cg,ch,ci,cj,cl,cm,cn,co,cp,cq,cr,ct,cu,cv,cx,cy,cz,cA,cB,cC,cD,cE,cF,cG,cH,cI,cJ,cK,cL,cM,cN,cO,cP,cQ,cR,cS,cT,cU,cV,cW,cX,cY,cZ,d0,d1,d2,d3,d4,d5,d6,d7,d8,d9,da,db,dc,dd,de,df,dg,dh,di,dj,dk,dl,dm,dp,dq,dr,ds,dt,du,dv,dw,dx,dy,dz,dA,dB,dD,dE,dF,dG,dH,dJ,J,K,N,O,S,U,V,Y,Z,a0,a1,a2,a3,a4,a5,a6,a7,a8,a9,ab,ac,ad,ae,ag,ah,ai,aj,ak,am,an,ao,ap,aq,ar,au,aw,ax,ay,az,aA,aB,aC,aD,aE,aF,aG,aH,aI,aJ,aK,aL,aM,aN,aO,aP,aQ,aR,aS,aT,aU,aV,aW,aX,aY,aZ,ba,bb,bc,bd,be,bf,bg,bh,bi,bj,bk,bl,bn,bo,bp]:=⟨_,rfl⟩;have HC:=fU bP;have eg:Hid (AU bm bB bD cs z):=by
  refine fU ⟨by rw[bP];rfl,?_⟩;rw[bP];intro m sp F;have f3:m < 18:=(List.getElem?_eq_some_iff.1 F).1;obtain rfl|rfl|rfl|rfl|rfl|rfl|rfl|rfl|rfl|rfl|rfl|rfl|rfl|rfl|rfl|rfl|rfl|rfl:m=0\/m=1\/m=2\/m=3\/m=4\/m=5\/m=6\/m=7\/m=8\/m=9\/m=10\/m=11\/m=12\/m=13\/m=14\/m=15\/m=16\/m=17:=by omega
  .have e:=jL F;subst e;exact⟨_,_,_,_,_,_,_,_,_,_,rfl,eK.out.il E0⟩
  .have e:=jL F;subst e;exact⟨_,_,_,_,_,_,_,_,_,_,rfl,eL.out.il E1⟩
  .have e:=jL F;subst e;exact⟨_,_,_,_,_,_,_,_,_,_,rfl,eM.out.il E2⟩
  .have e:=jL F;subst e;exact⟨_,_,_,_,_,_,_,_,_,_,rfl,eN.out.il E3⟩
  .have e:=jL F;subst e;exact⟨_,_,_,_,_,_,_,_,_,_,rfl,eO.out.il E4⟩
  .have e:=jL F;subst e;exact⟨_,_,_,_,_,_,_,_,_,_,rfl,eP.out.il E5⟩
  .have e:=jL F;subst e;exact⟨_,_,_,_,_,_,_,_,_,_,rfl,eQ.out.il E6⟩
  .have e:=jL F;subst e;exact⟨_,_,_,_,_,_,_,_,_,_,rfl,eR.out.il E7⟩
  .have e:=jL F;subst e;exact⟨_,_,_,_,_,_,_,_,_,_,rfl,eS.out.il E8⟩
  .have e:=jL F;subst e;exact⟨_,_,_,_,_,_,_,_,_,_,rfl,eT.out.il E9⟩
  .have e:=jL F;subst e;exact⟨_,_,_,_,_,_,_,_,_,_,rfl,dR.out.il e0⟩
  .have e:=jL F;subst e;exact⟨_,_,_,_,_,_,_,_,_,_,rfl,dS.out.il e3⟩
  .have e:=jL F;subst e;exact⟨_,_,_,_,_,_,_,_,_,_,rfl,dT.out.il e4⟩
  .have e:=jL F;subst e;exact⟨_,_,_,_,_,_,_,_,_,_,rfl,dU.out.il e5⟩
  .have e:=jL F;subst e;exact⟨_,_,_,_,_,_,_,_,_,_,rfl,dV.out.il e6⟩
  .have e:=jL F;subst e;exact⟨_,_,_,_,_,_,_,_,_,_,rfl,dW.out.il e7⟩
  .have e:=jL F;subst e;exact⟨_,_,_,_,_,_,_,_,_,_,rfl,dX.out.il e8⟩
  .have e:=jL F;subst e;exact⟨_,_,_,_,_,_,_,_,_,_,rfl,dY.out.il e9⟩
 have dQ:Hid (cs.toArray.all (·.oneCell')=true):=by
  refine fU (all_oneCell_toArray ?_);rw[bP,show[bW,bX,bY,bZ,c3,c4,c5,c6,c7,c8,c9,ca,cb,cc,cf,cg,ch,ci,cj,cl,cm,cn,co,cp,cq,cr,ct,cu,cv,cx,cy,cz,cA,cB,cC,cD,cE,cF,cG,cH,cI,cJ,cK,cL,cM,cN,cO,cP,cQ,cR,cS,cT,cU,cV,cW,cX,cY,cZ,d0,d1,d2,d3,d4,d5,d6,d7,d8,d9,da,db,dc,dd,de,df,dg,dh,di,dj,dk,dl,dm,dp,dq,dr,ds,dt,du,dv,dw,dx,dy,dz,dA,dB,dD,dE,dF,dG,dH,dJ,J,K,N,O,S,U,V,Y,Z,a0,a1,a2,a3,a4,a5,a6,a7,a8,a9,ab,ac,ad,ae,ag,ah,ai,aj,ak,am,an,ao,ap,aq,ar,au,aw,ax,ay,az,aA,aB,aC,aD,aE,aF,aG,aH,aI,aJ,aK,aL,aM,aN,aO,aP,aQ,aR,aS,aT,aU,aV,aW,aX,aY,aZ,ba,bb,bc,bd,be,bf,bg,bh,bi,bj,bk,bl,bn,bo,bp]=[bW,bX,bY,bZ,c3,c4,c5,c6,c7,c8]++([c9,ca,cb,cc,cf,cg,ch,ci,cj,cl]++([cm,cn,co,cp,cq,cr,ct,cu,cv,cx]++([cy,cz,cA,cB,cC,cD,cE,cF,cG,cH]++([cI,cJ,cK,cL,cM,cN,cO,cP,cQ,cR]++([cS,cT,cU,cV,cW,cX,cY,cZ,d0,d1]++([d2,d3,d4,d5,d6,d7,d8,d9,da,db]++([dc,dd,de,df,dg,dh,di,dj,dk,dl]++([dm,dp,dq,dr,ds,dt,du,dv,dw,dx]++([dy,dz,dA,dB,dD,dE,dF,dG,dH,dJ]++([J,K,N,O,S,U,V,Y,Z,a0]++([a1,a2,a3,a4,a5,a6,a7,a8,a9,ab]++([ac,ad,ae,ag,ah,ai,aj,ak,am,an]++([ao,ap,aq,ar,au,aw,ax,ay,az,aA]++([aB,aC,aD,aE,aF,aG,aH,aI,aJ,aK]++([aL,aM,aN,aO,aP,aQ,aR,aS,aT,aU]++([aV,aW,aX,aY,aZ,ba,bb,bc,bd,be]++([bf,bg,bh,bi,bj,bk,bl,bn,bo,bp])))))))))))))))))from rfl];simp only[List.mem_append];rintro v (h|h|h|h|h|h|h|h|h|h|h|h|h|h|h|h|h|h)
  .exact eK.out.one v h
  .exact eL.out.one v h
  .exact eM.out.one v h
  .exact eN.out.one v h
  .exact eO.out.one v h
  .exact eP.out.one v h
  .exact eQ.out.one v h
  .exact eR.out.one v h
  .exact eS.out.one v h
  .exact eT.out.one v h
  .exact dR.out.one v h
  .exact dS.out.one v h
  .exact dT.out.one v h
  .exact dU.out.one v h
  .exact dV.out.one v h
  .exact dW.out.one v h
  .exact dX.out.one v h
  .exact dY.out.one v h
 have B:=fU (bK.out.at ew.out (by simp));have eU:Hid (z.there bB 4 cs.toArray.size):=by
  refine fU (λj hj=>⟨?_,gE B.out _⟩);have:cs.toArray.size=180:=by rw[bP];rfl
  rw[fW B.out,wL (by simp only[RM,BC,se];omega)];rfl
 clear E0 E1 E2 E3 E4 E5 E6 E7 E8 E9 e0 e3 e4 e5 e6 e7 e8 e9;rename_i KK bS;refine bS _ _ ?_;clear bS;refine wpList_buildTo rfl 148 _ rfl _ rfl cs.toArray (by rw[HC.out];kernel_rfl) ?_;clear HC bP;refine AL rfl _ rfl (iC bB) (by kernel_rfl) ?_;refine AL rfl _ rfl (jG bB 4) (by kernel_rfl) ?_;refine wpList_store_mid rfl 148 _ _ rfl bB 4 cs.toArray rfl rfl eU.out (by rw[show cs.toArray.size=180 from eg.out.1];kernel_rfl) dQ.out ?_;obtain⟨bO,bN⟩:∃W,W=z.setCells bB 4 cs.toArray.toList:=⟨_,rfl⟩;rw[<-bN];have bU:Kept [bB] z bO:=by rw[bN];exact Kept.setCells (.inl (by simp)) _ _ (Kept.refl _ _)
 have eX:vT bm z bO:=⟨_,bU,λx hx _=>by
  have e:=List.mem_singleton.1 hx;subst e;exact .inl ⟨_,_,_,B.out,by decide⟩⟩
 have eW:Kept [] w bO:=(eA.out.trans bK.out).next bU (λx hx=> .inr (by rw[List.mem_singleton.1 hx];exact dO.out.1))
 have bT:=km cs z bB _ _ _ 4 B.out;rw[show z.setCells bB 4 cs=bO from bN.symm]at bT;have FN:Hid (ac5 bm bB bD d f a (.func af aa al) w bO):=by
  have f6:vT bm W6 bO:=(vT.gX bK.out).trans eX;exact fU ⟨eW,dO.out.1,⟨_,cs,_,_,_,bT,rfl,eg.out.YV bU B.out,dK.out.1.fr f6,dK.out.2.1.fr f6,dK.out.2.2.fr f6⟩,bU.at (bK.out.at et.out (by simp)) (by have:=eb.out;simpa using this),eb.out,dO.out.2⟩
 clear bU eX eW bT bN eg dQ B eU dK ew eA et dO eb q;generalize Value.agg cs.toArray=fT;rename_i KK bS;refine bS _ _ ?_;clear bS;simp only[Act.put,jB,jC,jD];go_wp2;go_ret;exact⟨bm,bB,bD,rfl,FN.out⟩
structure Loc where
 gP:Nat->Nat
 av:Nat->gO
 kv:Nat->gO
 ov:gO
 cv:gO
 wv:gO
structure Env where
 bm:Nat
 bB:Nat
 bR:Nat
 C0:jM
 R0:jM
 EM:Nat
 w0:gv
 tv:gO
 ta:lh
 bs:Nat
 wv:Option (gO×List (Nat×Nat×gy)):=none
variable {E : Env}
def Nd.map (f:Nat->Nat):Nd->Nd
 | .el k=> .el (f k)
 | .tx k=> .tx (f k)
 | .cm k=> .cm (f k)
 | .dt k=> .dt (f k)
abbrev iD (f:Nat->Nat) (x:jg):jg:=x.map f
def flat (gL:lh):List gO:=gL.flatMap λa=>[gH a.1,gH a.2]
abbrev yF (w:gv) (v:gO) (gL:lh):Prop:=w.ownsRow 0 275 2 v gL.length (flat gL)
abbrev M8 (x:Nat×Nat×gy):gO:= .iface 167 (.agg #[gn x.1,gn x.2.1,gH x.2.2])
def kX (bs:Nat) (L:Loc) (w:gv) (i:Nat):AQ->Prop
 | .el e=>El bs w (L.gP i) e.name (L.av i) (iD L.gP e.je) (L.kv i) (e.kids.map (Nd.map L.gP))/\yF w (L.av i) e.gU/\e.gU.length<=4096
 | .tx s=>w.heap[L.gP i]?=some (gI #[gH s] 260)
 | .cm s=>w.heap[L.gP i]?=some (gI #[gH s] 218)
 | .dt s=>w.heap[L.gP i]?=some (gI #[gH s] 222)
structure jw (E:Env) (L:Loc) (σ:Ab) (C:jM):Prop where
 size:C.size=199
 low:∀i,i < 188->C[i]?=E.C0[i]?
 gz:C[188]?=some L.ov
 act:C[189]?=some L.cv
 head:C[190]?=some (kh (iD L.gP σ.head))
 form:C[191]?=some (kh (iD L.gP σ.form))
 mode:C[192]?=some (gn σ.mode)
 kept:C[193]?=some (gn σ.kept)
 wait:C[194]?=some L.wv
 IL:C[195]?=some (.bool σ.iR)
 jN:C[196]?=some (.bool σ.jN)
 gP:C[197]?=some (gn σ.gP)
 behind:C[198]?=some (.bool σ.behind)
structure OK (E:Env) (bD:Nat):Prop where
 Gn:∃cs,(∀k,k < 180->E.C0[4+k]?=cs[k]?)/\AU E.bm E.bB bD cs E.w0
 txt:E.C0[3]?=some (.func (.func 36) #[gJ E.bR] #[])
 spec:∃v,E.C0[184]?=some v/\Ask E.bm v lc E.w0
 V5:∃v,E.C0[185]?=some v/\Ask E.bm v uM E.w0
 VA:∃v,E.C0[186]?=some v/\Ask E.bm v iP E.w0
 xf:E.C0[187]?=some (gJ bD)
structure Rel (E:Env) (L:Loc) (σ:Ab) (w:gv):Prop where
 fr:Fr E.bs E.w0 w
 env:OK E (L.gP 0)
 DU:E.C0[0]?=some (gn σ.pQ)/\E.C0[1]?=some (gn σ.qQ)/\E.C0[2]?=some (gn σ.oZ)/\σ.pQ<=64/\σ.qQ<=32/\σ.oZ<=16
 sN:∀i nd,σ.nodes[i]?=some nd->kX E.bs L w i nd
 inj:∀i j,L.gP i=L.gP j->i=j
 A8:∀i j g,i < σ.nodes.length->j < σ.nodes.length->i≠j->(L.kv i).ownBlock=some g->(L.kv j).ownBlock≠some g
 Ga:∀i,i < σ.nodes.length->σ.hU i=none->(L.kv i).ownBlock=none
 uq:∀i j e g,σ.hU i=some e->nk e.name=true->j < σ.nodes.length->i≠j->(L.av i).ownBlock=some g->(L.av j).ownBlock≠some g
 Eu:∀i,i < σ.nodes.length->σ.hU i=none->(L.av i).ownBlock=none
 wf:Wf σ
 ir:∃C,w.heap[E.bB]?=some (gI C 157)/\jw E L σ C
 o0:w.ownsRow E.bs 57 1 L.ov σ.gz.length (σ.gz.map λx=>kh (iD L.gP x))
 pX:w.ownsRow E.bs 57 1 L.cv σ.act.length (σ.act.map λx=>kh (iD L.gP x))
 Gd:∀g,L.ov.ownBlock=some g->L.cv.ownBlock≠some g
 wV:σ.gz.length<=4096
 Ey:σ.act.length<=4096
 oS:w.ownsRow E.bs 97 1 L.wv σ.waiting.length (σ.waiting.map M8)
 LB:σ.waiting.length<=4096
 rd:w.heap[E.bR]?=some (gI ((E.R0.setIfInBounds E.EM (gH σ.nD)).setIfInBounds (E.EM+1) (.bool σ.iZ)) 132)
 QS:E.EM+1 < E.R0.size
 tok:yF w E.tv E.ta
 Ly:E.ta.length<=4096
 bz:E.bs<=E.w0.heap.size
 bB:E.bs<=E.bB
 bR:E.bs<=E.bR
 bN:∀i,i < σ.nodes.length->E.bs<=L.gP i
 De:σ.fresh=true->∀i g,i < σ.nodes.length->E.tv.ownBlock=some g->(L.av i).ownBlock≠some g
 ab:∀i g,i < σ.nodes.length->(L.av i).ownBlock=some g->E.bs<=g
 tb:∀g,E.tv.ownBlock=some g->E.bs<=g
 LA:∀p,E.wv=some p->L.wv=p.1/\σ.waiting=p.2
def KT (bs:Nat) (T:List TypeId) (w w':gv):Prop:=∃S,Kept S w w'/\∀k∈S,k < w.heap.size->(∃c t m,w.heap[k]?=some (.cells c t m)/\t∈T)/\bs<=k
def KT.size (h:KT bs T w w'):w.heap.size<=w'.heap.size:=by have⟨S,hk,_⟩:=h;exact hk.size
def KT.jU {S : List Nat} (h:Kept S w w') (d:∀k∈S,k < w.heap.size->(∃c t m,w.heap[k]?=some (.cells c t m)/\t∈T)/\bs<=k):KT bs T w w':=⟨S,h,d⟩
def KT.gX (h:Kept [] w w'):KT bs T w w':=⟨[],h,λ_ d=>by cases d⟩
theorem KT.mono {d : List TypeId} (h:KT bs T w w') (j:∀t∈T,t∈d):KT bs d w w':=by
 grind[KT]
def KT.fr (h:KT bs T w w') (d:∀t∈T,t∈Vh):Fr bs w w':=h.mono d
theorem KT.at (h:KT bs T w w') {m : Nat×Nat} (d:w.heap[g]?=some (.cells c t m)) (l:t∉T):w'.heap[g]?=some (.cells c t m):=by
 have⟨S,hk,hS⟩:=h;refine hk.at d λj=>?_
 grind
theorem KT.row (h:KT bs T w w') {d : Nat} (m:w.ownsRow base e d v n xs) (B:e∉T):w'.ownsRow base e d v n xs:=by
 refine⟨m.1,?_⟩;rcases m.2 with D|⟨g,j,l,rfl,q,z,A⟩
 .grind
 .exact .inr ⟨g,j,l,rfl,q,h.at z B,A⟩
theorem rY {d : Nat} (q:w.ownsRow base e d v n xs) (h:v.ownBlock=some g):∃c m,w.heap[g]?=some (.cells c e m):=by
 rcases q.2 with⟨e1,_⟩|⟨z,j,l,rfl,_,A,_⟩
 .rw[e1]at h;cases h
 .obtain rfl:=jL h
  grind
theorem Cv {d : Nat} (l:w.ownsRow base e d v n xs) {m : Nat×Nat} (q:w.heap[b]?=some (.cells c t m)) (z:t≠e):v.ownBlock≠some b:=by
 intro j;have⟨c',m',h⟩:=rY l j
 grind
def Cu {d : Nat} (j:w.ownsRow base e d v n xs) (h:v.ownBlock=some g):g < w.heap.size:=(j.lt g h).2
def TN:List TypeId:=[142,183,260,218,222,275]
def kX.kt {l : Nat} {L:Loc} {nd:AQ} (h:kX l L w i nd) (j:KT bs T w w') (d:∀t∈TN,t∉T):kX l L w' i nd:=by
 cases nd with
 |el e=>exact⟨⟨j.at h.1.ir (d _ (by decide)),j.row h.1.row (d _ (by decide)),h.1.le,h.1.TW⟩,j.row h.2.1 (d _ (by decide)),h.2.2⟩
 |tx s=>exact j.at h (d _ (by decide))
 |cm s=>exact j.at h (d _ (by decide))
 |dt s=>exact j.at h (d _ (by decide))
def kX.kept {S : List Nat} {L:Loc} {nd:AQ} (h:kX bs L w i nd) (d:Kept S w w') (j:L.gP i∉S) (l:∀g,(L.kv i).ownBlock=some g->g∉S) (m:∀g,(L.av i).ownBlock=some g->g∉S):kX bs L w' i nd:=by
 cases nd with
 |el e=>exact⟨h.1.kept d j l,d.ownsRow h.2.1 m,h.2.2⟩
 |tx s=>exact d.at h j
 |cm s=>exact d.at h j
 |dt s=>exact d.at h j
def AQ.typ:AQ->TypeId
 | .el _=>142
 | .tx _=>260
 | .cm _=>218
 | .dt _=>222
variable {nd : AQ}
def kX.typ {L:Loc} (h:kX bs L w i nd):∃c,w.heap[L.gP i]?=some (gI c nd.typ):=by
 cases nd with
 |el e=>exact⟨_,h.1.ir⟩
 |tx s=>exact⟨_,h⟩
 |cm s=>exact⟨_,h⟩
 |dt s=>exact⟨_,h⟩
theorem rM (d:∀i j,f i=f j->i=j) (h:iD f x=iD f y):x=y:=by
 cases x<;>cases y<;>simp_all[iD]
 grind
theorem yd (f:Nat->Nat) (xs:kQ) (n:Int):iB (xs.map (iD f)) n=iD f (iB xs n):=by
 grind[iB]
theorem A5 (d:∀i j,f i=f j->i=j) (x:jg):∀xs:kQ,(xs.map (iD f)).idxOf (iD f x)=xs.idxOf x
 |[]=>rfl
 |y::xs=>by
  rw[yC,List.idxOf_cons,List.idxOf_cons,A5 d x xs]
  by_cases h:y=x
  .grind
  .have l:iD f y≠iD f x:=λe=>h (rM d e)
   grind
def Mk (d:∀i j,f i=f j->i=j) (xs:kQ) (x:jg):posOf (xs.map (iD f)) (iD f x)=posOf xs x:=by
 unfold posOf;rw[A5 d,BP]
theorem mem_map (d:∀i j,f i=f j->i=j) (xs:kQ) (x:jg):iD f x∈xs.map (iD f)↔x∈xs:=by
 constructor
 .intro h;have⟨y,hy,e⟩:=List.mem_map.1 h;rw[<-rM d e];exact hy
 grind
theorem vH (d:∀i j,f i=f j->i=j) (x:jg):∀xs:kQ,(xs.map (iD f)).erase (iD f x)=(xs.erase x).map (iD f)
 |[]=>rfl
 |y::xs=>by
  rw[yC,List.erase_cons,List.erase_cons,vH d x xs]
  by_cases h:y=x
  .grind
  .have l:iD f y≠iD f x:=λe=>h (rM d e)
   grind
def JF (d:∀i j,f i=f j->i=j) (xs:kQ) (x y:jg):pM (xs.map (iD f)) (iD f x) (iD f y)=(pM xs x y).map (iD f):=by
 unfold pM;rw[A5 d]
 by_cases h:x∈xs
 .rw[gF h,gF ((mem_map d xs x).2 h),List.map_set]
 .rw[gQ h,gQ (λe=>h ((mem_map d xs x).1 e))]
def BF (d:∀i j,f i=f j->i=j) (xs:kQ) (x y:jg):jb (xs.map (iD f)) (iD f x) (iD f y)=(jb xs x y).map (iD f):=by
 unfold jb;rw[A5 d]
 by_cases h:x∈xs
 .rw[gF h,gF ((mem_map d xs x).2 h)];simp
 .rw[gQ h,gQ (λe=>h ((mem_map d xs x).1 e))]
theorem Mi (l:∀i j,f i=f j->i=j) (xs:kQ) (x:jg):oe (xs.map (iD f)) (iD f x)=(oe xs x).map (iD f):=by
 have h:∀d:kQ,(d.map (iD f)).dropWhile (·≠iD f x)=(d.dropWhile (·≠x)).map (iD f):=by
  intro d
  induction d with
  |nil=>rfl
  |cons y d ih=>
   rw[yC,List.dropWhile_cons,List.dropWhile_cons]
   by_cases h:y=x
   .grind
   .have m:iD f y≠iD f x:=λe=>h (rM l e)
    grind
 unfold oe;rw[<-U9,h];simp
theorem jw.abZ {L:Loc} (h:jw E L σ C) (v:gO) (zs:kQ):jw E {L with ov:=v} {σ with gz:=zs} (C.setIfInBounds 188 v):=by
 cases h;constructor<;>grind
theorem jw.abY {L:Loc} (h:jw E L σ C) (v:gO) (zs:kQ):jw E {L with cv:=v} {σ with act:=zs} (C.setIfInBounds 189 v):=by
 cases h;constructor<;>grind
theorem jw.yp {L:Loc} (h:jw E L σ C) (x:jg):jw E L {σ with head:=x} (C.setIfInBounds 190 (kh (iD L.gP x))):=by
 cases h;constructor<;>grind
theorem jw.uP {L:Loc} (h:jw E L σ C) (x:jg):jw E L {σ with form:=x} (C.setIfInBounds 191 (kh (iD L.gP x))):=by
 cases h;constructor<;>grind
theorem jw.jc {L:Loc} (h:jw E L σ C) (x:Nat):jw E L {σ with mode:=x} (C.setIfInBounds 192 (gn x)):=by
 cases h;constructor<;>grind
theorem jw.yq {L:Loc} (h:jw E L σ C) (x:Nat):jw E L {σ with kept:=x} (C.setIfInBounds 193 (gn x)):=by
 cases h;constructor<;>grind
theorem jw.ZH {L:Loc} (h:jw E L σ C) (v:gO) (d:List (Nat×Nat×gy)):jw E {L with wv:=v} {σ with waiting:=d} (C.setIfInBounds 194 v):=by
 cases h;constructor<;>grind
theorem jw.yo {L:Loc} (h:jw E L σ C) (x:Bool):jw E L {σ with iR:=x} (C.setIfInBounds 195 (.bool x)):=by
 cases h;constructor<;>grind
theorem jw.qz {L:Loc} (h:jw E L σ C) (x:Bool):jw E L {σ with jN:=x} (C.setIfInBounds 196 (.bool x)):=by
 cases h;constructor<;>grind
theorem jw.Cy {L:Loc} (h:jw E L σ C) (x:Nat):jw E L {σ with gP:=x} (C.setIfInBounds 197 (gn x)):=by
 cases h;constructor<;>grind
theorem jw.sq {L:Loc} (h:jw E L σ C) (x:Bool):jw E L {σ with behind:=x} (C.setIfInBounds 198 (.bool x)):=by
 cases h;constructor<;>grind
theorem kX.loc {L L':Loc} (h:kX bs L w i nd) (e1:L'.gP=L.gP) (e2:L'.av=L.av) (d:L'.kv=L.kv):kX bs L' w i nd:=by
 cases nd<;>(grind[kX])
theorem Rel.TX {L:Loc} (h:Rel E L σ w):∃C,w.heap[E.bB]?=some (gI C 157):=by
 have⟨C,hb,_⟩:=h.ir;grind
def Rel.free {L:Loc} (h:Rel E L σ w) (j:Nat):w.frozen? ⟨E.bB,j,none⟩=false:=by
 have⟨C,hb⟩:=h.TX;exact gE hb j
theorem Rel.lt {L:Loc} (h:Rel E L σ w):E.bB < w.heap.size:=by
 have⟨C,hb⟩:=h.TX;grind
def Rel.low {L:Loc} (h:Rel E L σ w) {j : Nat} (d:j < 188) (l:E.C0[j]?=some v):w.cell? ⟨E.bB,j,none⟩=some v:=by
 have⟨C,hb,hC⟩:=h.ir;rw[fW hb];exact(hC.low j d).trans l
def Rel.VB {L:Loc} (h:Rel E L σ w):w.cell? ⟨E.bB,190,none⟩=some (kh (iD L.gP σ.head)):=by
 have⟨C,hb,hC⟩:=h.ir;rw[fW hb];exact hC.head
def Rel.R5 {L:Loc} (h:Rel E L σ w):w.cell? ⟨E.bB,191,none⟩=some (kh (iD L.gP σ.form)):=by
 have⟨C,hb,hC⟩:=h.ir;rw[fW hb];exact hC.form
def Rel.rJ {L:Loc} (h:Rel E L σ w):w.cell? ⟨E.bB,192,none⟩=some (gn σ.mode):=by
 have⟨C,hb,hC⟩:=h.ir;rw[fW hb];exact hC.mode
def Rel.R6 {L:Loc} (h:Rel E L σ w):w.cell? ⟨E.bB,193,none⟩=some (gn σ.kept):=by
 have⟨C,hb,hC⟩:=h.ir;rw[fW hb];exact hC.kept
def Rel.aaA {L:Loc} (h:Rel E L σ w):w.cell? ⟨E.bB,194,none⟩=some L.wv:=by
 have⟨C,hb,hC⟩:=h.ir;rw[fW hb];exact hC.wait
def Rel.X1 {L:Loc} (h:Rel E L σ w):w.cell? ⟨E.bB,195,none⟩=some (.bool σ.iR):=by
 have⟨C,hb,hC⟩:=h.ir;rw[fW hb];exact hC.IL
def Rel.X2 {L:Loc} (h:Rel E L σ w):w.cell? ⟨E.bB,196,none⟩=some (.bool σ.jN):=by
 have⟨C,hb,hC⟩:=h.ir;rw[fW hb];exact hC.jN
def Rel.R7 {L:Loc} (h:Rel E L σ w):w.cell? ⟨E.bB,197,none⟩=some (gn σ.gP):=by
 have⟨C,hb,hC⟩:=h.ir;rw[fW hb];exact hC.gP
def Rel.X3 {L:Loc} (h:Rel E L σ w):w.cell? ⟨E.bB,198,none⟩=some (.bool σ.behind):=by
 have⟨C,hb,hC⟩:=h.ir;rw[fW hb];exact hC.behind
def Rel.il {L:Loc} (h:Rel E L σ w) (j:Kept [] w w'):Rel E L σ w':=by
 have d:KT E.bs [] w w':= .gX j;have⟨C,hb,hC⟩:=h.ir;exact {h with
  fr:=h.fr.trans (.gX j)
  sN:=λi nd l=>(h.sN i nd l).kt d (by simp)
  ir:=⟨C,d.at hb (by simp),hC⟩
  o0:=d.row h.o0 (by simp)
  pX:=d.row h.pX (by simp)
  oS:=d.row h.oS (by simp)
  rd:=d.at h.rd (by simp)
  tok:=d.row h.tok (by simp)}
def Rel.bw {L:Loc} (h:Rel E L σ w):E.bs<=w.heap.size:=jP h.bz h.fr.size
def To (E:Env) (L:Loc) (σ':Ab) (w w':gv):Prop:=∃L',L'.gP=L.gP/\Rel E L' σ' w'/\Fr E.bs w w'
def Rel.to {L:Loc} (h:Rel E L σ w') (d:Fr E.bs w w'):To E L σ w w':=⟨L,rfl,h,d⟩
def Rel.store {L:Loc} {σ' : Ab} (h:Rel E L σ w) (j:Nat) (u:gO) (U:∀C,jw E L σ C->jw E L σ' (C.setIfInBounds j u)) (H:Wf σ') (d:σ'.nodes=σ.nodes:=by rfl) (K:σ'.gz=σ.gz:=by rfl) (I:σ'.act=σ.act:=by rfl) (G:σ'.waiting=σ.waiting:=by rfl) (N:σ'.nD=σ.nD:=by rfl) (O:σ'.iZ=σ.iZ:=by rfl) (S:σ'.fresh=σ.fresh:=by rfl) (B:σ'.pQ=σ.pQ:=by rfl) (D:σ'.qQ=σ.qQ:=by rfl) (F:σ'.oZ=σ.oZ:=by rfl):Rel E L σ' (w.setCell ⟨E.bB,j,none⟩ u):=by
 obtain⟨C,J,V⟩:=h.ir;have z:Kept [E.bB] w (w.setCell ⟨E.bB,j,none⟩ u):=(Kept.refl _ w).setCell (.inl (by simp)) u;have q:KT E.bs [157] w (w.setCell ⟨E.bB,j,none⟩ u):= .jU z (λk z _=>by simp at z;subst z;exact⟨⟨_,_,_,J,by simp⟩,h.bB⟩);have A:∀i,σ'.hU i=σ.hU i:=λi=>by unfold Ab.hU;rw[d]
 exact {h with
  fr:=h.fr.trans (q.fr (by decide))
  DU:=by rw[B,D,F];exact h.DU
  sN:=λi nd m=>(h.sN i nd (by rw[<-d];exact m)).kt q (by decide)
  bN:=by rw[d];exact h.bN
  A8:=by rw[d];exact h.A8
  Ga:=λi m l=>h.Ga i (by rw[<-d];exact m) (by rw[<-A];exact l)
  uq:=λi j e g m W Y=>h.uq i j e g (by rw[<-A];exact m) W (by rw[<-d];exact Y)
  Eu:=λi m l=>h.Eu i (by rw[<-d];exact m) (by rw[<-A];exact l)
  wf:=H
  ir:=⟨_,gg J j u,U C V⟩
  o0:=by rw[K];exact q.row h.o0 (by decide)
  pX:=by rw[I];exact q.row h.pX (by decide)
  wV:=by rw[K];exact h.wV
  Ey:=by rw[I];exact h.Ey
  oS:=by rw[G];exact q.row h.oS (by decide)
  LB:=by rw[G];exact h.LB
  rd:=by rw[N,O];exact q.at h.rd (by decide)
  tok:=q.row h.tok (by decide)
  De:=by rw[S,d];exact h.De
  ab:=by rw[d];exact h.ab
  LA:=by rw[G];exact h.LA}
def Rel.yp {L:Loc} (h:Rel E L σ w) (x:jg) (j:σ.gW x=true):Rel E L {σ with head:=x} (w.setCell ⟨E.bB,190,none⟩ (kh (iD L.gP x))):=
 h.store 190 _ (λC d=>d.yp x) {h.wf with head:=j}
def Rel.uP {L:Loc} (h:Rel E L σ w) (x:jg) (j:σ.gW x=true):Rel E L {σ with form:=x} (w.setCell ⟨E.bB,191,none⟩ (kh (iD L.gP x))):=
 h.store 191 _ (λC d=>d.uP x) {h.wf with form:=j}
def Rel.jc {L:Loc} (h:Rel E L σ w) (x:Nat):Rel E L {σ with mode:=x} (w.setCell ⟨E.bB,192,none⟩ (gn x)):=
 h.store 192 _ (λC d=>d.jc x) {h.wf with}
def Rel.yq {L:Loc} (h:Rel E L σ w) (x:Nat):Rel E L {σ with kept:=x} (w.setCell ⟨E.bB,193,none⟩ (gn x)):=
 h.store 193 _ (λC d=>d.yq x) {h.wf with}
def Rel.yo {L:Loc} (h:Rel E L σ w) (x:Bool):Rel E L {σ with iR:=x} (w.setCell ⟨E.bB,195,none⟩ (.bool x)):=
 h.store 195 _ (λC d=>d.yo x) {h.wf with}
def Rel.qz {L:Loc} (h:Rel E L σ w) (x:Bool):Rel E L {σ with jN:=x} (w.setCell ⟨E.bB,196,none⟩ (.bool x)):=
 h.store 196 _ (λC d=>d.qz x) {h.wf with}
def Rel.Cy {L:Loc} (h:Rel E L σ w) (x:Nat):Rel E L {σ with gP:=x} (w.setCell ⟨E.bB,197,none⟩ (gn x)):=
 h.store 197 _ (λC d=>d.Cy x) {h.wf with}
def Rel.sq {L:Loc} (h:Rel E L σ w) (x:Bool):Rel E L {σ with behind:=x} (w.setCell ⟨E.bB,198,none⟩ (.bool x)):=
 h.store 198 _ (λC d=>d.sq x) {h.wf with}
def Rel.gW {L:Loc} (h:Rel E L σ w) (j:σ.gW x=true):tr w (iD L.gP x):=by
 intro k d;cases x with
 |none=>cases d
 |some i=>
  obtain rfl:=jL d;unfold Ab.gW at j;have⟨e,he⟩:=Option.isSome_iff_exists.1 j;exact⟨_,(h.sN i _ (Ab.jo he)).1.ir⟩
def Mj {xs : kQ} (h:y∈oe xs x):y∈xs:=by
 unfold oe at h;rw[List.mem_reverse]at h;exact List.mem_reverse.1 ((Z6 _).subset (List.mem_of_mem_tail h))
theorem JH {xs : kQ} {z : jg} (h:z∈pM xs x y):z∈xs\/z=y:=by
 unfold pM at h
 grind
theorem BI {xs : kQ} {z : jg} (h:z∈jb xs x y):z∈xs\/z=y:=by
 unfold jb at h
 grind
def Rel.yZ {L:Loc} (h:Rel E L σ w):∃C,wY E.bs E.bB 188 157 C L.ov (σ.gz.map (iD L.gP)) w/\jw E L σ C:=by
 have⟨C,hb,hC⟩:=h.ir;refine⟨C,⟨hb,hC.gz,?_,by decide,by simpa using h.wV⟩,hC⟩
 simpa [RQ,Va]using h.o0
def Rel.elO {L:Loc} (h:Rel E L σ w):∀x∈σ.gz.map (iD L.gP),tr w x:=by
 intro x d;obtain⟨y,j,rfl⟩:=List.mem_map.1 d;exact h.gW (Ab.vA (h.wf.gz y j))
def Sd (L:Loc) (w:gv) (k:Nat) (v:gO):Prop:=w.heap[k]?=some (gI #[v] 57)/\L.ov.ownBlock≠some k/\L.cv.ownBlock≠some k
def XF (E:Env) (L:Loc) (σ':Ab) (w w':gv):Prop:=∃L',L'.gP=L.gP/\Rel E L' σ' w'/\Fr E.bs w w'/\∀k v,Sd L w k v->Sd L' w' k v
theorem Sd.YU {L:Loc} {u : gO} (h:Sd L w k v) (j:Kept (b::u.ownBlock.toList) w w') (l:w.heap[b]?=some (gI C 157)) (m:u.ownBlock≠some k):w'.heap[k]?=some (gI #[v] 57):=by
 refine j.at h.1 λd=>?_;rcases List.mem_cons.1 d with rfl|d
 .have:=h.1
  grind
 grind
def Sd.CV {L:Loc} {v' : gO} (h:Sd L w k v) (l:Kept (b::L.ov.ownBlock.toList) w w') (j:w.heap[b]?=some (gI C 157)) (d:v'.ownBlock=L.ov.ownBlock\/∀g,v'.ownBlock=some g->w.heap.size<=g):Sd {L with ov:=v'} w' k v:=by
 refine⟨h.YU l j h.2.1,λe=>?_,h.2.2⟩;rcases d with d|d
 .exact h.2.1 (d▸e)
 .have:=d k e;have:=jk h.1;omega
def Sd.AH {L:Loc} {v' : gO} (h:Sd L w k v) (l:Kept (b::L.cv.ownBlock.toList) w w') (j:w.heap[b]?=some (gI C 157)) (d:v'.ownBlock=L.cv.ownBlock\/∀g,v'.ownBlock=some g->w.heap.size<=g):Sd {L with cv:=v'} w' k v:=by
 refine⟨h.YU l j h.2.2,h.2.1,λe=>?_⟩;rcases d with d|d
 .exact h.2.2 (d▸e)
 .have:=d k e;have:=jk h.1;omega
def Rel.Oy {L:Loc} (h:Rel E L σ w) (j:wY E.bs E.bB 188 157 C L.ov (σ.gz.map (iD L.gP)) w) (J:jw E L σ C) (U:oz E.bs E.bB 188 157 C L.ov (zs.map (iD L.gP)) w w') (V:∀x∈zs,σ.mG x=true):XF E L {σ with gz:=zs} w w':=by
 obtain⟨I,q,B,D⟩:=U;have d:KT E.bs [157,57] w w':= .jU B (λk l _=>by
  rcases List.mem_cons.1 l with rfl|l
  .exact⟨⟨_,_,_,j.ir,by simp⟩,h.bB⟩
  .obtain⟨c,m,K⟩:=rY j.row (by simpa using l);exact⟨⟨_,_,_,K,by simp⟩,(j.row.lt k (by simpa using l)).1⟩)
 have z:∀g,L.cv.ownBlock=some g->g∉E.bB::L.ov.ownBlock.toList:=by
  intro g H A;rcases List.mem_cons.1 A with rfl|A
  .exact Cv h.pX j.ir (by decide) H
  .exact(h.Gd:∀g,L.ov.ownBlock=some g->L.cv.ownBlock≠some g) g (by simpa using A) H
 refine⟨{L with ov:=I},rfl,?_,d.fr (by decide),λk v S=>S.CV B j.ir D⟩;exact {h with
  fr:=h.fr.trans (d.fr (by decide))
  sN:=λi nd N=>((h.sN i nd N).kt d (by decide)).loc rfl rfl rfl
  wf:={h.wf with gz:=V}
  ir:=⟨_,q.ir,J.abZ I zs⟩
  o0:=by simpa [RQ,Va]using q.row
  pX:=B.ownsRow h.pX z
  Gd:=by
   intro g F G;have O:=Cu h.pX (g:=g) G;rcases D with e|e
   .exact h.Gd g (by rw[<-e];exact F) G
   .have:=e g F;omega
  wV:=by simpa using q.le
  oS:=d.row h.oS (by decide)
  rd:=d.at h.rd (by decide)
  tok:=d.row h.tok (by decide)}
def Rel.CV {L:Loc} (h:Rel E L σ w) (j:wY E.bs E.bB 188 157 C L.ov (σ.gz.map (iD L.gP)) w) (d:jw E L σ C) (l:oz E.bs E.bB 188 157 C L.ov (zs.map (iD L.gP)) w w') (m:∀x∈zs,σ.mG x=true):To E L {σ with gz:=zs} w w':=
 have⟨L1,a,b,c,_⟩:=h.Oy j d l m
 ⟨L1,a,b,c⟩
def Zh {L:Loc} (h:Rel E L σ w):
  Calls prog 251 #[jG E.bB 188] w λe w'=>e=iq (gn σ.gz.length)/\w'=w:=by
 have⟨C,hL,hC⟩:=h.yZ;have:=acL E.bs E.bB 188 _ C _ _ w hL
 rwa [BP]at this
def ae0 {L:Loc} (h:Rel E L σ w) (n:Int):
  Calls prog 229 #[jG E.bB 188,gn n] w λe w'=>e=iq (kh (iD L.gP (iB σ.gz n)))/\w'=w:=by
 have⟨C,hL,hC⟩:=h.yZ;have:=YY E.bs E.bB 188 _ C _ _ n w hL
 rwa [yd]at this
def SV {L:Loc} (h:Rel E L σ w):
  Calls prog 160 #[jG E.bB 188] w λe w'=>e=iq (kh (iD L.gP (iB σ.gz ((σ.gz.length:Int) - 1))))/\w'=w:=by
 have⟨C,hL,hC⟩:=h.yZ;have:=YZ E.bs E.bB 188 _ C _ _ w hL
 rwa [yd,BP]at this
def ae1 {L:Loc} (h:Rel E L σ w) (x:jg) (d:σ.gW x=true):
  Calls prog 303 #[jG E.bB 188,kh (iD L.gP x)] w λe w'=>e=iq (.bool (decide (x∈σ.gz)))/\w'=w:=by
 have⟨C,hL,hC⟩:=h.yZ;have:=acK E.bs E.bB 188 _ C _ _ (iD L.gP x) w hL h.elO (h.gW d)
 rwa [decide_eq_decide.2 (mem_map h.inj σ.gz x)]at this
def zd {L:Loc} (h:Rel E L σ w) (x:jg) (d:σ.gW x=true):
  Calls prog 227 #[jG E.bB 188,kh (iD L.gP x)] w λe w'=>e=iq (kh (iD L.gP (iB σ.gz (posOf σ.gz x - 1))))/\w'=w:=by
 have⟨C,hL,hC⟩:=h.yZ;have:=NH E.bs E.bB 188 _ C _ _ (iD L.gP x) w hL h.elO (h.gW d)
 rwa [Mk h.inj,yd]at this
theorem adV {L:Loc} (h:Rel E L σ w) (x:jg) (m:σ.mG x=true) (j:σ.gz.length < 4096):
  Calls prog 253 #[jG E.bB 188,kh (iD L.gP x)] w λe w'=>e=p8/\To E L {σ with gz:=σ.gz++[x]} w w':=by
 have⟨C,hL,hC⟩:=h.yZ;refine(Y0 E.bs E.bB 188 _ C _ _ (iD L.gP x) w hL (by grind) h.bw).mono ?_;rintro e w' ⟨rfl,l⟩;refine⟨rfl,h.CV hL hC (by grind) λy d=>?_⟩;rcases List.mem_append.1 d with d|d
 .exact h.wf.gz y d
 grind
theorem Qn {L:Loc} (h:Rel E L σ w):
  Calls prog 165 #[jG E.bB 188] w λe w'=>e=iq (kh (iD L.gP (iB σ.gz ((σ.gz.length:Int) - 1))))/\To E L {σ with gz:=σ.gz.dropLast} w w':=by
 have⟨C,hL,hC⟩:=h.yZ;refine(acM E.bs E.bB 188 _ C _ _ w hL).mono ?_;rintro e w' ⟨rfl,j⟩;refine⟨by rw[yd,BP],h.CV hL hC (by grind) λy d=>h.wf.gz y (List.dropLast_subset _ d)⟩
def abr {L:Loc} (h:Rel E L σ w) (x:jg) (j:σ.gW x=true):
  Calls prog 309 #[jG E.bB 188,kh (iD L.gP x)] w λe w'=>e=p8/\To E L {σ with gz:=oe σ.gz x} w w':=by
 have⟨C,hL,hC⟩:=h.yZ;refine(Uq E.bs E.bB 188 _ C _ _ (iD L.gP x) w hL (by decide) h.elO (h.gW j)).mono ?_;rintro e w' ⟨rfl,d⟩;exact⟨rfl,h.CV hL hC (by rw[<-Mi h.inj];exact d) λy l=>h.wf.gz y (Mj l)⟩
def Zi {L:Loc} (h:Rel E L σ w) (x:jg) (j:σ.gW x=true):
  Calls prog 168 #[jG E.bB 188,kh (iD L.gP x)] w λe w'=>e=p8/\To E L {σ with gz:=σ.gz.erase x} w w':=by
 have⟨C,hL,hC⟩:=h.yZ;refine(Am E.bs E.bB 188 _ C _ _ (iD L.gP x) w hL h.elO (h.gW j)).mono ?_;rintro e w' ⟨rfl,d⟩;exact⟨rfl,h.CV hL hC (by rw[<-vH h.inj];exact d) λy l=>h.wf.gz y (AO l)⟩
theorem Qo {L:Loc} (h:Rel E L σ w) (x y:jg) (l:σ.gW x=true) (m:σ.mG y=true) (q:σ.gz.length < 4096):
  Calls prog 360 #[jG E.bB 188,kh (iD L.gP x),kh (iD L.gP y)] w λe w'=>e=p8/\To E L {σ with gz:=jb σ.gz x y} w w':=by
 have⟨C,hL,hC⟩:=h.yZ;refine(Gb E.bs E.bB 188 _ C _ _ (iD L.gP x) (iD L.gP y) w hL h.elO (h.gW l) (by grind) h.bw).mono ?_;rintro e w' ⟨rfl,j⟩;exact⟨rfl,h.CV hL hC (by rw[<-BF h.inj];exact j) λz d=>by rcases BI d with d|rfl;exact h.wf.gz z d;exact m⟩
def Rel.GF {L:Loc} (h:Rel E L σ w):∃C,wY E.bs E.bB 189 157 C L.cv (σ.act.map (iD L.gP)) w/\jw E L σ C:=by
 have⟨C,hb,hC⟩:=h.ir;refine⟨C,⟨hb,hC.act,?_,by decide,by simpa using h.Ey⟩,hC⟩
 simpa [RQ,Va]using h.pX
def Rel.elA {L:Loc} (h:Rel E L σ w):∀x∈σ.act.map (iD L.gP),tr w x:=by
 intro x d;obtain⟨y,j,rfl⟩:=List.mem_map.1 d;exact h.gW (h.wf.act y j)
def Rel.Ox {L:Loc} (h:Rel E L σ w) (j:wY E.bs E.bB 189 157 C L.cv (σ.act.map (iD L.gP)) w) (J:jw E L σ C) (U:oz E.bs E.bB 189 157 C L.cv (zs.map (iD L.gP)) w w') (V:∀x∈zs,σ.gW x=true):XF E L {σ with act:=zs} w w':=by
 obtain⟨I,A,F,G⟩:=U;have d:KT E.bs [157,57] w w':= .jU F (λk z _=>by
  rcases List.mem_cons.1 z with rfl|z
  .exact⟨⟨_,_,_,j.ir,by simp⟩,h.bB⟩
  .obtain⟨c,m,K⟩:=rY j.row (by simpa using z);exact⟨⟨_,_,_,K,by simp⟩,(j.row.lt k (by simpa using z)).1⟩)
 have B:∀g,L.ov.ownBlock=some g->g∉E.bB::L.cv.ownBlock.toList:=by
  intro g H D;rcases List.mem_cons.1 D with rfl|D
  .exact Cv h.o0 j.ir (by decide) H
  .exact((λg l q=>h.Gd g q l):∀g,L.cv.ownBlock=some g->L.ov.ownBlock≠some g) g (by simpa using D) H
 refine⟨{L with cv:=I},rfl,?_,d.fr (by decide),λk v S=>S.AH F j.ir G⟩;exact {h with
  fr:=h.fr.trans (d.fr (by decide))
  sN:=λi nd N=>((h.sN i nd N).kt d (by decide)).loc rfl rfl rfl
  wf:={h.wf with act:=V}
  ir:=⟨_,A.ir,J.abY I zs⟩
  pX:=by simpa [RQ,Va]using A.row
  o0:=F.ownsRow h.o0 B
  Gd:=by
   intro g l q;have O:=Cu h.o0 (g:=g) l;rcases G with e|e
   .exact h.Gd g l (by rw[<-e];exact q)
   .have:=e g q;omega
  Ey:=by simpa using A.le
  oS:=d.row h.oS (by decide)
  rd:=d.at h.rd (by decide)
  tok:=d.row h.tok (by decide)}
def Rel.AH {L:Loc} (h:Rel E L σ w) (j:wY E.bs E.bB 189 157 C L.cv (σ.act.map (iD L.gP)) w) (d:jw E L σ C) (l:oz E.bs E.bB 189 157 C L.cv (zs.map (iD L.gP)) w w') (m:∀x∈zs,σ.gW x=true):To E L {σ with act:=zs} w w':=
 have⟨L1,a,b,c,_⟩:=h.Ox j d l m
 ⟨L1,a,b,c⟩
def acv {L:Loc} (h:Rel E L σ w):
  Calls prog 251 #[jG E.bB 189] w λe w'=>e=iq (gn σ.act.length)/\w'=w:=by
 have⟨C,hL,hC⟩:=h.GF;have:=acL E.bs E.bB 189 _ C _ _ w hL
 rwa [BP]at this
def afv {L:Loc} (h:Rel E L σ w) (n:Int):
  Calls prog 229 #[jG E.bB 189,gn n] w λe w'=>e=iq (kh (iD L.gP (iB σ.act n)))/\w'=w:=by
 have⟨C,hL,hC⟩:=h.GF;have:=YY E.bs E.bB 189 _ C _ _ n w hL
 rwa [yd]at this
def aeB {L:Loc} (h:Rel E L σ w) (x:jg) (d:σ.gW x=true):
  Calls prog 303 #[jG E.bB 189,kh (iD L.gP x)] w λe w'=>e=iq (.bool (decide (x∈σ.act)))/\w'=w:=by
 have⟨C,hL,hC⟩:=h.GF;have:=acK E.bs E.bB 189 _ C _ _ (iD L.gP x) w hL h.elA (h.gW d)
 rwa [decide_eq_decide.2 (mem_map h.inj σ.act x)]at this
theorem ac8 {L:Loc} (h:Rel E L σ w) (x:jg) (m:σ.gW x=true) (j:σ.act.length < 4096):
  Calls prog 253 #[jG E.bB 189,kh (iD L.gP x)] w λe w'=>e=p8/\To E L {σ with act:=σ.act++[x]} w w':=by
 have⟨C,hL,hC⟩:=h.GF;refine(Y0 E.bs E.bB 189 _ C _ _ (iD L.gP x) w hL (by grind) h.bw).mono ?_;rintro e w' ⟨rfl,l⟩;refine⟨rfl,h.AH hL hC (by grind) λy d=>?_⟩;rcases List.mem_append.1 d with d|d
 .exact h.wf.act y d
 grind
def aap {L:Loc} (h:Rel E L σ w) (x:jg) (j:σ.gW x=true):
  Calls prog 309 #[jG E.bB 189,kh (iD L.gP x)] w λe w'=>e=p8/\To E L {σ with act:=oe σ.act x} w w':=by
 have⟨C,hL,hC⟩:=h.GF;refine(Uq E.bs E.bB 189 _ C _ _ (iD L.gP x) w hL (by decide) h.elA (h.gW j)).mono ?_;rintro e w' ⟨rfl,d⟩;exact⟨rfl,h.AH hL hC (by rw[<-Mi h.inj];exact d) λy l=>h.wf.act y (Mj l)⟩
def XI {L:Loc} (h:Rel E L σ w) (x:jg) (j:σ.gW x=true):
  Calls prog 168 #[jG E.bB 189,kh (iD L.gP x)] w λe w'=>e=p8/\To E L {σ with act:=σ.act.erase x} w w':=by
 have⟨C,hL,hC⟩:=h.GF;refine(Am E.bs E.bB 189 _ C _ _ (iD L.gP x) w hL h.elA (h.gW j)).mono ?_;rintro e w' ⟨rfl,d⟩;exact⟨rfl,h.AH hL hC (by rw[<-vH h.inj];exact d) λy l=>h.wf.act y (AO l)⟩
def Vo {L:Loc} (h:Rel E L σ w) (x y:jg) (l:σ.gW x=true) (m:σ.gW y=true):
  Calls prog 258 #[jG E.bB 189,kh (iD L.gP x),kh (iD L.gP y)] w λe w'=>e=p8/\To E L {σ with act:=pM σ.act x y} w w':=by
 have⟨C,hL,hC⟩:=h.GF;refine(ES E.bs E.bB 189 _ C _ _ (iD L.gP x) (iD L.gP y) w hL h.elA (h.gW l)).mono ?_;rintro e w' ⟨rfl,j⟩;exact⟨rfl,h.AH hL hC (by rw[<-JF h.inj];exact j) λz d=>by rcases JH d with d|rfl;exact h.wf.act z d;exact m⟩
theorem OS {L:Loc} (h:Rel E L σ w) (x y:jg) (l:σ.gW x=true) (m:σ.gW y=true) (q:σ.act.length < 4096):
  Calls prog 360 #[jG E.bB 189,kh (iD L.gP x),kh (iD L.gP y)] w λe w'=>e=p8/\To E L {σ with act:=jb σ.act x y} w w':=by
 have⟨C,hL,hC⟩:=h.GF;refine(Gb E.bs E.bB 189 _ C _ _ (iD L.gP x) (iD L.gP y) w hL h.elA (h.gW l) (by grind) h.bw).mono ?_;rintro e w' ⟨rfl,j⟩;exact⟨rfl,h.AH hL hC (by rw[<-BF h.inj];exact j) λz d=>by rcases BI d with d|rfl;exact h.wf.act z d;exact m⟩
def Loc.new (L:Loc) (n k:Nat) (av kv:gO):Loc:={L with gP:=λi=>if i < n then L.gP i else k+(i - n),av:=λi=>if i=n then av else L.av i,kv:=λi=>if i=n then kv else L.kv i}
variable {L L' : Loc}
def Loc.Ar (h:i < n):(L.new n k av kv).gP i=L.gP i:=gF h
def Loc.sZ:(L.new n k av kv).gP n=k:=by simp[Loc.new]
def Loc.EU (h:i < n):(L.new n k av kv).av i=L.av i:=gQ (by omega)
def Loc.NR (h:i < n):(L.new n k av kv).kv i=L.kv i:=gQ (by omega)
def Loc.A9:(L.new n k av kv).av n=av:=gF rfl
def Loc.G1:(L.new n k av kv).kv n=kv:=gF rfl
def FC (n:Nat) (L L':Loc):Prop:=∀i,i < n->L'.gP i=L.gP i
def FC.refl (n:Nat) (L:Loc):FC n L L:=λ_ _=>rfl
def Ab.lO (h:σ.gW (some i)=true):i < σ.nodes.length:=by
 have⟨e,he⟩:=Option.isSome_iff_exists.1 h;exact Ab.ik he
def Ab.PV {k : Nd} (h:σ.ji k=true):k.ir < σ.nodes.length:=by
 by_cases j:k.ir < σ.nodes.length
 .exact j
 .exfalso;have d:σ.nodes[k.ir]?=none:=Z7 (by omega);cases k with
  |el i=>simp only[Nd.ir]at d;simp[Ab.ji,Ab.hU,d]at h
  |tx i=>simp only[Nd.ir]at d;simp[Ab.ji,d]at h
  |cm i=>simp only[Nd.ir]at d;simp[Ab.ji,d]at h
  |dt i=>simp only[Nd.ir]at d;simp[Ab.ji,d]at h
def FC.om (h:FC σ.nodes.length L L') (d:σ.gW x=true):iD L'.gP x=iD L.gP x:=by
 cases x with
 |none=>rfl
 |some i=>show some _=some _;rw[h i (Ab.lO d)]
def FC.kid (h:FC σ.nodes.length L L') {k : Nd} (d:σ.ji k=true):Nd.map L'.gP k=Nd.map L.gP k:=by
 have:=h _ (Ab.PV d);cases k<;>(simp only[Nd.map,Nd.ir]at this|-;rw[this])
def FC.list (h:FC σ.nodes.length L L') {xs : kQ} (j:∀x∈xs,σ.gW x=true):(xs.map λx=>kh (iD L'.gP x))=xs.map λx=>kh (iD L.gP x):=
 Vb λx d=>by rw[h.om (j x d)]
def FC.kids (h:FC σ.nodes.length L L') {ks : List Nd} (j:∀x∈ks,σ.ji x=true):ks.map (Nd.map L'.gP)=ks.map (Nd.map L.gP):=
 Vb λx d=>h.kid (j x d)
theorem Ab.tI (d:i < σ.nodes.length):(σ.add nd).hU i=σ.hU i:=by
 grind[Ab.hU,Ab.add]
theorem Ab.um:(σ.add nd).hU σ.nodes.length=(match nd with| .el e=>some e|_=>none):=by
 show(match (σ.nodes++[nd])[σ.nodes.length]? with|some (.el e)=>some e|_=>none)=_
 grind
def Ab.Ak (h:σ.gW x=true):(σ.add nd).gW x=true:=by
 cases x with
 |none=>rfl
 |some i=>show((σ.add nd).hU i).isSome=true;rw[Ab.tI (Ab.lO h)];exact h
def Ab.Ma (h:σ.mG x=true):(σ.add nd).mG x=true:=by
 cases x with
 |none=>exact h
 |some i=>show((σ.add nd).hU i).isSome=true;rw[Ab.tI (Ab.lO h)];exact h
theorem Ab.EP {k : Nd} (h:σ.ji k=true):(σ.add nd).ji k=true:=by
 have d:=Ab.PV h;have e:(σ.nodes++[nd])[k.ir]?=σ.nodes[k.ir]?:=U8 d;cases k with
 |el i=>show((σ.add nd).hU i).isSome=true;rw[Ab.tI (i:=i) d];exact h
 |tx i=>grind[Ab.ji,Ab.add]
 |cm i=>grind[Ab.ji,Ab.add]
 |dt i=>grind[Ab.ji,Ab.add]
theorem Ab.Iu {e : zu} (h:(σ.add nd).hU i=some e):(i < σ.nodes.length/\σ.hU i=some e)\/(i=σ.nodes.length/\nd= .el e):=by
 have j:=Ab.ik h;have l:i < σ.nodes.length+1:=by simpa [Ab.add]using j
 by_cases d:i < σ.nodes.length
 .exact .inl ⟨d,by rw[<-Ab.tI d];exact h⟩
 .have e1:i=σ.nodes.length:=by omega
  subst e1;rw[Ab.um]at h
  grind
def kX.ext (h:kX bs L w i nd) (d:FC σ.nodes.length L L') (j:i < σ.nodes.length) (l:L'.av i=L.av i) (m:L'.kv i=L.kv i) (q:∀e,nd= .el e->σ.gW e.je=true/\∀k∈e.kids,σ.ji k=true):kX bs L' w i nd:=by
 cases nd with
 |el e=>
  have⟨h1,h2⟩:=q e rfl;show El bs w (L'.gP i) e.name (L'.av i) (iD L'.gP e.je) (L'.kv i) (e.kids.map (Nd.map L'.gP))/\yF w (L'.av i) e.gU/\e.gU.length<=4096;rw[d i j,l,m,d.om h1,d.kids h2];exact h
 |tx s=>show w.heap[L'.gP i]?=_;rw[d i j];exact h
 |cm s=>show w.heap[L'.gP i]?=_;rw[d i j];exact h
 |dt s=>show w.heap[L'.gP i]?=_;rw[d i j];exact h
theorem Rel.Hw (h:Rel E L σ w) (d:i < σ.nodes.length):L.gP i < w.heap.size:=by
 have⟨c,hc⟩:=(h.sN i σ.nodes[i] (ry d)).typ
 grind
def Rel.wfn (h:Rel E L σ w) (j:σ.nodes[i]?=some nd):∀e,nd= .el e->σ.gW e.je=true/\∀k∈e.kids,σ.ji k=true:=by
 rintro e rfl;have d:=Ab.Si j;exact⟨h.wf.je i e d,h.wf.kids i e d⟩
def jw.ext {σ' : Ab} (h:jw E L σ C) (j:FC σ.nodes.length L L') (d:Wf σ) (e1:L'.ov=L.ov) (e2:L'.cv=L.cv) (l:L'.wv=L.wv) (m:σ'.head=σ.head) (q:σ'.form=σ.form) (z:σ'.mode=σ.mode) (A:σ'.kept=σ.kept) (s5:σ'.iR=σ.iR) (s6:σ'.jN=σ.jN) (s7:σ'.gP=σ.gP) (s8:σ'.behind=σ.behind):jw E L' σ' C:=
 ⟨h.size,h.low,by rw[e1];exact h.gz,by rw[e2];exact h.act,by rw[m,j.om d.head];exact h.head,by rw[q,j.om d.form];exact h.form,by rw[z];exact h.mode,by rw[A];exact h.kept,by rw[l];exact h.wait,by rw[s5];exact h.IL,by rw[s6];exact h.jN,by rw[s7];exact h.gP,by rw[s8];exact h.behind⟩
theorem Rel.acx (h:Rel E L σ w) (nd:AQ) (k:Nat) (av kv:gO) (S:Bool) (hk:Kept [] w w') (a5:∀i,i < σ.nodes.length->L.gP i < k) (a3:E.bs<=k)
  (a6:kX E.bs (L.new σ.nodes.length k av kv) w' σ.nodes.length nd) (a4:kv.ownBlock=none) (a1:∀e,nd= .el e->e.je=none/\e.kids=[])
  (Z:∀i e g,σ.hU i=some e->nk e.name=true->av.ownBlock=some g->(L.av i).ownBlock≠some g)
  (a0:∀e g j,nd= .el e->nk e.name=true->j < σ.nodes.length->av.ownBlock=some g->(L.av j).ownBlock≠some g)
  (I:(∀e,nd≠ .el e)->av.ownBlock=none)
  (W:S=true->σ.fresh=true/\∀g,E.tv.ownBlock=some g->av.ownBlock≠some g) (a2:∀g,av.ownBlock=some g->E.bs<=g):
  Rel E (L.new σ.nodes.length k av kv) (σ.pn nd S) w':=by
 have q:=h.il hk;have U:FC σ.nodes.length L (L.new σ.nodes.length k av kv):=λi l=>Loc.Ar l;have F:=Ab.lO (σ:=σ) (i:=0) h.wf.xf;have m:(σ.pn nd S).nodes.length=σ.nodes.length+1:=by simp[Ab.pn]
 have J:∀i,(σ.pn nd S).hU i=(σ.add nd).hU i:=λi=>rfl;have⟨C,hb,hC⟩:=q.ir;refine⟨q.fr,by rw[Loc.Ar F];exact q.env,q.DU,?_,?_,?_,?_,?_,?_,?_,⟨C,hb,hC.ext U h.wf rfl rfl rfl rfl rfl rfl rfl rfl rfl rfl rfl⟩,?_,?_,q.Gd,q.wV,q.Ey,q.oS,q.LB,q.rd,q.QS,q.tok,q.Ly,q.bz,q.bB,q.bR,?_,?_,?_,h.tb,h.LA⟩
 .intro i O l;have d:(σ.nodes++[nd])[i]?=some O:=l
  by_cases V:i < σ.nodes.length
  .rw[U8 V]at d;exact(q.sN i O d).ext U V (Loc.EU V) (Loc.NR V) (h.wfn d)
  grind
 .intro i j B;have G:(if i < σ.nodes.length then L.gP i else k+(i - σ.nodes.length))=(if j < σ.nodes.length then L.gP j else k+(j - σ.nodes.length)):=B
  by_cases l:i < σ.nodes.length
  .by_cases K:j < σ.nodes.length
   .rw[gF l,gF K]at G;exact h.inj i j G
   grind
  grind
 .intro i j g l K B A;rw[m]at l K
  by_cases d:i < σ.nodes.length
  .rw[Loc.NR d]at A
   by_cases D:j < σ.nodes.length
   .rw[Loc.NR D];exact h.A8 i j g d D B A
   grind[Loc.new]
  grind[Loc.new]
 .intro i l z;rw[m]at l
  by_cases d:i < σ.nodes.length
  .rw[Loc.NR d];exact h.Ga i d (by rw[<-Ab.tI d];exact z)
  grind[Loc.new]
 .intro i j e g l Y K B A;rw[m]at K;rcases Ab.Iu (nd:=nd) l with⟨d,z⟩|⟨rfl,rfl⟩
  .rw[Loc.EU d]at A
   by_cases D:j < σ.nodes.length
   .rw[Loc.EU D];exact h.uq i j e g z Y D B A
   grind[Loc.new]
  grind[Loc.new]
 .intro i l z;rw[m]at l
  by_cases d:i < σ.nodes.length
  .rw[Loc.EU d];exact h.Eu i d (by rw[<-Ab.tI d];exact z)
  .have e1:i=σ.nodes.length:=by omega
   subst e1;rw[Loc.A9];refine I λe N=>?_;rw[J,Ab.um,N]at z;cases z
 .refine⟨λx H=>Ab.Ma (h.wf.gz x H),λx H=>Ab.Ak (h.wf.act x H),Ab.Ak h.wf.head,Ab.Ak h.wf.form,?_,?_,?_⟩
  .intro i e l;rcases Ab.Iu (nd:=nd) l with⟨d,z⟩|⟨rfl,hn⟩
   .exact Ab.Ak (h.wf.je i e z)
   grind[Ab.gW]
  .intro i e l x H;rcases Ab.Iu (nd:=nd) l with⟨d,z⟩|⟨rfl,hn⟩
   .exact Ab.EP (h.wf.kids i e z x H)
   grind
  .rw[J,Ab.tI F];exact h.wf.xf
 .show w'.ownsRow E.bs _ 1 L.ov σ.gz.length (σ.gz.map λx=>kh (iD (L.new σ.nodes.length k av kv).gP x));rw[U.list λx H=>Ab.vA (h.wf.gz x H)];exact q.o0
 .show w'.ownsRow E.bs _ 1 L.cv σ.act.length (σ.act.map λx=>kh (iD (L.new σ.nodes.length k av kv).gP x));rw[U.list h.wf.act];exact q.pX
 .intro i l;rw[m]at l
  by_cases d:i < σ.nodes.length
  .rw[Loc.Ar d];exact h.bN i d
  grind[Loc.new]
 .intro hf i g l A;rw[m]at l;have⟨f1,f2⟩:=W hf
  by_cases d:i < σ.nodes.length
  .rw[Loc.EU d];exact h.De f1 i g d A
  grind[Loc.new]
 .intro i g l A;rw[m]at l
  by_cases d:i < σ.nodes.length
  .rw[Loc.EU d]at A;exact h.ab i g d A
  .have e1:i=σ.nodes.length:=by omega
   subst e1;rw[Loc.A9]at A;grind
def Rel.add {E:Env} {L:Loc} {σ:Ab} {w w':gv} (h:Rel E L σ w) (nd:AQ) (k:Nat) (av kv:gO) (A:Bool) (I:Kept [] w w') (z:w.heap.size<=k)
  (G:kX E.bs (L.new σ.nodes.length k av kv) w' σ.nodes.length nd) (F:kv.ownBlock=none) (q:∀e,nd= .el e->e.je=none/\e.kids=[])
  (l:∀i e g,σ.hU i=some e->nk e.name=true->av.ownBlock=some g->(L.av i).ownBlock≠some g)
  (m:∀e g j,nd= .el e->nk e.name=true->j < σ.nodes.length->av.ownBlock=some g->(L.av j).ownBlock≠some g)
  (d:(∀e,nd≠ .el e)->av.ownBlock=none)
  (D:A=true->σ.fresh=true/\∀g,E.tv.ownBlock=some g->av.ownBlock≠some g) (B:∀g,av.ownBlock=some g->E.bs<=g):
  Rel E (L.new σ.nodes.length k av kv) (σ.pn nd A) w':=
 h.acx nd k av kv A I (λ_ H=>lV (h.Hw H) z) (jP h.bw z) G F q l m d D B
end
end Go.Proofs.YtofkkmcdggkkpaaGreatDoor
