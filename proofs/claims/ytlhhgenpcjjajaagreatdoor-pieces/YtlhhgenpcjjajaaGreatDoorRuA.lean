import Derived.Test.YtlhhgenpcjjajaaGreatDoorKept
import Derived.Deep.MidRow
import Derived.Laws.EntriesVeiled
import Derived.Great.BuildSlice
set_option linter.unusedSimpArgs false
set_option linter.unusedVariables false
set_option linter.defProp false
set_option maxHeartbeats 0
set_option maxRecDepth 100000
namespace Go.Proofs.YtlhhgenpcjjajaaGreatDoor
open Go.RowKit Tryz
def Lb:=@List.nodup_cons
def AB:=@Array.getElem?_setIfInBounds
def qD:=@List.setIfInBounds_toArray
def qE:=@List.set_cons_zero
def qF:=@List.set_cons_succ
def Cy:=@List.length_map
def Wd:=@List.map_reverse
def abo:=@List.dropWhile_sublist
def SP:=@List.map_map
def We:=@Function.comp_def
def BH:=@List.mem_of_mem_erase
def Wg:=@List.map_congr_left
section
variable {C args c : jN} {T : List TypeId} {X : Nat->Prop} {av kv v v0 v1 v2 v3 v4 v5 v6 v7 v8 v9 : gQ} {b bB bD base bm bs g i k n s : Nat} {cw cw' w w' : gx} {e t : TypeId} {f : Nat->Nat} {p : gz->Bool} {x y : jk} {xs : List gQ} {zs : kV} {σ : Ab}
inductive Ru
 |nil
 |nothing
 |ik (f:Nat)
 |pO (m:Int)
 |gR (pf:Nat) (own:Bool)
 |ahead (f:Nat)
 |ends (f:Nat)
 |Om (r:Ru)
 |sA (ks:List gz) (m:Int)
 |ot (ks:List gz) (name:gz) (m:Int)
 |item (ks:List gz)
variable {R : List (List gz×Ru)} {ms : List (Nat×List (List gz×Ru))} {r : Ru} {rs : List (Ru×gQ)}
abbrev iF (b:Nat):gQ:=gN b
abbrev box (w:gx) (b:Nat) (v:gQ) (t:TypeId):Prop:=w.heap[b]?=some (gL #[v] t)
def nY (bm bB bD:Nat):Ru->gQ->gx->Prop
 | .nil,v,_=>v= .nilFunc
 | .nothing,v,_=>v= .func (.func 97) #[] #[]
 | .ik f,v,_=>v= .func (.func f) #[iF bB] #[]
 | .pO m,v,w=>∃b1 b2,v= .func (.func 180) #[] #[iF b1,iF b2]/\box w b1 (iF bB) 121/\box w b2 (gh m) 177
 | .gR pf own,v,w=>∃b1,v= .func (.func 174) #[] #[iF b1]/\box w b1 (.func (.func pf) #[iF (if own then bB else bD)] #[]) 211
 | .ahead f,v,w=>∃b1 b2,v= .func (.func 227) #[] #[iF b2,iF b1]/\box w b1 (iF bB) 121/\box w b2 (.func (.func f) #[iF bB] #[]) 69
 | .ends f,v,w=>∃b1,v= .func (.func 232) #[] #[iF b1]/\box w b1 (.func (.func f) #[iF bB] #[]) 69
 | .Om r,v,w=>∃b1 b2 u,v= .func (.func 237) #[] #[iF b1,iF b2]/\box w b1 (iF bB) 121/\box w b2 u 168/\nY bm bB bD r u w
 | .sA ks m,v,w=>∃b1 b2 b3 u,v= .func (.func 224) #[] #[iF b1,iF b2,iF b3]/\box w b1 (iF bB) 121/\box w b2 u 89/\Ask bm u (im ks) w/\box w b3 (gh m) 177
 | .ot ks name m,v,w=>∃b1 b2 b3 b4 u,v= .func (.func 226) #[] #[iF b1,iF b2,iF b3,iF b4]/\box w b1 (iF bB) 121/\box w b2 u 89/\Ask bm u (im ks) w/\box w b3 (gH name) 9/\box w b4 (gh m) 177
 | .item ks,v,w=>∃b1 b2 b3 d h,v= .func (.func 281) #[] #[iF b1,iF b2,iF b3]/\box w b1 (iF bB) 121/\box w b2 d 89/\Ask bm d (im ks) w/\box w b3 h 89/\Ask bm h (λs=>lB s&&!im [jW,nG] s) w
def box.fr (h:box w b v t) (d:wU bm w w') (j:t∉IG):box w' b v t:=d.cell h j
def nY.fr:∀{r:Ru} {v:gQ} {w w':gx},nY bm bB bD r v w->wU bm w w'->nY bm bB bD r v w'
 | .nil,_,_,_,h,_=>h
 | .nothing,_,_,_,h,_=>h
 | .ik _,_,_,_,h,_=>h
 | .pO _,_,_,_,⟨b1,b2,e,h1,h2⟩,hf=>⟨b1,b2,e,box.fr h1 hf (by decide),box.fr h2 hf (by decide)⟩
 | .gR _ _,_,_,_,⟨b1,e,h1⟩,hf=>⟨b1,e,box.fr h1 hf (by decide)⟩
 | .ahead _,_,_,_,⟨b1,b2,e,h1,h2⟩,hf=>⟨b1,b2,e,box.fr h1 hf (by decide),box.fr h2 hf (by decide)⟩
 | .ends _,_,_,_,⟨b1,e,h1⟩,hf=>⟨b1,e,box.fr h1 hf (by decide)⟩
 | .Om _,_,_,_,⟨b1,b2,u,e,h1,h2,hr⟩,hf=>⟨b1,b2,u,e,box.fr h1 hf (by decide),box.fr h2 hf (by decide),hr.fr hf⟩
 | .sA _ _,_,_,_,⟨b1,b2,b3,u,e,h1,h2,ha,h3⟩,hf=>⟨b1,b2,b3,u,e,box.fr h1 hf (by decide),box.fr h2 hf (by decide),ha.fr hf,box.fr h3 hf (by decide)⟩
 | .ot _ _ _,_,_,_,⟨b1,b2,b3,b4,u,e,h1,h2,ha,h3,h4⟩,hf=>⟨b1,b2,b3,b4,u,e,box.fr h1 hf (by decide),box.fr h2 hf (by decide),ha.fr hf,box.fr h3 hf (by decide),box.fr h4 hf (by decide)⟩
 | .item _,_,_,_,⟨b1,b2,b3,u1,u2,e,h1,h2,ha,h3,hb⟩,hf=>⟨b1,b2,b3,u1,u2,e,box.fr h1 hf (by decide),box.fr h2 hf (by decide),ha.fr hf,box.fr h3 hf (by decide),hb.fr hf⟩
def pa:List (List gz×Ru)->gz->Option Ru
 |[],_=>none
 |p::R,k=>if im p.1 k then some p.2 else pa R k
def IsMap (bm bB bD b:Nat) (R:List (List gz×Ru)) (v:gQ) (w:gx):Prop:=
 ∃L,v= .map (some b)/\sW w b L/\∀k,match pa R k with
  |some r=>∃u,AF L k=some u/\nY bm bB bD r u w
  |none=>AF L k=none
theorem IsMap.fr (h:IsMap bm bB bD b R v w) (j:wU bm w w') (d:w'.heap[b]?=w.heap[b]?):IsMap bm bB bD b R v w':=by
 have⟨L,e,hm,hr⟩:=h;refine⟨L,e,hm.keeps d,λk=>?_⟩;have:=hr k;cases hq:pa R k with
 |none=>grind
 |some r=>rw[hq]at this;have⟨u,hu,hi⟩:=this;exact⟨u,hu,hi.fr j⟩
theorem MI:∀(L:List (gz×gQ)) (k:gz) (v:gQ) (s:gz),AF (Dn L k v) s=if la s k then some v else AF L s
 |[],k,v,s=>rfl
 |p::L,k,v,s=>by
  unfold Dn
  by_cases d:la k p.1=true
  .grind[AF,la,Dn]
  .rw[gV d];unfold AF;rw[MI L k v s]
   grind[la]
theorem QC (v:gQ) (s:gz) (ks:List gz):∀(L:List (gz×gQ)),AF (zQ L ks v) s=if im ks s then some v else AF L s:=by
 induction ks with
 |nil=>grind[AF,zQ,im]
 |cons k ks ih=>
  intro L;show AF (zQ (Dn L k v) ks v) s=_;rw[ih,MI]
  grind[im]
theorem IsMap.at (h:IsMap bm bB bD b R v w):∃j d,w.heap[b]?=some (.map j d):=by
 have⟨L,e,⟨j,d,ha,_⟩,hr⟩:=h
 grind
theorem Ud (bm bB bD b:Nat) (s:gz) (ks:List gz) (r:Ru) (R:List (List gz×Ru)) (v:gQ) (w:gx) (A:qq s=true) (l:words s=ks) (B:xL w) (z:IsMap bm bB bD b R (.map (some b)) w) (m:b≠bm) (D:nY bm bB bD r v w):
  Calls prog 102 #[.map (some b),gH s,v] w λe w'=>e=iw (.map (some b))/\IsMap bm bB bD b ((ks,r)::R) (.map (some b)) w'/\Kept [b] w w'/\wU bm w w':=by
 have h:=z.at;have⟨L,_,hM,hR⟩:=z;refine(agw b s v L w A B.1 hM).mono ?_;rintro e w' ⟨rfl,d,q⟩;have j:=wU.of_map q h m;rw[l]at d;refine⟨rfl,⟨_,rfl,d,λk=>?_⟩,q,j⟩;rw[QC];unfold pa;cases hq:im ks k with
 |true=>simp;exact D.fr j
 |false=>
  simp;have:=hR k;cases hq2:pa R k with
  |none=>grind
  |some r2=>rw[hq2]at this;have⟨u,hu,hi⟩:=this;exact⟨u,hu,hi.fr j⟩
def Vs (bm bB bD:Nat) (w:gx):IsMap bm bB bD w.heap.size [] (.map (some w.heap.size)) (w.alloc (.map #[] 0)):=⟨[],rfl,sW.new w,λ_=>rfl⟩
theorem tl (w:gx) (d h:Obj):((w.alloc d).alloc h).heap[w.heap.size]?=some d/\((w.alloc d).alloc h).heap[w.heap.size+1]?=some h:=by
 refine⟨(Below.heap_alloc _ _ _ (by simp)).trans (fX w _),?_⟩;have:=fX (w.alloc d) h
 simp_all
theorem oQ (w:gx) (d h j:Obj):(((w.alloc d).alloc h).alloc j).heap[w.heap.size]?=some d/\(((w.alloc d).alloc h).alloc j).heap[w.heap.size+1]?=some h/\(((w.alloc d).alloc h).alloc j).heap[w.heap.size+1+1]?=some j:=by
 have⟨h1,h2⟩:=tl w d h;refine⟨(Below.heap_alloc _ _ _ (by grind)).trans h1,(Below.heap_alloc _ _ _ (by simp)).trans h2,?_⟩;have:=fX ((w.alloc d).alloc h) j
 simp_all
theorem GG (w:gx) (d h j l:Obj):((((w.alloc d).alloc h).alloc j).alloc l).heap[w.heap.size]?=some d/\((((w.alloc d).alloc h).alloc j).alloc l).heap[w.heap.size+1]?=some h/\((((w.alloc d).alloc h).alloc j).alloc l).heap[w.heap.size+1+1]?=some j/\((((w.alloc d).alloc h).alloc j).alloc l).heap[w.heap.size+1+1+1]?=some l:=by
 have⟨h1,h2,h3⟩:=oQ w d h j;refine⟨(Below.heap_alloc _ _ _ (by grind)).trans h1,(Below.heap_alloc _ _ _ (by simp)).trans h2,(Below.heap_alloc _ _ _ (by simp)).trans h3,?_⟩;have:=fX (((w.alloc d).alloc h).alloc j) l
 simp_all
abbrev Am (bm bB bD:Nat) (r:Ru) (w:gx) (e:Ending) (w':gx):Prop:=(∃v,e=iw v/\nY bm bB bD r v w')/\Kept [] w w'
def pU (bm bB bD:Nat) (m:Int) (w:gx):Calls prog 106 #[iF bB,gh m] w (Am bm bB bD (.pO m) w):=by
 refine(acC bB m w).mono ?_;rintro e w' ⟨rfl,rfl⟩;have⟨h1,h2⟩:=tl w (gL #[iF bB] 121) (gL #[gh m] 177);exact⟨⟨_,rfl,_,_,rfl,h1,h2⟩,((Kept.refl _ _).alloc _).alloc _⟩
def oW (bm bB bD d:Nat) (own:Bool) (w:gx):Calls prog 98 #[iF bB,.func (.func d) #[iF (if own then bB else bD)] #[]] w (Am bm bB bD (.gR d own) w):=by
 refine(Oy bB (.func d) #[iF (if own then bB else bD)] #[] w).mono ?_;rintro e w' ⟨rfl,rfl⟩;exact⟨⟨_,rfl,_,rfl,fX w _⟩,(Kept.refl _ _).alloc _⟩
def oL (bm bB bD f:Nat) (w:gx):Calls prog 130 #[iF bB,.func (.func f) #[iF bB] #[]] w (Am bm bB bD (.ahead f) w):=by
 refine(Oz bB (.func f) #[iF bB] #[] w).mono ?_;rintro e w' ⟨rfl,rfl⟩;have⟨h1,h2⟩:=tl w (gL #[iF bB] 121) (gL #[.func (.func f) #[iF bB] #[]] 69);exact⟨⟨_,rfl,_,_,rfl,h1,h2⟩,((Kept.refl _ _).alloc _).alloc _⟩
def yb (bm bB bD f:Nat) (w:gx):Calls prog 134 #[.func (.func f) #[iF bB] #[]] w (Am bm bB bD (.ends f) w):=by
 refine(acD (.func f) #[iF bB] #[] w).mono ?_;rintro e w' ⟨rfl,rfl⟩;exact⟨⟨_,rfl,_,rfl,fX w _⟩,(Kept.refl _ _).alloc _⟩
theorem nY.func (h:nY bm bB bD r v w) (d:r≠ .nil):∃f a l,v= .func f a l:=by
 cases r with
 |nil=>grind
 |nothing=>exact⟨_,_,_,h⟩
 |ik f=>exact⟨_,_,_,h⟩
 |pO m=>have⟨_,_,e,_⟩:=h;grind
 |gR a b=>have⟨_,e,_⟩:=h;grind
 |ahead f=>have⟨_,_,e,_⟩:=h;grind
 |ends f=>have⟨_,e,_⟩:=h;grind
 |Om r=>have⟨_,_,_,e,_⟩:=h;grind
 |sA a b=>have⟨_,_,_,_,e,_⟩:=h;grind
 |ot a b c=>have⟨_,_,_,_,_,e,_⟩:=h;grind
 |item a=>have⟨_,_,_,_,_,e,_⟩:=h;grind
def Km (bm bB bD:Nat) (r:Ru) (u:gQ) (w:gx) (j:r≠ .nil) (h:nY bm bB bD r u w):Calls prog 142 #[iF bB,u] w (Am bm bB bD (.Om r) w):=by
 obtain⟨f,a,l,rfl⟩:=h.func j;refine(OA bB f a l w).mono ?_;rintro e w' ⟨rfl,rfl⟩;have⟨h1,h2⟩:=tl w (gL #[iF bB] 121) (gL #[.func f a l] 168);have d:Kept [] w ((w.alloc (gL #[iF bB] 121)).alloc (gL #[.func f a l] 168)):=((Kept.refl _ _).alloc _).alloc _;exact⟨⟨_,rfl,_,_,_,rfl,h1,h2,h.fr (.gU d)⟩,d⟩
theorem Ask.func (h:Ask bm v p w):∃f a l,v= .func f a l:=by
 have⟨k,lb,e,_⟩:=h.call
 grind
def BW (bm bB bD:Nat) (ks:List gz) (m:Int) (u:gQ) (w:gx) (h:Ask bm u (im ks) w):Calls prog 127 #[iF bB,u,gh m] w (Am bm bB bD (.sA ks m) w):=by
 obtain⟨f,a,l,rfl⟩:=h.func;refine(Q8 bB f a l m w).mono ?_;rintro e w' ⟨rfl,rfl⟩;have⟨h1,h2,h3⟩:=oQ w (gL #[iF bB] 121) (gL #[.func f a l] 89) (gL #[gh m] 177);have d:Kept [] w (((w.alloc (gL #[iF bB] 121)).alloc (gL #[.func f a l] 89)).alloc (gL #[gh m] 177)):=(((Kept.refl _ _).alloc _).alloc _).alloc _;exact⟨⟨_,rfl,_,_,_,_,rfl,h1,h2,h.fr (.gU d),h3⟩,d⟩
def Du (bm bB bD:Nat) (ks:List gz) (d:gz) (m:Int) (u:gQ) (w:gx) (j:Ask bm u (im ks) w):Calls prog 129 #[iF bB,u,gH d,gh m] w (Am bm bB bD (.ot ks d m) w):=by
 obtain⟨f,a,l,rfl⟩:=j.func;refine(OB bB f a l d m w).mono ?_;rintro e w' ⟨rfl,rfl⟩;have⟨h1,h2,h3,h4⟩:=GG w (gL #[iF bB] 121) (gL #[.func f a l] 89) (gL #[gH d] 9) (gL #[gh m] 177);have h:Kept [] w ((((w.alloc (gL #[iF bB] 121)).alloc (gL #[.func f a l] 89)).alloc (gL #[gH d] 9)).alloc (gL #[gh m] 177)):=((((Kept.refl _ _).alloc _).alloc _).alloc _).alloc _;exact⟨⟨_,rfl,_,_,_,_,_,rfl,h1,h2,j.fr (.gU h),h3,h4⟩,h⟩
structure nc where
 blank:Ru:= .nil
 jM:Ru:= .nil
 gR:Ru:= .nil
 iy:Ru:= .nil
 iR:Ru:= .nil
 start:Option (List (List gz×Ru)):=none
 stop:Option (List (List gz×Ru)):=none
 jG:Ru:= .nil
 j8:Ru:= .nil
 ir:Ru:= .nil
variable {sp : nc}
def su (bm bB bD:Nat):Option (List (List gz×Ru))->gQ->gx->Prop
 |none,v,_=>v= .map none
 |some R,v,w=>∃b,IsMap bm bB bD b R v w
theorem IsMap.lt (h:IsMap bm bB bD b R v w):b < w.heap.size:=by
 have⟨es,ck,ha⟩:=h.at
 grind
def su.io {R : Option (List (List gz×Ru))} (h:su bm bB bD R v w) (d:Kept [] w w'):su bm bB bD R v w':=by
 cases R with
 |none=>exact h
 |some R=>
  have⟨b,hm⟩:=h;exact⟨b,hm.fr (.gU d) (d.block b hm.lt (by simp))⟩
structure li (bm bB bD:Nat) (sp:nc) (v0 v1 v2 v3 v4 v5 v6 v7 v8 v9:gQ) (w:gx):Prop where
 blank:nY bm bB bD sp.blank v0 w
 jM:nY bm bB bD sp.jM v1 w
 gR:nY bm bB bD sp.gR v2 w
 iy:nY bm bB bD sp.iy v3 w
 iR:nY bm bB bD sp.iR v4 w
 start:su bm bB bD sp.start v5 w
 stop:su bm bB bD sp.stop v6 w
 jG:nY bm bB bD sp.jG v7 w
 j8:nY bm bB bD sp.j8 v8 w
 ir:nY bm bB bD sp.ir v9 w
def li.io (h:li bm bB bD sp v0 v1 v2 v3 v4 v5 v6 v7 v8 v9 w) (d:Kept [] w w'):li bm bB bD sp v0 v1 v2 v3 v4 v5 v6 v7 v8 v9 w':=
 have f:wU bm w w':= .gU d
 ⟨h.blank.fr f,h.jM.fr f,h.gR.fr f,h.iy.fr f,h.iR.fr f,h.start.io d,h.stop.io d,h.jG.fr f,h.j8.fr f,h.ir.fr f⟩
def jT (bm bB bD:Nat) (sp:nc) (w:gx) (e:Ending) (w':gx):Prop:=
 ∃v0 v1 v2 v3 v4 v5 v6 v7 v8 v9,e=iw (.agg #[v0,v1,v2,v3,v4,v5,v6,v7,v8,v9])/\li bm bB bD sp v0 v1 v2 v3 v4 v5 v6 v7 v8 v9 w'/\Kept [] w w'
def BD (bB bD:Nat) (w:gx):Prop:=w.cell? ⟨bB,187,none⟩=some (iF bD)/\bB < w.heap.size
def BD.io (h:BD bB bD w) (d:Kept [] w w'):BD bB bD w':=⟨(d.cell (p:=⟨bB,187,none⟩) h.2 (by simp)).trans h.1,mi h.2 d.size⟩
abbrev vg:jN:=#[.nilFunc,.nilFunc,.nilFunc,.nilFunc,.nilFunc,.map none,.map none,.nilFunc,.nilFunc,.nilFunc]
def tq (w:gx) (o:Obj):∃W,W=w.alloc o/\Kept [] w W/\W.heap[w.heap.size]?=some o/\W.heap.size=w.heap.size+1:=⟨_,rfl,(Kept.refl _ _).alloc _,fX w _,by simp⟩
theorem su.JI {R : Option (List (List gz×Ru))} (h:su bm bB bD R v w) (j:Kept [s] w w') (l:w.heap[s]?=some (gL c t)) (f:wU bm w w'):su bm bB bD R v w':=by
 cases R with
 |none=>exact h
 |some R=>
  have⟨b,hb⟩:=h;refine⟨b,hb.fr f (j.block b hb.lt ?_)⟩;intro d;have e:=List.mem_singleton.1 d;have⟨es,ck,ha⟩:=hb.at
  grind
def li.JI (h:li bm bB bD sp v0 v1 v2 v3 v4 v5 v6 v7 v8 v9 w) (d:Kept [s] w w') (l:w.heap[s]?=some (gL c 172)):li bm bB bD sp v0 v1 v2 v3 v4 v5 v6 v7 v8 v9 w':=
 have f:wU bm w w':=⟨_,d,λk j _=>by
  have e:=List.mem_singleton.1 j;subst e;exact .inl ⟨_,_,_,l,by decide⟩⟩
 ⟨h.blank.fr f,h.jM.fr f,h.gR.fr f,h.iy.fr f,h.iR.fr f,h.start.JI d l f,h.stop.JI d l f,h.jG.fr f,h.j8.fr f,h.ir.fr f⟩
def Rv (v0 v1 v2 v3 v4 v5 v6 v7 v8 v9:gQ):js vg 0 [v0,v1,v2,v3,v4,v5,v6,v7,v8,v9]=#[v0,v1,v2,v3,v4,v5,v6,v7,v8,v9]:=by
 simp[js]
def kO (h:w.heap[s]?=some (gL vg 172)):w.cell? ⟨s,0,none⟩=some .nilFunc/\w.cell? ⟨s,1,none⟩=some .nilFunc/\w.cell? ⟨s,2,none⟩=some .nilFunc/\w.cell? ⟨s,3,none⟩=some .nilFunc/\w.cell? ⟨s,4,none⟩=some .nilFunc/\w.cell? ⟨s,5,none⟩=some (.map none)/\w.cell? ⟨s,6,none⟩=some (.map none)/\w.cell? ⟨s,7,none⟩=some .nilFunc/\w.cell? ⟨s,8,none⟩=some .nilFunc/\w.cell? ⟨s,9,none⟩=some .nilFunc:=by
 simp only[fW h];simp
def jH {w1 : gx} (h:w1.heap[w.heap.size]?=some (gL vg 172)) (q:Kept [] w w1) (z:li bm bB bD sp v0 v1 v2 v3 v4 v5 v6 v7 v8 v9 w1) (W:gx) (d:W=w1.setCells w.heap.size 0 [v0,v1,v2,v3,v4,v5,v6,v7,v8,v9]):
  W.heap[w.heap.size]?=some (gL #[v0,v1,v2,v3,v4,v5,v6,v7,v8,v9] 172)/\li bm bB bD sp v0 v1 v2 v3 v4 v5 v6 v7 v8 v9 W/\Kept [] w W:=by
 have m:=kK [v0,v1,v2,v3,v4,v5,v6,v7,v8,v9] w1 w.heap.size vg _ _ 0 h;have j:Kept [w.heap.size] w1 W:=by rw[d];exact Kept.setCells (.inl (by simp)) _ _ (Kept.refl _ _)
 have l:Kept [] w W:=by rw[d];exact Kept.setCells (.inr (gW _)) _ _ q
 rw[Rv,<-d]at m;exact⟨m,z.JI j h,l⟩
def kQ {t : Nat} {j:Func} {a : Act} {W : gx} (d:j.results=#[.cell t 172]) (z:a.tmps.getD t undef=gN w.heap.size) (m:a.defers=[])
  (q:W.heap[w.heap.size]?=some (gL #[v0,v1,v2,v3,v4,v5,v6,v7,v8,v9] 172)/\li bm bB bD sp v0 v1 v2 v3 v4 v5 v6 v7 v8 v9 W/\Kept [] w W):bodyPost prog j (jT bm bB bD sp w) .ret a W:=by
 have⟨hg,hr,hk⟩:=q;refine oR (v:= .agg #[v0,v1,v2,v3,v4,v5,v6,v7,v8,v9]) ?_ m ⟨_,_,_,_,_,_,_,_,_,_,rfl,hr,hk⟩;have l:=fW hg;have h:a.tmps[t]?.getD undef=gN w.heap.size:=by simpa using z
 simp only[results,d];simp[h,asAddr,Result.andThen,go_sem,l]
def XN (bm bB bD:Nat) (w:gx) (q:BD bB bD w) (B:xL w) (z:bm < w.heap.size):
  Calls prog 69 #[iF bB] w (jT bm bB bD {blank:= .nothing,gR:= .gR 99 false,iy:= .ik 100,ir:= .ik 101} w):=by
 have A:=@run_makeMap prog;have⟨W0,HW0,HK0,HG0,HZ0⟩:=tq w (gL vg 172);have⟨yn,hBl⟩:=q;go_enter func69,ntmps69
 go_wp21
 refine(oW bm bB bD 99 false _).mono ?_;rintro e w1 ⟨⟨D,rfl,h⟩,j⟩;have⟨f1,a1,l1,hv1⟩:=h.func (by simp);subst hv1;have l:=fV h;have m:Kept [] w w1:=(HW0▸HK0).trans j;have d:=j.at (HW0▸HG0) (by simp);have HS:=fV (jH (v0:= .func (.func 97) #[] #[]) (v1:= .nilFunc) (v2:= .func f1 a1 l1) (v3:= .func (.func 100) #[iF bB] #[]) (v4:= .nilFunc) (v5:= .map none) (v6:= .map none) (v7:= .nilFunc) (v8:= .nilFunc) (v9:= .func (.func 101) #[iF bB] #[])
  (sp:={blank:= .nothing,gR:= .gR 99 false,iy:= .ik 100,ir:= .ik 101}) d m ⟨rfl,rfl,l,rfl,rfl,rfl,rfl,rfl,rfl,rfl⟩ _ rfl)
 clear h;have⟨q0,q1,q2,q3,q4,q5,q6,q7,q8,q9⟩:=kO d;have u:=gu d;go_wp2;exact kQ results69 rfl rfl HS
structure St (bm bB bD:Nat) (w cw:gx) (rs:List (Ru×gQ)) (ms:List (Nat×List (List gz×Ru))):Prop where
 k:Kept [] w cw
 g:cw.heap[w.heap.size]?=some (gL vg 172)
 t:xL cw
 lt:bm < w.heap.size
 Yw:∀p∈rs,nY bm bB bD p.1 p.2 cw
 Fh:∀p∈ms,IsMap bm bB bD p.1 p.2 (.map (some p.1)) cw/\w.heap.size<=p.1/\p.1≠bm
 nd:(ms.map (·.1)).Nodup
def St.start (bm bB bD:Nat) (w:gx) (j:xL w) (d:bm < w.heap.size):∃W,W=w.alloc (gL vg 172)/\St bm bB bD w W [] []:=
 ⟨_,rfl,(Kept.refl _ _).alloc _,fX w _,j.fr (bm:=bm) (.gU ((Kept.refl _ _).alloc _)),d,(λ_ h=>(by cases h)),(λ_ h=>(by cases h)),(by simp)⟩
def St.AW (s:St bm bB bD w cw rs ms) (h:Kept [] cw cw'):St bm bB bD w cw' rs ms:=
 have f:wU bm cw cw':= .gU h
 ⟨s.k.trans h,h.at s.g (by simp),s.t.fr f,s.lt,λp d=>(s.Yw p d).fr f,λp d=>⟨(s.Fh p d).1.fr f (h.block _ (s.Fh p d).1.lt (by simp)),(s.Fh p d).2⟩,s.nd⟩
def St.call (s:St bm bB bD w cw rs ms) (j:Kept [] cw cw') (l:nY bm bB bD r v cw'):St bm bB bD w cw' ((r,v)::rs) ms:=
 have d:=s.AW j
 ⟨d.k,d.g,d.t,d.lt,λp h=>by
  rcases List.mem_cons.1 h with rfl|h
  .exact l
  .exact d.Yw p h,d.Fh,d.nd⟩
def St.map (s:St bm bB bD w cw rs ms):∃W b,W=cw.alloc (.map #[] 0)/\b=cw.heap.size/\St bm bB bD w W rs ((b,[])::ms):=by
 have j:Kept [] cw (cw.alloc (.map #[] 0)):=(Kept.refl _ _).alloc _;have d:=s.AW j;refine⟨_,_,rfl,rfl,d.k,d.g,d.t,d.lt,d.Yw,λp h=>?_,?_⟩
 .rcases List.mem_cons.1 h with rfl|h
  .exact⟨Vs bm bB bD cw,s.k.size,by have:=s.k.size;have:=s.lt;omega⟩
  .exact d.Fh p h
 .rw[Aj,Lb];refine⟨λl=>?_,s.nd⟩;have⟨p,h,e⟩:=List.mem_map.1 l;have:=(s.Fh p h).1.lt;omega
theorem St.on {z : List (List gz×Ru)} (s:St bm bB bD w cw rs ((b,R)::ms)) (m:Kept [b] cw cw') (l:wU bm cw cw') (D:IsMap bm bB bD b z (.map (some b)) cw'):St bm bB bD w cw' rs ((b,z)::ms):=by
 have A:=s.Fh (b,R) (by simp);have q:=s.nd;rw[Aj,Lb]at q;refine⟨s.k.next m (λx F=> .inr (by grind)),m.at s.g ?_,s.t.fr l,s.lt,λp h=>(s.Yw p h).fr l,λp h=>?_,s.nd⟩
 .intro d;have e:=List.mem_singleton.1 d;have⟨es,ck,ha⟩:=A.1.at;have B:=s.g
  grind
 .rcases List.mem_cons.1 h with rfl|h
  .grind
  .have j:=s.Fh p (si _ h);refine⟨j.1.fr l (m.block _ j.1.lt λd=>?_),j.2⟩
   grind
def St.at (s:St bm bB bD w cw rs ms) (h:(r,v)∈rs):nY bm bB bD r v cw:=s.Yw (r,v) h
def St.pu (s:St bm bB bD w cw rs ms) (h:(b,R)∈ms):su bm bB bD (some R) (.map (some b)) cw:=⟨b,(s.Fh (b,R) h).1⟩
def St.og (S:St bm bB bD w cw rs ((b,R)::ms)) (s:gz) (ks:List gz) (r:Ru) (z:qq s=true) (d:words s=ks) (A:nY bm bB bD r v cw):
  Calls prog 102 #[.map (some b),gH s,v] cw λe w'=>e=iw (.map (some b))/\St bm bB bD w w' rs ((b,(ks,r)::R)::ms):=by
 have h:=S.Fh (b,R) (yk ..);refine(Ud bm bB bD b s ks r R v cw z d S.t h.1 h.2.2 A).mono ?_;rintro e w' ⟨j,l,m,q⟩;exact⟨j,S.on m q l⟩
def St.made (S:St bm bB bD w cw rs ms) {f : Nat} (C:Calls prog f args cw (Am bm bB bD r cw)) (j:r≠ .nil):
  Calls prog f args cw λe w'=>∃f a l,e=iw (.func f a l)/\St bm bB bD w w' ((r,.func f a l)::rs) ms:=by
 refine C.mono ?_;rintro e w' ⟨⟨x,rfl,d⟩,h⟩;obtain⟨f,a,l,rfl⟩:=d.func j;exact⟨f,a,l,rfl,S.call h d⟩
def St.WC (S:St bm bB bD w cw rs ms) {f : Nat} (C:Calls prog f args cw λe w'=>(∃v,e=iw v/\Ask bm v p w')/\Kept [] cw w'):
  Calls prog f args cw λe w'=>∃f a l,e=iw (.func f a l)/\Ask bm (.func f a l) p w'/\St bm bB bD w w' rs ms:=by
 refine C.mono ?_;rintro e w' ⟨⟨x,rfl,d⟩,h⟩;obtain⟨f,a,l,rfl⟩:=d.func;exact⟨f,a,l,rfl,d,S.AW h⟩
theorem BZ (bm:Nat) (w:gx):Calls prog 128 #[] w λe w'=>(∃v,e=iw v/\Ask bm v (im [fZ]) w')/\Kept [] w w':=by
 have⟨W,hW,HK,g,z⟩:=tq w (gL #[gH fZ] 9);have C:=Ov bm w.heap.size 1 [fZ] W g (by decide);have j:=fV hW;clear hW;go_enter func128,ntmps128
 go_wp21
 rw[<-j.out];refine C.mono ?_;rintro e w' ⟨⟨v,rfl,d⟩,m⟩;have q:=d;have h:=HK.trans m;have⟨f,a,l,hv⟩:=d.func;subst hv;go_wp2;go_ret
 simp_all
theorem Az (bm:Nat) (w:gx):Calls prog 140 #[] w λe w'=>(∃v,e=iw v/\Ask bm v (im [gq,gr,gv]) w')/\Kept [] w w':=by
 have⟨W,hW,HK,g,z⟩:=tq w (gL #[gH gq,gH gr,gH gv] 9);have C:=Ov bm w.heap.size 3 [gq,gr,gv] W g (by decide);have j:=fV hW;clear hW;go_enter func140,ntmps140
 go_wp21
 rw[<-j.out];refine C.mono ?_;rintro e w' ⟨⟨v,rfl,d⟩,m⟩;have q:=d;have h:=HK.trans m;have⟨f,a,l,hv⟩:=d.func;subst hv;go_wp2;go_ret
 simp_all
def jZ (d:Nat) (own:Bool):nc:={blank:= .pO 6,gR:= .gR d own,iy:= .nothing,iR:= .nothing,start:=some [([fY],(.pO 6))],ir:= .ik 247}
def RV (bm bB bD h j:Nat) (own:Bool) (w:gx) (d:j=if own then bB else bD):Calls prog 98 #[iF bB,.func (.func h) #[iF j] #[]] w (Am bm bB bD (.gR h own) w):=by
 rw[d];exact oW bm bB bD h own w
def EE (bm bB bD l G:Nat) (own:Bool) (j:G=if own then bB else bD) (w:gx) (O:BD bB bD w) (U:xL w) (F:bm < w.heap.size):
  Calls prog 153 #[iF bB,.func (.func l) #[iF G] #[]] w (jT bm bB bD (jZ l own) w):=by
 have S:=@run_makeMap prog;have q:=fV j;clear j;have⟨W0,hW0,HS0⟩:=St.start bm bB bD w U F;have⟨yn,hBl⟩:=O;have B:=fV hW0;clear hW0;go_enter func153,ntmps153
 go_wp21
 rw[<-B.out];refine(HS0.made (pU bm bB bD 6 _) nofun).mono ?_;rintro e Y ⟨K,I,V,rfl,z⟩
 go_wp21
 refine(z.made (RV bm bB bD l G own _ q) nofun).mono ?_;rintro e Z ⟨N,J,W,rfl,A⟩;have⟨W3,b1,hW3,hb1,HS3⟩:=A.map;have D:=fV hW3;have m:=fV hb1;clear hW3 hb1
 go_wp21
 rw[<-D.out,<-m.out];refine(HS3.made (pU bm bB bD 6 _) nofun).mono ?_;rintro e W4 ⟨f4,a4,l4,rfl,h⟩
 go_wp21
 refine(h.og _ [fY] (.pO 6) (by rfl) (by rfl) (h.at (by simp))).mono ?_;rintro e W5 ⟨rfl,d⟩;have H:=jH (sp:=jZ l own) (v0:= .func K I V) (v1:= .nilFunc) (v2:= .func N J W) (v3:= .func (.func 97) #[] #[]) (v4:= .func (.func 97) #[] #[]) (v5:= .map (some b1)) (v6:= .map none) (v7:= .nilFunc) (v8:= .nilFunc) (v9:= .func (.func 247) #[iF bB] #[]) d.g d.k ⟨(d.at (r:= .pO 6) (by simp)),rfl,(d.at (r:= .gR l own) (by simp)),rfl,rfl,(d.pu (by simp)),rfl,rfl,rfl,rfl⟩ _ rfl;have⟨q0,q1,q2,q3,q4,q5,q6,q7,q8,q9⟩:=kO d.g;have u:=gu d.g;go_wp2;exact kQ results153 rfl rfl H
def Gp {A : Nat} {own : Bool} (h:li bm bB bD (jZ A own) v0 v1 v2 v3 v4 v5 v6 v7 v8 v9 w):∃l d q m j z b5,v0= .func l d q/\v1= .nilFunc/\v2= .func m j z/\v3= .func (.func 97) #[] #[]/\v4= .func (.func 97) #[] #[]/\v5= .map (some b5)/\v6= .map none/\v7= .nilFunc/\v8= .nilFunc/\v9= .func (.func 247) #[iF bB] #[]:=by
 have⟨l,d,q,e0⟩:=h.blank.func (by simp[jZ]);have⟨m,j,z,e2⟩:=h.gR.func (by simp[jZ]);have⟨b5,L,e5,_⟩:=h.start;exact⟨l,d,q,m,j,z,b5,e0,h.jM,e2,h.iy,h.iR,e5,h.stop,h.jG,h.j8,h.ir⟩
def FT (bm bB bD:Nat) (w:gx) (l:BD bB bD w) (B:xL w) (j:bm < w.heap.size):
  Calls prog 86 #[iF bB] w (jT bm bB bD (jZ 99 false) w):=by
 have⟨W0,hW0,HS0⟩:=St.start bm bB bD w B j;have q:=l;have⟨yn,hBl⟩:=l;have h:=fV hW0;clear hW0;go_enter func86,ntmps86
 go_wp21
 rw[<-h.out];refine(EE bm bB bD 99 bD false rfl _ (q.io HS0.k) HS0.t (mi HS0.lt HS0.k.size)).mono ?_;rintro e D ⟨v0,v1,v2,v3,v4,v5,v6,v7,v8,v9,rfl,m,A⟩;obtain⟨H,F,J,I,G,K,b5,rfl,rfl,rfl,rfl,rfl,rfl,rfl,rfl,rfl,rfl⟩:=Gp m;have d:=HS0.AW A;have z:=jH d.g d.k m _ rfl;have⟨q0,q1,q2,q3,q4,q5,q6,q7,q8,q9⟩:=kO d.g;have u:=gu d.g;go_wp2;exact kQ results86 rfl rfl z
structure DG (bm bB bD:Nat) (w cw:gx) (rs:List (Ru×gQ)) (ms:List (Nat×List (List gz×Ru))):Prop where
 k:Kept [] w cw
 t:xL cw
 lt:bm < w.heap.size
 Yw:∀p∈rs,nY bm bB bD p.1 p.2 cw
 Fh:∀p∈ms,IsMap bm bB bD p.1 p.2 (.map (some p.1)) cw/\w.heap.size<=p.1/\p.1≠bm
 nd:(ms.map (·.1)).Nodup
def DG.start (bm bB bD:Nat) (w:gx) (j:xL w) (d:bm < w.heap.size):DG bm bB bD w w [] []:=
 ⟨Kept.refl _ _,j,d,(λ_ h=>(by cases h)),(λ_ h=>(by cases h)),(by simp)⟩
def DG.AW (s:DG bm bB bD w cw rs ms) (h:Kept [] cw cw'):DG bm bB bD w cw' rs ms:=
 have f:wU bm cw cw':= .gU h
 ⟨s.k.trans h,s.t.fr f,s.lt,λp d=>(s.Yw p d).fr f,λp d=>⟨(s.Fh p d).1.fr f (h.block _ (s.Fh p d).1.lt (by simp)),(s.Fh p d).2⟩,s.nd⟩
def DG.call (s:DG bm bB bD w cw rs ms) (j:Kept [] cw cw') (l:nY bm bB bD r v cw'):DG bm bB bD w cw' ((r,v)::rs) ms:=
 have d:=s.AW j
 ⟨d.k,d.t,d.lt,λp h=>by
  rcases List.mem_cons.1 h with rfl|h
  .exact l
  .exact d.Yw p h,d.Fh,d.nd⟩
def DG.map (s:DG bm bB bD w cw rs ms):∃W b,W=cw.alloc (.map #[] 0)/\b=cw.heap.size/\DG bm bB bD w W rs ((b,[])::ms):=by
 have j:Kept [] cw (cw.alloc (.map #[] 0)):=(Kept.refl _ _).alloc _;have h:=s.AW j;refine⟨_,_,rfl,rfl,h.k,h.t,h.lt,h.Yw,λp d=>?_,?_⟩
 .rcases List.mem_cons.1 d with rfl|d
  .exact⟨Vs bm bB bD cw,s.k.size,by have:=s.k.size;have:=s.lt;omega⟩
  .exact h.Fh p d
 .rw[Aj,Lb];refine⟨λl=>?_,s.nd⟩;have⟨p,d,e⟩:=List.mem_map.1 l;have:=(s.Fh p d).1.lt;omega
theorem DG.on {m : List (List gz×Ru)} (s:DG bm bB bD w cw rs ((b,R)::ms)) (q:Kept [b] cw cw') (j:wU bm cw cw') (B:IsMap bm bB bD b m (.map (some b)) cw'):DG bm bB bD w cw' rs ((b,m)::ms):=by
 have A:=s.Fh (b,R) (by simp);have l:=s.nd;rw[Aj,Lb]at l;refine⟨s.k.next q (λx D=> .inr (by grind)),s.t.fr j,s.lt,λp d=>(s.Yw p d).fr j,λp d=>?_,s.nd⟩;rcases List.mem_cons.1 d with rfl|d
 .grind
 .have h:=s.Fh p (si _ d);refine⟨h.1.fr j (q.block _ h.1.lt λz=>?_),h.2⟩
  grind
def DG.at (s:DG bm bB bD w cw rs ms) (h:(r,v)∈rs):nY bm bB bD r v cw:=s.Yw (r,v) h
def PD (bm bB bD:Nat) (R:List (List gz×Ru)) (w:gx) (e:Ending) (w':gx):Prop:=∃b,e=iw (.map (some b))/\IsMap bm bB bD b R (.map (some b)) w'/\w.heap.size<=b/\b≠bm/\Kept [] w w'
def St.mapOf (s:St bm bB bD w cw rs ms) (q:Kept [] cw cw') (z:IsMap bm bB bD b R (.map (some b)) cw') (m:cw.heap.size<=b) (l:b≠bm):St bm bB bD w cw' rs ((b,R)::ms):=by
 have d:=s.AW q;refine⟨d.k,d.g,d.t,d.lt,d.Yw,λp j=>?_,?_⟩
 .rcases List.mem_cons.1 j with rfl|j
  .exact⟨z,j7 s.k.size m,l⟩
  .exact d.Fh p j
 .rw[Aj,Lb];refine⟨λh=>?_,s.nd⟩;have⟨p,j,e⟩:=List.mem_map.1 h;have:=(s.Fh p j).1.lt;omega
def DG.og (S:DG bm bB bD w cw rs ((b,R)::ms)) (s:gz) (ks:List gz) (r:Ru) (z:qq s=true) (d:words s=ks) (A:nY bm bB bD r v cw):
  Calls prog 102 #[.map (some b),gH s,v] cw λe w'=>e=iw (.map (some b))/\DG bm bB bD w w' rs ((b,(ks,r)::R)::ms):=by
 have h:=S.Fh (b,R) (yk ..);refine(Ud bm bB bD b s ks r R v cw z d S.t h.1 h.2.2 A).mono ?_;rintro e w' ⟨j,l,m,q⟩;exact⟨j,S.on m q l⟩
def DG.made (S:DG bm bB bD w cw rs ms) {f : Nat} (C:Calls prog f args cw (Am bm bB bD r cw)) (j:r≠ .nil):
  Calls prog f args cw λe w'=>∃f a l,e=iw (.func f a l)/\DG bm bB bD w w' ((r,.func f a l)::rs) ms:=by
 refine C.mono ?_;rintro e w' ⟨⟨x,rfl,d⟩,h⟩;obtain⟨f,a,l,rfl⟩:=d.func j;exact⟨f,a,l,rfl,S.call h d⟩
def mD:List (List gz×Ru):=[([gX],(.ik 218)),([uo,Hn,BI,iK],(.ik 217)),([iP],(.ik 216)),([kq],(.ik 215)),([nG],(.ik 214)),([lh],(.ik 213)),([mL,mM],(.ik 212)),([jW,oZ,rB,nk,ic,lV,lW],(.ik 211)),([fY],(.ik 210)),([gI],(.ik 209))]
def Hu (bm bB bD:Nat) (w:gx) (O:xL w) (I:bm < w.heap.size):
  Calls prog 123 #[iF bB] w (PD bm bB bD mD w):=by
 have N:=@run_makeMap prog;have l:=DG.start bm bB bD w O I;go_enter func123,ntmps123;have⟨W1,b1,hW1,hb1,HS1⟩:=l.map;have H:=fV hW1;have j:=fV hb1;clear hW1 hb1
 go_wp21
 rw[<-H.out,<-j.out];refine(HS1.og _ [gI] (.ik 209) (by rfl) (by rfl) rfl).mono ?_;rintro e S ⟨rfl,m⟩
 go_wp21
 refine(m.og _ [fY] (.ik 210) (by rfl) (by rfl) rfl).mono ?_;rintro e U ⟨rfl,q⟩
 go_wp21
 refine(q.og _ [jW,oZ,rB,nk,ic,lV,lW] (.ik 211) (by rfl) (by rfl) rfl).mono ?_;rintro e W4 ⟨rfl,z⟩
 go_wp21
 refine(z.og _ [mL,mM] (.ik 212) (by rfl) (by rfl) rfl).mono ?_;rintro e V ⟨rfl,A⟩
 go_wp21
 refine(A.og _ [lh] (.ik 213) (by rfl) (by rfl) rfl).mono ?_;rintro e W ⟨rfl,B⟩
 go_wp21
 refine(B.og _ [nG] (.ik 214) (by rfl) (by rfl) rfl).mono ?_;rintro e Y ⟨rfl,D⟩
 go_wp21
 refine(D.og _ [kq] (.ik 215) (by rfl) (by rfl) rfl).mono ?_;rintro e Z ⟨rfl,F⟩
 go_wp21
 refine(F.og _ [iP] (.ik 216) (by rfl) (by rfl) rfl).mono ?_;rintro e W9 ⟨rfl,G⟩
 go_wp21
 refine(G.og _ [uo,Hn,BI,iK] (.ik 217) (by rfl) (by rfl) rfl).mono ?_;rintro e J ⟨rfl,h⟩
 go_wp21
 refine(h.og _ [gX] (.ik 218) (by rfl) (by rfl) rfl).mono ?_;rintro e K ⟨rfl,d⟩;go_wp2;go_ret;exact⟨b1,rfl,(d.Fh (b1,[([gX],(.ik 218)),([uo,Hn,BI,iK],(.ik 217)),([iP],(.ik 216)),([kq],(.ik 215)),([nG],(.ik 214)),([lh],(.ik 213)),([mL,mM],(.ik 212)),([jW,oZ,rB,nk,ic,lV,lW],(.ik 211)),([fY],(.ik 210)),([gI],(.ik 209))]) (by simp)).1,(d.Fh (b1,[([gX],(.ik 218)),([uo,Hn,BI,iK],(.ik 217)),([iP],(.ik 216)),([kq],(.ik 215)),([nG],(.ik 214)),([lh],(.ik 213)),([mL,mM],(.ik 212)),([jW,oZ,rB,nk,ic,lV,lW],(.ik 211)),([fY],(.ik 210)),([gI],(.ik 209))]) (by simp)).2.1,(d.Fh (b1,[([gX],(.ik 218)),([uo,Hn,BI,iK],(.ik 217)),([iP],(.ik 216)),([kq],(.ik 215)),([nG],(.ik 214)),([lh],(.ik 213)),([mL,mM],(.ik 212)),([jW,oZ,rB,nk,ic,lV,lW],(.ik 211)),([fY],(.ik 210)),([gI],(.ik 209))]) (by simp)).2.2,d.k⟩
def mQ:nc:={jZ 154 true with stop:=some [([fY],.ik 155)]}
theorem Rz (bm bB bD:Nat) (w:gx) (hb:BD bB bD w) (ht:xL w) (D:bm < w.heap.size):
  Calls prog 85 #[iF bB] w (jT bm bB bD mQ w):=by
 have a5:=@run_makeMap prog;have⟨W0,hW0,HS0⟩:=St.start bm bB bD w ht D;have HB:=hb;have I:=fV hW0;clear hW0 ht D hb;go_enter func85,ntmps85
 go_wp21
 rw[<-I.out];refine(EE bm bB bD 154 bB true rfl _ (HB.io HS0.k) HS0.t (mi HS0.lt HS0.k.size)).mono ?_;rintro e h ⟨v0,v1,v2,v3,v4,v5,v6,v7,v8,v9,rfl,W,hk⟩;obtain⟨U,O,Y,V,S,Z,b5,rfl,rfl,rfl,rfl,rfl,rfl,rfl,rfl,rfl,rfl⟩:=Gp W;have B:=HS0.AW hk;have A:=fV W;clear W hk;have⟨W2,hW2,K2,g2,z2⟩:=tq h (gL #[.func U O Y,.nilFunc,.func V S Z,.func (.func 97) #[] #[],.func (.func 97) #[] #[],.map (some b5),.map none,.nilFunc,.nilFunc,.func (.func 247) #[iF bB] #[]] 172);have S2:=B.AW K2;have⟨W3,b1,hW3,hb1,HS3⟩:=S2.map;have N:Kept [] W2 W3:=by rw[hW3];exact(Kept.refl _ _).alloc _
 have F:=fV (show h.heap.size+1=b1 by omega);have G:=N.at g2 (by simp);have j:=A.io (K2.trans N);have a1:=(show h.heap.size < b1 by omega);have a3:=(show b5 < b1 by
  have⟨b5',hm5⟩:=A.start;have e:b5=b5':=by have⟨L,e,_⟩:=hm5;simpa using e
  have:=hm5.lt;omega)
 have J:=fV hW2;have K:=fV hW3;clear hW2 K2 g2 z2 S2 hW3 hb1 N
 go_wp21
 rw[<-J.out,<-K.out,F.out];refine(Ud bm bB bD b1 _ [fY] (.ik 155) [] _ _ (by rfl) (by rfl) HS3.t (HS3.Fh (b1,[]) (by simp)).1 (HS3.Fh (b1,[]) (by simp)).2.2 rfl).mono ?_;rintro e W4 ⟨rfl,z,q,d⟩;have m:=HS3.on q d z;have l:=q.at G (by grind);have H:Hid (li bm bB bD mQ (.func U O Y) .nilFunc (.func V S Z) (.func (.func 97) #[] #[]) (.func (.func 97) #[] #[]) (.map (some b5)) (.map (some b1)) .nilFunc .nilFunc (.func (.func 247) #[iF bB] #[]) W4):=by
  refine fV ⟨j.blank.fr d,j.jM.fr d,j.gR.fr d,j.iy.fr d,j.iR.fr d,?_,⟨b1,z⟩,j.jG.fr d,j.j8.fr d,j.ir.fr d⟩;have⟨b5',hm5⟩:=j.start;have e:b5=b5':=by have⟨L,e,_⟩:=hm5;simpa using e
  subst e;exact⟨b5,hm5.fr d (q.block b5 hm5.lt (by grind))⟩
 have a4:w.heap.size < h.heap.size:=iX B.g;have HF:=jH (w1:=W4.setCell ⟨h.heap.size,6,none⟩ (.map (some b1))) ((Below.heap_setCell W4 ⟨h.heap.size,6,none⟩ _ w.heap.size (by grind)).trans m.g) (m.k.setCell (p:=⟨h.heap.size,6,none⟩) (.inr (by grind)) _) (H.JI ((Kept.refl [h.heap.size] W4).setCell (p:=⟨h.heap.size,6,none⟩) (.inl (by simp)) _) l) _ rfl;have a6:w.heap.size≠h.heap.size:=by omega
 clear z q d;have c0:W4.cell? ⟨h.heap.size,0,none⟩=some (.func U O Y):=(fW l 0).trans rfl;have c1:W4.cell? ⟨h.heap.size,1,none⟩=some .nilFunc:=(fW l 1).trans rfl;have c2:W4.cell? ⟨h.heap.size,2,none⟩=some (.func V S Z):=(fW l 2).trans rfl;have c3:W4.cell? ⟨h.heap.size,3,none⟩=some (.func (.func 97) #[] #[]):=(fW l 3).trans rfl;have c4:W4.cell? ⟨h.heap.size,4,none⟩=some (.func (.func 97) #[] #[]):=(fW l 4).trans rfl;have c5:W4.cell? ⟨h.heap.size,5,none⟩=some (.map (some b5)):=(fW l 5).trans rfl;have c6:W4.cell? ⟨h.heap.size,6,none⟩=some (.map none):=(fW l 6).trans rfl;have c7:W4.cell? ⟨h.heap.size,7,none⟩=some .nilFunc:=(fW l 7).trans rfl;have c8:W4.cell? ⟨h.heap.size,8,none⟩=some .nilFunc:=(fW l 8).trans rfl;have c9:W4.cell? ⟨h.heap.size,9,none⟩=some (.func (.func 247) #[iF bB] #[]):=(fW l 9).trans rfl;have d6:=gu l 6;clear l;have⟨q0,q1,q2,q3,q4,q5,q6,q7,q8,q9⟩:=kO m.g;have u:=gu m.g;go_wp2;exact kQ results85 rfl rfl HF
def xK (bm:Nat) (v:gQ) (p:gz->Bool) (X:Nat->Prop) (w:gx):Prop:=∃E,oz E v p w/\∀e∈E,yE bm w e/\¬X e
theorem xK.ask (h:xK bm v p X w):Ask bm v p w:=by
 have⟨E,hA,hE⟩:=h
 grind[Ask]
def xK.kept (h:xK bm v p X w) (j:Kept [] w w'):xK bm v p X w':=by
 have⟨E,hA,hE⟩:=h;exact⟨E,hA.io j,λe d=>⟨(hE e d).1.fr (.gU j),(hE e d).2⟩⟩
def xK.other {j : Nat->Prop} (h:xK bm v p X w) (l:∀e,e < w.heap.size->j e->X e):xK bm v p j w:=by
 have⟨E,hA,hE⟩:=h;exact⟨E,hA,λe d=>⟨(hE e d).1,λm=>(hE e d).2 (l e (hA.lt e d) m)⟩⟩
def xK.of (h:Ask bm v p w) (j:∀e,e < w.heap.size->¬X e):xK bm v p X w:=by
 have⟨E,hA,hE⟩:=h;exact⟨E,hA,λe d=>⟨hE e d,j e (hA.lt e d)⟩⟩
theorem xK.set (h:xK bm v p X w) (l:X k) (u:gQ):xK bm v p X (w.setCell ⟨k,0,none⟩ u):=by
 have⟨E,hA,hE⟩:=h;have j:∀e∈E,(w.setCell ⟨k,0,none⟩ u).heap[e]?=w.heap[e]?:=λe d=>Below.heap_setCell w ⟨k,0,none⟩ u e (λq=>(hE e d).2 (by grind));refine⟨E,hA.keeps j (by simp),λe d=>⟨?_,(hE e d).2⟩⟩
 grind[yE]
theorem Vn (bm g d:Nat) (h:List gz) (X:Nat->Prop) (w:gx) (B:w.heap[g]?=some (gL (h.map Value.string).toArray 9)) (j:h.length<=4096) (D:∀e,X e->e < w.heap.size/\e≠g):
  Calls prog 225 #[oe g h.length d] w λe w'=>(∃v,e=iw v/\xK bm v (im h) X w')/\Kept [] w w':=by
 refine(aea g d h.length w).mono ?_;rintro e w' ⟨rfl,rfl⟩;have A:Kept [] w (w.alloc (gL #[oe g h.length d] 204)):=(Kept.refl _ _).alloc _;have l:=fX w (gL #[oe g h.length d] 204);have m:=A.at B (by simp);refine⟨⟨_,rfl,_,ZX _ g d h _ l m j,λe q=>?_⟩,A⟩;simp at q;rcases q with rfl|rfl
 .exact⟨.inr ⟨_,_,l,by decide⟩,λz=>by grind⟩
 .exact⟨.inr ⟨_,_,m,by decide⟩,λz=>(D _ z).2 rfl⟩
theorem Y0 (bm:Nat) (v1 v2:gQ) (p q:gz->Bool) (X:Nat->Prop) (w:gx) (z:xK bm v1 p X w) (A:xK bm v2 q X w) (B:∀e,X e->e < w.heap.size):
  Calls prog 280 #[v1,v2] w λe w'=>(∃v,e=iw v/\xK bm v (λs=>p s&&!q s) X w')/\Kept [] w w':=by
 have⟨E1,a1,c1⟩:=z;have⟨E2,a2,c2⟩:=A;refine(Y1 E1 E2 v1 v2 p q w a1 a2).mono ?_;rintro e w' ⟨⟨v,rfl,m,j,l⟩,h⟩;refine⟨⟨v,rfl,_,m,λe d=>⟨MY (.inr ⟨_,_,j,by decide⟩) (.inr ⟨_,_,l,by decide⟩) (λe d=>(c1 e d).1.fr (.gU h)) (λe d=>(c2 e d).1.fr (.gU h)) e d,λD=>?_⟩⟩,h⟩
 grind
def XX (s5 s6:gQ) (e:Nat):Prop:=iF e=s5\/iF e=s6
abbrev ab3:List gz:=[jW,nG]
abbrev afx:gz->Bool:=λs=>lB s&&!im ab3 s
structure PB (bm bB:Nat) (ks:List gz) (sl u:gQ) (w1:gx) (b0 b1 b2 b3 b4 b5 b6 b7 b8 b9 b10 b11 b12:Bool) (s5 s6 s7 s8 s9 s10 s11 s12 s13 s14 s15:gQ) (w:gx):Prop where
 k:Kept [] w1 w
 f0:b0=true->s7=sl
 f1:b1=true->xK bm s8 (im ks) (XX s5 s6) w
 f2:b2=true->s9=iF bB
 f3:b3=true->s10=iF bB
 f4:b4=true->s11=jO bB 184
 f5:b5=true->s12=u
 f6:b6=true->∃g,s13=oe g 2 2/\w.heap[g]?=some (gL #[gH jW,gH nG] 9)
 f7:b7=true->xK bm s14 (im ab3) (XX s5 s6) w
 f8:b8=true->xK bm s15 afx (XX s5 s6) w
 f9:if b9 then ∃k,s5=iF k/\w1.heap.size<=k/\box w k (if b11 then s8 else .nilFunc) 89 else s5=undef
 f10:if b10 then ∃k,s6=iF k/\w1.heap.size<=k/\box w k (if b12 then s15 else .nilFunc) 89 else s6=undef
 ne:b9=true->b10=true->s5≠s6
 d11:b11=true->b1=true/\b9=true
 d12:b12=true->b8=true/\b10=true
section
variable {bm bB:Nat} {ks:List gz} {sl u:gQ} {w1:gx} {b0 b1 b2 b3 b4 b5 b6 b7 b8 b9 b10 b11 b12:Bool} {s5 s6 s7 s8 s9 s10 s11 s12 s13 s14 s15:gQ} {w w':gx}
theorem XX.lt (h:PB bm bB ks sl u w1 b0 b1 b2 b3 b4 b5 b6 b7 b8 b9 b10 b11 b12 s5 s6 s7 s8 s9 s10 s11 s12 s13 s14 s15 w) {e:Nat} (d:XX s5 s6 e):w1.heap.size<=e/\∃v,box w e v 89:=by
 rcases d with d|d
 .have:=h.f9;cases b9 with
  |false=>rw[this]at d;simp[undef]at d
  |true=>grind
 .have:=h.f10;cases b10 with
  |false=>rw[this]at d;simp[undef]at d
  |true=>grind
theorem PB.go (h:PB bm bB ks sl u w1 b0 b1 b2 b3 b4 b5 b6 b7 b8 b9 b10 b11 b12 s5 s6 s7 s8 s9 s10 s11 s12 s13 s14 s15 w) (d:Kept [] w w'):PB bm bB ks sl u w1 b0 b1 b2 b3 b4 b5 b6 b7 b8 b9 b10 b11 b12 s5 s6 s7 s8 s9 s10 s11 s12 s13 s14 s15 w':=by
 refine⟨h.k.trans d,h.f0,λq=>(h.f1 q).kept d,h.f2,h.f3,h.f4,h.f5,λq=>?_,λq=>(h.f7 q).kept d,λq=>(h.f8 q).kept d,?_,?_,h.ne,h.d11,h.d12⟩
 .have⟨g,e,hg⟩:=h.f6 q;exact⟨g,e,d.at hg (by simp)⟩
 .have:=h.f9;cases b9 with
  |false=>grind
  |true=>have⟨k,e,h1,h2⟩:=this;exact⟨k,e,h1,d.at h2 (by simp)⟩
 .have:=h.f10;cases b10 with
  |false=>grind
  |true=>have⟨k,e,h1,h2⟩:=this;exact⟨k,e,h1,d.at h2 (by simp)⟩
end
theorem ac8 (bm bB bD g D:Nat) (ks:List gz) (u:gQ) (w:gx) (hB:bB < w.heap.size) (hu:w.cell? ⟨bB,184,none⟩=some u) (hA:Ask bm u lB w) (h2:w.heap[g]?=some (gL (ks.map Value.string).toArray 9)) (ab:ks.length<=4096):
  Calls prog 198 #[iF bB,oe g ks.length D] w (Am bm bB bD (.item ks) w):=by
 obtain⟨uf,ua,ul,rfl⟩:=hA.func;have⟨w1,hw1,HK,HG,HZ⟩:=tq w (gL #[iF bB] 121);have HU:=hu;have HB:=hB;have a1:=fV hA;have H2:=h2;have a3:=ab;have HW:=fV hw1;clear hA hw1;go_enter func198,ntmps198
 go_wp21
 refine vL (by rfl) ?_;change wpAny _ _ _ _ _ _ _ (World.drew _);rw[<-HW.out];refine zi (I:=λl a W=>∃b0 b1 b2 b3 b4 b5 b6 b7 b8 b9 b10 b11 b12 s5 s6 s7 s8 s9 s10 s11 s12 s13 s14 s15,l=#[b0,b1,b2,b3,b4,b5,b6,b7,b8,b9,b10,b11,b12]/\a=⟨#[iF bB,oe g ks.length D,gN w.heap.size,undef,.nilFunc,s5,s6,s7,s8,s9,s10,s11,s12,s13,s14,s15,undef],[]⟩/\PB bm bB ks (oe g ks.length D) (.func uf ua ul) w1 b0 b1 b2 b3 b4 b5 b6 b7 b8 b9 b10 b11 b12 s5 s6 s7 s8 s9 s10 s11 s12 s13 s14 s15 W) ?_ ?_ _ _ _ _ ?_ ?_
 .rintro l a W i ⟨b0,b1,b2,b3,b4,b5,b6,b7,b8,b9,b10,b11,b12,s5,s6,s7,s8,s9,s10,s11,s12,s13,s14,s15,rfl,rfl,d⟩ hi;simp only[Region.ready,K9,Fg]at hi;have⟨U,hc⟩:=hi;have U:i < 13:=U;obtain rfl|rfl|rfl|rfl|rfl|rfl|rfl|rfl|rfl|rfl|rfl|rfl|rfl:i=0\/i=1\/i=2\/i=3\/i=4\/i=5\/i=6\/i=7\/i=8\/i=9\/i=10\/i=11\/i=12:=by omega
  all_goals simp[Region.binds]at hc
  .refine j9 rfl ?_;intro B h;go_simp;refine h _ _ ?_
   iterate 24 apply Exists.intro
   refine⟨rfl,rfl,?_⟩;exact⟨d.k,λ_=>rfl,d.f1,d.f2,d.f3,d.f4,d.f5,d.f6,d.f7,d.f8,d.f9,d.f10,d.ne,d.d11,d.d12⟩
  .refine j9 rfl ?_;intro B h;have e7:=d.f0 hc.2;subst e7;have O:b11=false:=by
    cases b11 with
    |false=>rfl
    |true=>have:=(d.d11 rfl).1;simp[hc.1]at this
   subst O;have C:=(Vn bm g D ks (XX s5 s6) W ((HK.trans d.k).at H2 (by simp)) a3 (λe j=>by
    have⟨h1,v,h3⟩:=XX.lt d j
    grind))
   go_simp;refine C.mono ?_;rintro e w' ⟨⟨v,rfl,F⟩,m⟩;have J:=d.go m;refine h _ _ ?_
   iterate 24 apply Exists.intro
   refine⟨rfl,rfl,?_⟩;exact⟨J.k,J.f0,λ_=>F,J.f2,J.f3,J.f4,J.f5,J.f6,J.f7,J.f8,J.f9,J.f10,J.ne,(λq=>by simp at q),J.d12⟩
  .refine j9 rfl ?_;intro B h;have c0:W.cell? ⟨w.heap.size,0,none⟩=some (iF bB):=(fW (d.k.at HG (by simp)) 0).trans rfl;go_simp;refine h _ _ ?_
   iterate 24 apply Exists.intro
   refine⟨rfl,rfl,?_⟩;exact⟨d.k,d.f0,d.f1,λ_=>rfl,d.f3,d.f4,d.f5,d.f6,d.f7,d.f8,d.f9,d.f10,d.ne,d.d11,d.d12⟩
  .refine j9 rfl ?_;intro B h;have e9:=d.f2 hc.2;subst e9;go_simp;refine h _ _ ?_
   iterate 24 apply Exists.intro
   refine⟨rfl,rfl,?_⟩;exact⟨d.k,d.f0,d.f1,d.f2,λ_=>rfl,d.f4,d.f5,d.f6,d.f7,d.f8,d.f9,d.f10,d.ne,d.d11,d.d12⟩
  .refine j9 rfl ?_;intro B h;have a4:=d.f3 hc.2;subst a4;go_simp;refine h _ _ ?_
   iterate 24 apply Exists.intro
   refine⟨rfl,rfl,?_⟩;exact⟨d.k,d.f0,d.f1,d.f2,d.f3,λ_=>rfl,d.f5,d.f6,d.f7,d.f8,d.f9,d.f10,d.ne,d.d11,d.d12⟩
  .refine j9 rfl ?_;intro B h;have a5:=d.f4 hc.2;subst a5;have c0:W.cell? ⟨bB,184,none⟩=some (.func uf ua ul):=((HK.trans d.k).cell (p:=⟨bB,184,none⟩) HB (by simp)).trans HU;go_simp;refine h _ _ ?_
   iterate 24 apply Exists.intro
   refine⟨rfl,rfl,?_⟩;exact⟨d.k,d.f0,d.f1,d.f2,d.f3,d.f4,λ_=>rfl,d.f6,d.f7,d.f8,d.f9,d.f10,d.ne,d.d11,d.d12⟩
  .refine j9 rfl ?_;intro B h;go_simp;have m:Kept [] W (W.alloc (gL #[gH jW,gH nG] 9)):=(Kept.refl _ _).alloc _;have J:=d.go m;refine h _ _ ?_
   iterate 24 apply Exists.intro
   refine⟨rfl,rfl,?_⟩;exact⟨J.k,J.f0,J.f1,J.f2,J.f3,J.f4,J.f5,λ_=>⟨_,rfl,fX W _⟩,J.f7,J.f8,J.f9,J.f10,J.ne,J.d11,J.d12⟩
  .refine j9 rfl ?_;intro B h;have⟨g3,e13,h13⟩:=d.f6 (by simp[hc]);subst e13;have C:=(Vn bm g3 2 ab3 (XX s5 s6) W h13 (by decide) (λe j=>by
    have⟨h1,v,h3⟩:=XX.lt d j
    grind))
   go_simp;refine C.mono ?_;rintro e w' ⟨⟨v,rfl,F⟩,m⟩;have J:=d.go m;refine h _ _ ?_
   iterate 24 apply Exists.intro
   refine⟨rfl,rfl,?_⟩;exact⟨J.k,J.f0,J.f1,J.f2,J.f3,J.f4,J.f5,J.f6,λ_=>F,J.f8,J.f9,J.f10,J.ne,J.d11,J.d12⟩
  .refine j9 rfl ?_;intro B h;have a6:=d.f5 (by simp[hc]);subst a6;have a7:=d.f7 (by simp[hc]);have S:b12=false:=by
    cases b12 with
    |false=>rfl
    |true=>have:=(d.d12 rfl).1;simp[hc.1]at this
   subst S;have a9:xK bm (.func uf ua ul) lB (XX s5 s6) W:=(xK.of (a1.fr (.gU HK)) (λe he j=>by have:=(XX.lt d j).1;omega)).kept d.k;have C:=(Y0 bm (.func uf ua ul) s14 lB (im ab3) (XX s5 s6) W a9 a7 (λe j=>by
    have⟨h1,v,h3⟩:=XX.lt d j;exact iX h3))
   go_simp;refine C.mono ?_;rintro e w' ⟨⟨v,rfl,F⟩,m⟩;have J:=d.go m;refine h _ _ ?_
   iterate 24 apply Exists.intro
   refine⟨rfl,rfl,?_⟩;exact⟨J.k,J.f0,J.f1,J.f2,J.f3,J.f4,J.f5,J.f6,J.f7,λ_=>F,J.f9,J.f10,J.ne,J.d11,(λq=>by simp at q)⟩
  .refine j9 rfl ?_;intro B h;have z:b11=false:=by
    cases b11 with
    |false=>rfl
    |true=>have:=(d.d11 rfl).2;simp[hc]at this
   subst z;have H:b9=false:=by simpa using hc
   subst H;have N:s5=undef:=d.f9;subst N;go_simp;have m:Kept [] W (W.alloc (gL #[.nilFunc] 89)):=(Kept.refl _ _).alloc _;have J:=d.go m;have G:∀e,e < W.heap.size->XX (iF W.heap.size) s6 e->XX undef s6 e:=λe he j=>by
    rcases j with j|j
    .simp at j<;>omega
    .exact .inr j
   refine h _ _ ?_
   iterate 24 apply Exists.intro
   refine⟨rfl,rfl,?_⟩;exact⟨J.k,J.f0,(λq=>((d.f1 q).other G).kept m),J.f2,J.f3,J.f4,J.f5,J.f6,(λq=>((d.f7 q).other G).kept m),(λq=>((d.f8 q).other G).kept m),⟨_,rfl,d.k.size,fX W _⟩,J.f10,(λ_ q=>by subst q;have⟨k,e1,h1,h3⟩:=d.f10;grind),(λq=>by simp at q),J.d12⟩
  .refine j9 rfl ?_;intro B h;have z:b12=false:=by
    cases b12 with
    |false=>rfl
    |true=>have:=(d.d12 rfl).2;simp[hc]at this
   subst z;have H:b10=false:=by simpa using hc
   subst H;have N:s6=undef:=d.f10;subst N;go_simp;have m:Kept [] W (W.alloc (gL #[.nilFunc] 89)):=(Kept.refl _ _).alloc _;have J:=d.go m;have G:∀e,e < W.heap.size->XX s5 (iF W.heap.size) e->XX s5 undef e:=λe he j=>by
    rcases j with j|j
    .exact .inl j
    grind
   refine h _ _ ?_
   iterate 24 apply Exists.intro
   refine⟨rfl,rfl,?_⟩;exact⟨J.k,J.f0,(λq=>((d.f1 q).other G).kept m),J.f2,J.f3,J.f4,J.f5,J.f6,(λq=>((d.f7 q).other G).kept m),(λq=>((d.f8 q).other G).kept m),J.f9,⟨_,rfl,d.k.size,fX W _⟩,(λq _=>by subst q;have⟨k,e1,h1,h3⟩:=d.f9;grind),J.d11,(λq=>by simp at q)⟩
  .refine j9 rfl ?_;intro B h;have z:b11=false:=by simp[hc]
   subst z;have H:b9=true:=by simp[hc]
   have K:b1=true:=by simp[hc]
   subst H K;have⟨k,N,h1,h3⟩:=d.f9;subst N;have⟨f,aa,ll,F⟩:=(d.f1 rfl).ask.func;subst F;have c0:W.cell? ⟨k,0,none⟩=some .nilFunc:=(fW h3 0).trans rfl;have c1:=gu h3 0;go_simp;have j:XX (iF k) s6 k:= .inl rfl;refine h _ _ ?_
   iterate 24 apply Exists.intro
   refine⟨rfl,rfl,?_⟩;refine⟨d.k.setCell (p:=⟨k,0,none⟩) (.inr h1) _,d.f0,(λq=>(d.f1 q).set j _),d.f2,d.f3,d.f4,d.f5,λq=>?_,(λq=>(d.f7 q).set j _),(λq=>(d.f8 q).set j _),⟨k,rfl,h1,(gm h3 0 _).trans rfl⟩,?_,d.ne,(λ_=>⟨rfl,rfl⟩),d.d12⟩
   .have⟨g3,e13,h13⟩:=d.f6 q;exact⟨g3,e13,(Below.heap_setCell W ⟨k,0,none⟩ _ g3 (yH h13 h3 (by decide))).trans h13⟩
   .have:=d.f10;split at this
    .rename_i V;have⟨k2,e2,h4,h5⟩:=this;rw[gJ V];refine⟨k2,e2,h4,(Below.heap_setCell W ⟨k,0,none⟩ _ k2 (λq=>?_)).trans h5⟩;subst q;exact d.ne rfl V e2.symm
    grind
  .refine j9 rfl ?_;intro B h;have z:b12=false:=by simp[hc]
   subst z;have H:b10=true:=by simp[hc]
   have K:b8=true:=by simp[hc]
   subst H K;have⟨k,N,h1,h3⟩:=d.f10;subst N;have⟨f,aa,ll,F⟩:=(d.f8 rfl).ask.func;subst F;have c0:W.cell? ⟨k,0,none⟩=some .nilFunc:=(fW h3 0).trans rfl;have c1:=gu h3 0;go_simp;have j:XX s5 (iF k) k:= .inr rfl;refine h _ _ ?_
   iterate 24 apply Exists.intro
   refine⟨rfl,rfl,?_⟩;refine⟨d.k.setCell (p:=⟨k,0,none⟩) (.inr h1) _,d.f0,(λq=>(d.f1 q).set j _),d.f2,d.f3,d.f4,d.f5,λq=>?_,(λq=>(d.f7 q).set j _),(λq=>(d.f8 q).set j _),?_,⟨k,rfl,h1,(gm h3 0 _).trans rfl⟩,d.ne,d.d11,(λ_=>⟨rfl,rfl⟩)⟩
   .have⟨g3,e13,h13⟩:=d.f6 q;exact⟨g3,e13,(Below.heap_setCell W ⟨k,0,none⟩ _ g3 (yH h13 h3 (by decide))).trans h13⟩
   .have:=d.f9;split at this
    .rename_i V;have⟨k2,e2,h4,h5⟩:=this;rw[gJ V];refine⟨k2,e2,h4,(Below.heap_setCell W ⟨k,0,none⟩ _ k2 (λq=>?_)).trans h5⟩;subst q;exact d.ne V rfl e2
    grind
 .rintro l a W ⟨b0,b1,b2,b3,b4,b5,b6,b7,b8,b9,b10,b11,b12,s5,s6,s7,s8,s9,s10,s11,s12,s13,s14,s15,rfl,rfl,d⟩ A;simp only[Region.ready,SM,Fg]at A;have q0:=A 0 (by decide);simp[Region.binds]at q0;subst q0;have q1:=A 1 (by decide);simp[Region.binds]at q1;subst q1;have q2:=A 2 (by decide);simp[Region.binds]at q2;subst q2;have q3:=A 3 (by decide);simp[Region.binds]at q3;subst q3;have q4:=A 4 (by decide);simp[Region.binds]at q4;subst q4;have q5:=A 5 (by decide);simp[Region.binds]at q5;subst q5;have q6:=A 6 (by decide);simp[Region.binds]at q6;subst q6;have q7:=A 7 (by decide);simp[Region.binds]at q7;subst q7;have q8:=A 8 (by decide);simp[Region.binds]at q8;subst q8;have q9:=A 9 (by decide);simp[Region.binds]at q9;subst q9;have Y:=A 10 (by decide);simp[Region.binds]at Y;subst Y;have Z:=A 11 (by decide);simp[Region.binds]at Z;subst Z;have a0:=A 12 (by decide);simp[Region.binds]at a0;subst a0;have⟨k5,e5,h5,X5⟩:=d.f9;have⟨k6,e6,h6,X6⟩:=d.f10;subst e5 e6;have A1:=(d.f1 rfl).ask;have A2:=(d.f8 rfl).ask;have a2:=HK.trans d.k;have G2:=d.k.at HG (by simp);rename_i KK a8;refine a8 _ _ ?_;go_wp2;go_ret;exact⟨⟨_,rfl,_,_,_,_,_,rfl,G2,X5,A1,X6,A2⟩,a2⟩
 .decide
 .exact⟨false,false,false,false,false,false,false,false,false,false,false,false,false,undef,undef,undef,undef,undef,undef,undef,undef,undef,undef,undef,rfl,rfl,(Kept.refl _ _).drew,by simp,by simp,by simp,by simp,by simp,by simp,by simp,by simp,by simp,rfl,rfl,by simp,by simp,by simp⟩
def BS (bm bB:Nat) (w:gx):Prop:=bB < w.heap.size/\∃u,w.cell? ⟨bB,184,none⟩=some u/\Ask bm u lB w
def BS.io (h:BS bm bB w) (d:Kept [] w w'):BS bm bB w':=by
 have⟨h1,u,hu,hA⟩:=h;exact⟨mi h1 d.size,u,(d.cell (p:=⟨bB,184,none⟩) h1 (by simp)).trans hu,hA.fr (.gU d)⟩
def DG.top (s:DG bm bB bD w cw rs ((b,R)::ms)):IsMap bm bB bD b R (.map (some b)) cw/\w.heap.size<=b/\b≠bm:=s.Fh (b,R) (by simp)
def DG.slice (s:DG bm bB bD w cw rs ms) (h:List gz) (d:jN) (j:(h.map Value.string).toArray=d):∃W g,W=cw.alloc (gL d 9)/\g=cw.heap.size/\W.heap[g]?=some (gL (h.map Value.string).toArray 9)/\DG bm bB bD w W rs ms:=
 ⟨_,_,rfl,rfl,by rw[j];exact fX cw _,s.AW ((Kept.refl _ _).alloc _)⟩
def RW (s:DG bm bB bD w cw rs ms) (h:BS bm bB w) (g d:Nat) (ks:List gz) (l:cw.heap[g]?=some (gL (ks.map Value.string).toArray 9)) (j:ks.length<=4096):
  Calls prog 198 #[iF bB,oe g ks.length d] cw (Am bm bB bD (.item ks) cw):=by
 have⟨h1,u,hu,hA⟩:=h.io s.k;exact ac8 bm bB bD g d ks u cw h1 hu hA l j
def mF:List (List gz×Ru):=[([gX],(.ik 208)),([iK],(.ik 207)),([Hn,BI],(.ik 206)),([uo],(.ik 205)),([kq,um,jI],(.ik 204)),([jb],(.ik 203)),([gP,gp],(.ik 202)),([jJ],(.ik 201)),([fZ],(.ik 200)),([ic],(.ik 199)),([lV,lW],(.item [lV,lW])),([lh],(.item [lh])),([iP],(.ik 197)),([vf],(.ik 196)),([mL,mM],(.ik 195)),([nk],(.ik 194)),([jW,oZ,rB,nG],(.ik 193)),([gZ,gy,iB,gn,gq,iH,gr,iI,gv,il],.nothing),([jm,jt,iZ],(.pO 3)),([gI],(.ik 192)),([fY],(.ik 191))]
def Ex (bm bB bD:Nat) (w:gx) (aa:BS bm bB w) (ht:xL w) (a9:bm < w.heap.size):
  Calls prog 121 #[iF bB] w (PD bm bB bD mF w):=by
 have l:=aa;have ay:=@run_makeMap prog;have Z:=DG.start bm bB bD w ht a9;go_enter func121,ntmps121;have⟨W1,b1,hW1,hb1,HS1⟩:=Z.map;have a8:=fV hW1;have V:=fV hb1;clear hW1 hb1
 go_wp21
 rw[<-a8.out,<-V.out];refine(HS1.og _ [fY] (.ik 191) (by rfl) (by rfl) rfl).mono ?_;rintro e W2 ⟨rfl,a0⟩
 go_wp21
 refine(a0.og _ [gI] (.ik 192) (by rfl) (by rfl) rfl).mono ?_;rintro e W3 ⟨rfl,a1⟩
 go_wp21
 refine(a1.made (pU bm bB bD 3 _) nofun).mono ?_;rintro e W4 ⟨f4,a4,l4,rfl,O⟩
 go_wp21
 refine(O.og _ [jm,jt,iZ] (.pO 3) (by rfl) (by rfl) (O.at (by simp))).mono ?_;rintro e W5 ⟨rfl,a2⟩
 go_wp21
 refine(a2.og _ [gZ,gy,iB,gn,gq,iH,gr,iI,gv,il] .nothing rfl (by rfl) rfl).mono ?_;rintro e W6 ⟨rfl,a3⟩
 go_wp21
 refine(a3.og _ [jW,oZ,rB,nG] (.ik 193) (by rfl) (by rfl) rfl).mono ?_;rintro e W7 ⟨rfl,a5⟩
 go_wp21
 refine(a5.og _ [nk] (.ik 194) (by rfl) (by rfl) rfl).mono ?_;rintro e W8 ⟨rfl,a6⟩
 go_wp21
 refine(a6.og _ [mL,mM] (.ik 195) (by rfl) (by rfl) rfl).mono ?_;rintro e W9 ⟨rfl,a7⟩
 go_wp21
 refine(a7.og _ [vf] (.ik 196) (by rfl) (by rfl) rfl).mono ?_;rintro e ab ⟨rfl,m⟩
 go_wp21
 refine(m.og _ [iP] (.ik 197) (by rfl) (by rfl) rfl).mono ?_;rintro e ac ⟨rfl,q⟩;have⟨W12,g1,hW12,hg1,HSL1,HS12⟩:=q.slice [lh] #[gH lh] rfl;have S:=fV hW12;have W:=fV hg1;clear hW12 hg1
 go_wp21
 rw[<-S.out,<-W.out];refine(HS12.made (RW HS12 l g1 1 [lh] HSL1 (by decide)) nofun).mono ?_;rintro e ad ⟨aw,ar,az,rfl,h⟩
 go_wp21
 refine(h.og _ [lh] (.item [lh]) (by rfl) (by rfl) (h.at (by simp))).mono ?_;rintro e ae ⟨rfl,z⟩;have⟨W15,g2,hW15,hg2,HSL2,HS15⟩:=z.slice [lV,lW] #[gH lV,gH lW] rfl;have U:=fV hW15;have Y:=fV hg2;clear hW15 hg2
 go_wp21
 rw[<-U.out,<-Y.out];refine(HS15.made (RW HS15 l g2 2 [lV,lW] HSL2 (by decide)) nofun).mono ?_;rintro e af ⟨ax,au,aA,rfl,j⟩
 go_wp21
 refine(j.og _ [lV,lW] (.item [lV,lW]) (by rfl) (by rfl) (j.at (by simp))).mono ?_;rintro e ag ⟨rfl,A⟩
 go_wp21
 refine(A.og _ [ic] (.ik 199) (by rfl) (by rfl) rfl).mono ?_;rintro e ah ⟨rfl,B⟩
 go_wp21
 refine(B.og _ [fZ] (.ik 200) (by rfl) (by rfl) rfl).mono ?_;rintro e ai ⟨rfl,D⟩
 go_wp21
 refine(D.og _ [jJ] (.ik 201) (by rfl) (by rfl) rfl).mono ?_;rintro e aj ⟨rfl,F⟩
 go_wp21
 refine(F.og _ [gP,gp] (.ik 202) (by rfl) (by rfl) rfl).mono ?_;rintro e ak ⟨rfl,G⟩
 go_wp21
 refine(G.og _ [jb] (.ik 203) (by rfl) (by rfl) rfl).mono ?_;rintro e al ⟨rfl,H⟩
 go_wp21
 refine(H.og _ [kq,um,jI] (.ik 204) (by rfl) (by rfl) rfl).mono ?_;rintro e am ⟨rfl,I⟩
 go_wp21
 refine(I.og _ [uo] (.ik 205) (by rfl) (by rfl) rfl).mono ?_;rintro e an ⟨rfl,J⟩
 go_wp21
 refine(J.og _ [Hn,BI] (.ik 206) (by rfl) (by rfl) rfl).mono ?_;rintro e ao ⟨rfl,K⟩
 go_wp21
 refine(K.og _ [iK] (.ik 207) (by rfl) (by rfl) rfl).mono ?_;rintro e ap ⟨rfl,N⟩
 go_wp21
 refine(N.og _ [gX] (.ik 208) (by rfl) (by rfl) rfl).mono ?_;rintro e aq ⟨rfl,d⟩;go_wp2;go_ret;exact⟨b1,rfl,d.top.1,d.top.2.1,d.top.2.2,d.k⟩
def ln:nc:={jM:= .ik 120,gR:= .gR 105 true,start:=some mF,stop:=some mD,jG:= .ik 122,j8:= .ik 124,ir:= .nothing}
def aaC (bm bB bD:Nat) (w:gx) (O:BS bm bB w) (S:xL w) (B:bm < w.heap.size):
  Calls prog 75 #[iF bB] w (jT bm bB bD ln w):=by
 have⟨W0,hW0,HS0⟩:=St.start bm bB bD w S B;have I:=O;have q:=fV hW0;clear hW0;go_enter func75,ntmps75
 go_wp21
 rw[<-q.out];refine(HS0.made (oW bm bB bD 105 true _) nofun).mono ?_;rintro e V ⟨N,K,U,rfl,h⟩
 go_wp21
 refine(Ex bm bB bD _ (I.io h.k) h.t (mi h.lt h.k.size)).mono ?_;rintro e W ⟨b1,rfl,G,z,l,D⟩;have j:=h.mapOf D G z l
 go_wp21
 refine(Hu bm bB bD _ j.t (mi j.lt j.k.size)).mono ?_;rintro e Y ⟨b2,rfl,H,A,m,F⟩;have d:=j.mapOf F H A m;have J:=jH (sp:=ln) (v0:= .nilFunc) (v1:= .func (.func 120) #[iF bB] #[]) (v2:= .func N K U) (v3:= .nilFunc) (v4:= .nilFunc) (v5:= .map (some b1)) (v6:= .map (some b2)) (v7:= .func (.func 122) #[iF bB] #[]) (v8:= .func (.func 124) #[iF bB] #[]) (v9:= .func (.func 97) #[] #[]) d.g d.k ⟨rfl,rfl,(d.at (r:= .gR 105 true) (by simp)),rfl,rfl,(d.pu (by simp)),(d.pu (by simp)),rfl,rfl,rfl⟩ _ rfl;have⟨q0,q1,q2,q3,q4,q5,q6,q7,q8,q9⟩:=kO d.g;have u:=gu d.g;go_wp2;exact kQ results75 rfl rfl J
def mU:nc:={blank:= .nothing,gR:= .gR 99 false,iy:= .nothing,start:=some [([fY],(.ik 103))],stop:=some [([gZ,gI,fY,kq],(.ik 104))],j8:= .nothing,ir:= .ik 104}
def OR (bm bB bD:Nat) (w:gx) (H:BD bB bD w) (J:xL w) (B:bm < w.heap.size):
  Calls prog 70 #[iF bB] w (jT bm bB bD mU w):=by
 have I:=@run_makeMap prog;have⟨W0,hW0,HS0⟩:=St.start bm bB bD w J B;have⟨yn,hBl⟩:=H;have q:=fV hW0;clear hW0;go_enter func70,ntmps70
 go_wp21
 rw[<-q.out];refine(HS0.made (oW bm bB bD 99 false _) nofun).mono ?_;rintro e N ⟨G,F,K,rfl,l⟩;have⟨W2,b1,hW2,hb1,HS2⟩:=l.map;have z:=fV hW2;have h:=fV hb1;clear hW2 hb1
 go_wp21
 rw[<-z.out,<-h.out];refine(HS2.og _ [fY] (.ik 103) (by rfl) (by rfl) rfl).mono ?_;rintro e O ⟨rfl,m⟩;have⟨W4,b2,hW4,hb2,HS4⟩:=m.map;have A:=fV hW4;have j:=fV hb2;clear hW4 hb2
 go_wp21
 rw[<-A.out,<-j.out];refine(HS4.og _ [gZ,gI,fY,kq] (.ik 104) (by rfl) (by rfl) rfl).mono ?_;rintro e S ⟨rfl,d⟩;have D:=jH (sp:=mU) (v0:= .func (.func 97) #[] #[]) (v1:= .nilFunc) (v2:= .func G F K) (v3:= .func (.func 97) #[] #[]) (v4:= .nilFunc) (v5:= .map (some b1)) (v6:= .map (some b2)) (v7:= .nilFunc) (v8:= .func (.func 97) #[] #[]) (v9:= .func (.func 104) #[iF bB] #[]) d.g d.k ⟨rfl,rfl,(d.at (r:= .gR 99 false) (by simp)),rfl,rfl,(d.pu (by simp)),(d.pu (by simp)),rfl,rfl,rfl⟩ _ rfl;have⟨q0,q1,q2,q3,q4,q5,q6,q7,q8,q9⟩:=kO d.g;have u:=gu d.g;go_wp2;exact kQ results70 rfl rfl D
def mV:nc:={blank:= .nothing,gR:= .gR 105 true,iy:= .nothing,start:=some [([gZ],(.ik 107)),([fY],(.pO 6))],stop:=some [([gZ,gI,fY,kq],(.ik 108))],j8:= .nothing,ir:= .ik 108}
def OS (bm bB bD:Nat) (w:gx) (J:BD bB bD w) (N:xL w) (F:bm < w.heap.size):
  Calls prog 71 #[iF bB] w (jT bm bB bD mV w):=by
 have K:=@run_makeMap prog;have⟨W0,hW0,HS0⟩:=St.start bm bB bD w N F;have⟨yn,hBl⟩:=J;have A:=fV hW0;clear hW0;go_enter func71,ntmps71
 go_wp21
 rw[<-A.out];refine(HS0.made (oW bm bB bD 105 true _) nofun).mono ?_;rintro e S ⟨I,H,O,rfl,m⟩;have⟨W2,b1,hW2,hb1,HS2⟩:=m.map;have B:=fV hW2;have j:=fV hb1;clear hW2 hb1
 go_wp21
 rw[<-B.out,<-j.out];refine(HS2.made (pU bm bB bD 6 _) nofun).mono ?_;rintro e U ⟨Z,Y,l3,rfl,h⟩
 go_wp21
 refine(h.og _ [fY] (.pO 6) (by rfl) (by rfl) (h.at (by simp))).mono ?_;rintro e W4 ⟨rfl,q⟩
 go_wp21
 refine(q.og _ [gZ] (.ik 107) (by rfl) (by rfl) rfl).mono ?_;rintro e V ⟨rfl,z⟩;have⟨W6,b2,hW6,hb2,HS6⟩:=z.map;have D:=fV hW6;have l:=fV hb2;clear hW6 hb2
 go_wp21
 rw[<-D.out,<-l.out];refine(HS6.og _ [gZ,gI,fY,kq] (.ik 108) (by rfl) (by rfl) rfl).mono ?_;rintro e W ⟨rfl,d⟩;have G:=jH (sp:=mV) (v0:= .func (.func 97) #[] #[]) (v1:= .nilFunc) (v2:= .func I H O) (v3:= .func (.func 97) #[] #[]) (v4:= .nilFunc) (v5:= .map (some b1)) (v6:= .map (some b2)) (v7:= .nilFunc) (v8:= .func (.func 97) #[] #[]) (v9:= .func (.func 108) #[iF bB] #[]) d.g d.k ⟨rfl,rfl,(d.at (r:= .gR 105 true) (by simp)),rfl,rfl,(d.pu (by simp)),(d.pu (by simp)),rfl,rfl,rfl⟩ _ rfl;have⟨q0,q1,q2,q3,q4,q5,q6,q7,q8,q9⟩:=kO d.g;have u:=gu d.g;go_wp2;exact kQ results71 rfl rfl G
def mG:nc:={blank:= .ik 109,gR:= .gR 105 true,iy:= .nothing,start:=some [([iZ],(.ik 112)),([jt],(.ik 111)),([jm],(.ik 110)),([fY],(.pO 6)),([gZ],.nothing)],stop:=some [([gI,fY,kq],(.ik 114)),([gZ],(.ik 113))],j8:= .nothing,ir:= .ik 114}
def aaE (bm bB bD:Nat) (w:gx) (V:BD bB bD w) (Y:xL w) (J:bm < w.heap.size):
  Calls prog 72 #[iF bB] w (jT bm bB bD mG w):=by
 have W:=@run_makeMap prog;have⟨W0,hW0,HS0⟩:=St.start bm bB bD w Y J;have⟨yn,hBl⟩:=V;have G:=fV hW0;clear hW0;go_enter func72,ntmps72
 go_wp21
 rw[<-G.out];refine(HS0.made (oW bm bB bD 105 true _) nofun).mono ?_;rintro e W1 ⟨U,S,Z,rfl,q⟩;have⟨W2,b1,hW2,hb1,HS2⟩:=q.map;have H:=fV hW2;have l:=fV hb1;clear hW2 hb1
 go_wp21
 rw[<-H.out,<-l.out];refine(HS2.og _ [gZ] .nothing (by rfl) (by rfl) rfl).mono ?_;rintro e W3 ⟨rfl,z⟩
 go_wp21
 refine(z.made (pU bm bB bD 6 _) nofun).mono ?_;rintro e W4 ⟨f4,a4,l4,rfl,j⟩
 go_wp21
 refine(j.og _ [fY] (.pO 6) (by rfl) (by rfl) (j.at (by simp))).mono ?_;rintro e W5 ⟨rfl,A⟩
 go_wp21
 refine(A.og _ [jm] (.ik 110) (by rfl) (by rfl) rfl).mono ?_;rintro e W6 ⟨rfl,B⟩
 go_wp21
 refine(B.og _ [jt] (.ik 111) (by rfl) (by rfl) rfl).mono ?_;rintro e W7 ⟨rfl,D⟩
 go_wp21
 refine(D.og _ [iZ] (.ik 112) (by rfl) (by rfl) rfl).mono ?_;rintro e W8 ⟨rfl,F⟩;have⟨W9,b2,hW9,hb2,HS9⟩:=F.map;have I:=fV hW9;have m:=fV hb2;clear hW9 hb2
 go_wp21
 rw[<-I.out,<-m.out];refine(HS9.og _ [gZ] (.ik 113) (by rfl) (by rfl) rfl).mono ?_;rintro e N ⟨rfl,h⟩
 go_wp21
 refine(h.og _ [gI,fY,kq] (.ik 114) (by rfl) (by rfl) rfl).mono ?_;rintro e O ⟨rfl,d⟩;have K:=jH (sp:=mG) (v0:= .func (.func 109) #[iF bB] #[]) (v1:= .nilFunc) (v2:= .func U S Z) (v3:= .func (.func 97) #[] #[]) (v4:= .nilFunc) (v5:= .map (some b1)) (v6:= .map (some b2)) (v7:= .nilFunc) (v8:= .func (.func 97) #[] #[]) (v9:= .func (.func 114) #[iF bB] #[]) d.g d.k ⟨rfl,rfl,(d.at (r:= .gR 105 true) (by simp)),rfl,rfl,(d.pu (by simp)),(d.pu (by simp)),rfl,rfl,rfl⟩ _ rfl;have⟨q0,q1,q2,q3,q4,q5,q6,q7,q8,q9⟩:=kO d.g;have u:=gu d.g;go_wp2;exact kQ results72 rfl rfl K
def nR:nc:={blank:= .ik 109,gR:= .gR 105 true,iy:= .nothing,start:=some [([jm,jt,iZ],(.ik 116)),([gI],(.ik 115)),([fY],(.pO 6)),([gZ],.nothing)],stop:=some [([gI,fY,kq],(.ik 117))],j8:= .nothing,ir:= .ik 117}
def RA (bm bB bD:Nat) (w:gx) (N:BD bB bD w) (S:xL w) (H:bm < w.heap.size):
  Calls prog 73 #[iF bB] w (jT bm bB bD nR w):=by
 have O:=@run_makeMap prog;have⟨W0,hW0,HS0⟩:=St.start bm bB bD w S H;have⟨yn,hBl⟩:=N;have D:=fV hW0;clear hW0;go_enter func73,ntmps73
 go_wp21
 rw[<-D.out];refine(HS0.made (oW bm bB bD 105 true _) nofun).mono ?_;rintro e V ⟨K,J,U,rfl,m⟩;have⟨W2,b1,hW2,hb1,HS2⟩:=m.map;have F:=fV hW2;have j:=fV hb1;clear hW2 hb1
 go_wp21
 rw[<-F.out,<-j.out];refine(HS2.og _ [gZ] .nothing (by rfl) (by rfl) rfl).mono ?_;rintro e W ⟨rfl,q⟩
 go_wp21
 refine(q.made (pU bm bB bD 6 _) nofun).mono ?_;rintro e W4 ⟨f4,a4,l4,rfl,h⟩
 go_wp21
 refine(h.og _ [fY] (.pO 6) (by rfl) (by rfl) (h.at (by simp))).mono ?_;rintro e Y ⟨rfl,z⟩
 go_wp21
 refine(z.og _ [gI] (.ik 115) (by rfl) (by rfl) rfl).mono ?_;rintro e Z ⟨rfl,A⟩
 go_wp21
 refine(A.og _ [jm,jt,iZ] (.ik 116) (by rfl) (by rfl) rfl).mono ?_;rintro e W7 ⟨rfl,B⟩;have⟨W8,b2,hW8,hb2,HS8⟩:=B.map;have G:=fV hW8;have l:=fV hb2;clear hW8 hb2
 go_wp21
 rw[<-G.out,<-l.out];refine(HS8.og _ [gI,fY,kq] (.ik 117) (by rfl) (by rfl) rfl).mono ?_;rintro e W9 ⟨rfl,d⟩;have I:=jH (sp:=nR) (v0:= .func (.func 109) #[iF bB] #[]) (v1:= .nilFunc) (v2:= .func K J U) (v3:= .func (.func 97) #[] #[]) (v4:= .nilFunc) (v5:= .map (some b1)) (v6:= .map (some b2)) (v7:= .nilFunc) (v8:= .func (.func 97) #[] #[]) (v9:= .func (.func 117) #[iF bB] #[]) d.g d.k ⟨rfl,rfl,(d.at (r:= .gR 105 true) (by simp)),rfl,rfl,(d.pu (by simp)),(d.pu (by simp)),rfl,rfl,rfl⟩ _ rfl;have⟨q0,q1,q2,q3,q4,q5,q6,q7,q8,q9⟩:=kO d.g;have u:=gu d.g;go_wp2;exact kQ results73 rfl rfl I
def tF:nc:={jM:= .ik 109,iR:= .ik 118,ir:= .ik 119}
def aaF (bm bB bD:Nat) (w:gx) (h:BD bB bD w) (l:xL w) (d:bm < w.heap.size):
  Calls prog 74 #[iF bB] w (jT bm bB bD tF w):=by
 have j:=@run_makeMap prog;have⟨W0,HW0,HS0⟩:=St.start bm bB bD w l d;have⟨yn,hBl⟩:=h;go_enter func74,ntmps74;go_wp2;exact kQ results74 rfl rfl ⟨fX w _,⟨rfl,rfl,rfl,rfl,rfl,rfl,rfl,rfl,rfl,rfl⟩,(Kept.refl _ _).alloc _⟩
def lO:nc:={jM:= .ik 136,ir:= .ik 137}
def LY (bm bB bD:Nat) (w:gx) (h:BD bB bD w) (l:xL w) (d:bm < w.heap.size):
  Calls prog 77 #[iF bB] w (jT bm bB bD lO w):=by
 have j:=@run_makeMap prog;have⟨W0,HW0,HS0⟩:=St.start bm bB bD w l d;have⟨yn,hBl⟩:=h;go_enter func77,ntmps77;go_wp2;exact kQ results77 rfl rfl ⟨fX w _,⟨rfl,rfl,rfl,rfl,rfl,rfl,rfl,rfl,rfl,rfl⟩,(Kept.refl _ _).alloc _⟩
def nS:nc:={start:=some [([gy,iB,gn,gq,iH,gr,iI,gv,il],(.ahead 138))],stop:=some [([gI,iB,gn,fY,gq,iH,gr,iI,gv,il],.nothing),([fZ],(.ahead 138)),([gy],(.ends 138))],ir:= .pO 6}
def RD (bm bB bD:Nat) (w:gx) (U:BD bB bD w) (W:xL w) (K:bm < w.heap.size):
  Calls prog 78 #[iF bB] w (jT bm bB bD nS w):=by
 have V:=@run_makeMap prog;have⟨W0,hW0,HS0⟩:=St.start bm bB bD w W K;have⟨yn,hBl⟩:=U;have m:=fV hW0;clear hW0;go_enter func78,ntmps78;have⟨W1,b1,hW1,hb1,HS1⟩:=HS0.map;have G:=fV hW1;have q:=fV hb1;clear hW1 hb1
 go_wp21
 rw[<-m.out];rw[<-G.out,show w.heap.size+1=b1 by rw[q.out,m.out];simp];refine(HS1.made (oL bm bB bD 138 _) nofun).mono ?_;rintro e Y ⟨f2,a2,l2,rfl,h⟩
 go_wp21
 refine(h.og _ [gy,iB,gn,gq,iH,gr,iI,gv,il] (.ahead 138) rfl (by rfl) (h.at (by simp))).mono ?_;rintro e Z ⟨rfl,A⟩;have⟨W4,b2,hW4,hb2,HS4⟩:=A.map;have H:=fV hW4;have z:=fV hb2;clear hW4 hb2
 go_wp21
 rw[<-H.out,<-z.out];refine(HS4.made (yb bm bB bD 138 _) nofun).mono ?_;rintro e W5 ⟨f5,a5,l5,rfl,j⟩
 go_wp21
 refine(j.og _ [gy] (.ends 138) (by rfl) (by rfl) (j.at (by simp))).mono ?_;rintro e W6 ⟨rfl,B⟩
 go_wp21
 refine(B.made (oL bm bB bD 138 _) nofun).mono ?_;rintro e W7 ⟨f7,a7,l7,rfl,l⟩
 go_wp21
 refine(l.og _ [fZ] (.ahead 138) (by rfl) (by rfl) (l.at (by simp))).mono ?_;rintro e W8 ⟨rfl,D⟩
 go_wp21
 refine(D.og _ [gI,iB,gn,fY,gq,iH,gr,iI,gv,il] .nothing rfl (by rfl) rfl).mono ?_;rintro e W9 ⟨rfl,F⟩
 go_wp21
 refine(F.made (pU bm bB bD 6 _) nofun).mono ?_;rintro e S ⟨J,I,N,rfl,d⟩;have O:=jH (sp:=nS) (v0:= .nilFunc) (v1:= .nilFunc) (v2:= .nilFunc) (v3:= .nilFunc) (v4:= .nilFunc) (v5:= .map (some b1)) (v6:= .map (some b2)) (v7:= .nilFunc) (v8:= .nilFunc) (v9:= .func J I N) d.g d.k ⟨rfl,rfl,rfl,rfl,rfl,(d.pu (by simp)),(d.pu (by simp)),rfl,rfl,(d.at (r:= .pO 6) (by simp))⟩ _ rfl;have⟨q0,q1,q2,q3,q4,q5,q6,q7,q8,q9⟩:=kO d.g;have u:=gu d.g;go_wp2;exact kQ results78 rfl rfl O
def pX:nc:={jM:= .ik 125,gR:= .gR 105 true,iy:= .nothing,start:=some [([jI],(.ik 133)),([iP],(.ik 132)),([iZ],(.pO 3)),([fZ],(.ahead 131)),([iH,iI,il],(.ot [fZ] gq 11)),([gq,gr,gv],(.sA [fZ] 11)),([iB],(.ot [fZ] gn 10)),([gn],(.sA [fZ] 10)),([gy],(.ik 126))],stop:=some [([gI,gy,iB,gn,fY,gq,iH,gr,iI,gv,il],.nothing),([fZ],(.ends 131))],ir:= .ik 135}
def XM (bm bB bD:Nat) (w:gx) (hb:BD bB bD w) (ht:xL w) (ad:bm < w.heap.size):
  Calls prog 76 #[iF bB] w (jT bm bB bD pX w):=by
 have aK:=@run_makeMap prog;have⟨W0,hW0,HS0⟩:=St.start bm bB bD w ht ad;have⟨yn,hBl⟩:=hb;have ab:=fV hW0;clear hW0;go_enter func76,ntmps76
 go_wp21
 rw[<-ab.out];refine(HS0.made (oW bm bB bD 105 true _) nofun).mono ?_;rintro e W1 ⟨f1,a1,l1,rfl,a0⟩;have⟨W2,b1,hW2,hb1,HS2⟩:=a0.map;have ac:=fV hW2;have Y:=fV hb1;clear hW2 hb1
 go_wp21
 rw[<-ac.out,<-Y.out];refine(HS2.og _ [gy] (.ik 126) (by rfl) (by rfl) rfl).mono ?_;rintro e W3 ⟨rfl,a2⟩
 go_wp21
 refine(a2.WC (BZ bm _)).mono ?_;rintro e W4 ⟨f4,a4,l4,rfl,V,a3⟩
 go_wp21
 refine(a3.made (BW bm bB bD [fZ] 10 _ _ V) nofun).mono ?_;rintro e W5 ⟨f5,a5,l5,rfl,O⟩
 go_wp21
 refine(O.og _ [gn] (.sA [fZ] 10) (by rfl) (by rfl) (O.at (by simp))).mono ?_;rintro e W6 ⟨rfl,a6⟩
 go_wp21
 refine(a6.WC (BZ bm _)).mono ?_;rintro e W7 ⟨f7,a7,l7,rfl,W,a9⟩
 go_wp21
 refine(a9.made (Du bm bB bD [fZ] gn 10 _ _ W) nofun).mono ?_;rintro e W8 ⟨f8,a8,l8,rfl,S⟩
 go_wp21
 refine(S.og _ [iB] (.ot [fZ] gn 10) (by rfl) (by rfl) (S.at (by simp))).mono ?_;rintro e W9 ⟨rfl,aa⟩
 go_wp21
 refine(aa.WC (BZ bm _)).mono ?_;rintro e ae ⟨aD,aw,aL,rfl,z,B⟩
 go_wp21
 refine(B.made (BW bm bB bD [fZ] 11 _ _ z) nofun).mono ?_;rintro e af ⟨aE,ax,aM,rfl,h⟩
 go_wp21
 refine(h.og _ [gq,gr,gv] (.sA [fZ] 11) (by rfl) (by rfl) (h.at (by simp))).mono ?_;rintro e ag ⟨rfl,D⟩
 go_wp21
 refine(D.WC (BZ bm _)).mono ?_;rintro e ah ⟨aF,ay,aN,rfl,A,F⟩
 go_wp21
 refine(F.made (Du bm bB bD [fZ] gq 11 _ _ A) nofun).mono ?_;rintro e ai ⟨aG,az,aO,rfl,j⟩
 go_wp21
 refine(j.og _ [iH,iI,il] (.ot [fZ] gq 11) (by rfl) (by rfl) (j.at (by simp))).mono ?_;rintro e aj ⟨rfl,G⟩
 go_wp21
 refine(G.made (oL bm bB bD 131 _) nofun).mono ?_;rintro e ak ⟨aH,aA,aP,rfl,l⟩
 go_wp21
 refine(l.og _ [fZ] (.ahead 131) (by rfl) (by rfl) (l.at (by simp))).mono ?_;rintro e al ⟨rfl,H⟩
 go_wp21
 refine(H.made (pU bm bB bD 3 _) nofun).mono ?_;rintro e am ⟨aI,aB,aQ,rfl,m⟩
 go_wp21
 refine(m.og _ [iZ] (.pO 3) (by rfl) (by rfl) (m.at (by simp))).mono ?_;rintro e an ⟨rfl,I⟩
 go_wp21
 refine(I.og _ [iP] (.ik 132) (by rfl) (by rfl) rfl).mono ?_;rintro e ao ⟨rfl,J⟩
 go_wp21
 refine(J.og _ [jI] (.ik 133) (by rfl) (by rfl) rfl).mono ?_;rintro e ap ⟨rfl,K⟩;have⟨W22,b2,hW22,hb2,HS22⟩:=K.map;have U:=fV hW22;have Z:=fV hb2;clear hW22 hb2
 go_wp21
 rw[<-U.out,<-Z.out];refine(HS22.made (yb bm bB bD 131 _) nofun).mono ?_;rintro e aq ⟨aJ,aC,aR,rfl,q⟩
 go_wp21
 refine(q.og _ [fZ] (.ends 131) (by rfl) (by rfl) (q.at (by simp))).mono ?_;rintro e ar ⟨rfl,N⟩
 go_wp21
 refine(N.og _ [gI,gy,iB,gn,fY,gq,iH,gr,iI,gv,il] .nothing rfl rfl rfl).mono ?_;rintro e au ⟨rfl,d⟩;have HF:=jH (sp:=pX) (v0:= .nilFunc) (v1:= .func (.func 125) #[iF bB] #[]) (v2:= .func f1 a1 l1) (v3:= .func (.func 97) #[] #[]) (v4:= .nilFunc) (v5:= .map (some b1)) (v6:= .map (some b2)) (v7:= .nilFunc) (v8:= .nilFunc) (v9:= .func (.func 135) #[iF bB] #[]) d.g d.k ⟨rfl,rfl,(d.at (r:= .gR 105 true) (by simp)),rfl,rfl,(d.pu (by simp)),(d.pu (by simp)),rfl,rfl,rfl⟩ _ rfl;have⟨q0,q1,q2,q3,q4,q5,q6,q7,q8,q9⟩:=kO d.g;have u:=gu d.g;go_wp2;exact kQ results76 rfl rfl HF
def ko:nc:={blank:= .ik 109,gR:= .gR 105 true,iy:= .nothing,iR:= .pO 6,start:=some [([iB],(.ik 110)),([fY],(.pO 6))],stop:=some [([gn],(.ends 139)),([iB],.nothing)],ir:= .ahead 139}
def H6 (bm bB bD:Nat) (w:gx) (hb:BD bB bD w) (ht:xL w) (N:bm < w.heap.size):
  Calls prog 79 #[iF bB] w (jT bm bB bD ko w):=by
 have a0:=@run_makeMap prog;have⟨W0,hW0,HS0⟩:=St.start bm bB bD w ht N;have⟨yn,hBl⟩:=hb;have G:=fV hW0;clear hW0;go_enter func79,ntmps79
 go_wp21
 rw[<-G.out];refine(HS0.made (oW bm bB bD 105 true _) nofun).mono ?_;rintro e W1 ⟨Z,W,l1,rfl,z⟩
 go_wp21
 refine(z.made (pU bm bB bD 6 _) nofun).mono ?_;rintro e W2 ⟨f2,Y,l2,rfl,A⟩;have⟨W3,b1,hW3,hb1,HS3⟩:=A.map;have H:=fV hW3;have m:=fV hb1;clear hW3 hb1
 go_wp21
 rw[<-H.out,<-m.out];refine(HS3.made (pU bm bB bD 6 _) nofun).mono ?_;rintro e W4 ⟨f4,a4,l4,rfl,j⟩
 go_wp21
 refine(j.og _ [fY] (.pO 6) (by rfl) (by rfl) (j.at (by simp))).mono ?_;rintro e W5 ⟨rfl,B⟩
 go_wp21
 refine(B.og _ [iB] (.ik 110) (by rfl) (by rfl) rfl).mono ?_;rintro e W6 ⟨rfl,D⟩;have⟨W7,b2,hW7,hb2,HS7⟩:=D.map;have I:=fV hW7;have q:=fV hb2;clear hW7 hb2
 go_wp21
 rw[<-I.out,<-q.out];refine(HS7.og _ [iB] .nothing (by rfl) (by rfl) rfl).mono ?_;rintro e W8 ⟨rfl,F⟩
 go_wp21
 refine(F.made (yb bm bB bD 139 _) nofun).mono ?_;rintro e W9 ⟨f9,a9,l9,rfl,l⟩
 go_wp21
 refine(l.og _ [gn] (.ends 139) (by rfl) (by rfl) (l.at (by simp))).mono ?_;rintro e U ⟨rfl,h⟩
 go_wp21
 refine(h.made (oL bm bB bD 139 _) nofun).mono ?_;rintro e V ⟨K,J,O,rfl,d⟩;have S:=jH (sp:=ko) (v0:= .func (.func 109) #[iF bB] #[]) (v1:= .nilFunc) (v2:= .func Z W l1) (v3:= .func (.func 97) #[] #[]) (v4:= .func f2 Y l2) (v5:= .map (some b1)) (v6:= .map (some b2)) (v7:= .nilFunc) (v8:= .nilFunc) (v9:= .func K J O) d.g d.k ⟨rfl,rfl,(d.at (r:= .gR 105 true) (by simp)),rfl,(d.at (r:= .pO 6) (by simp)),(d.pu (by simp)),(d.pu (by simp)),rfl,rfl,(d.at (r:= .ahead 139) (by simp))⟩ _ rfl;have⟨q0,q1,q2,q3,q4,q5,q6,q7,q8,q9⟩:=kO d.g;have u:=gu d.g;go_wp2;exact kQ results79 rfl rfl S
def km:nc:={start:=some [([gy,iB,gn,gq,gr,gv],(.ahead 141)),([iH,iI],(.ot [gq,gr,gv] il 12)),([il],(.sA [gq,gr,gv] 12))],stop:=some [([gI,gy,iB,gn,fY,iH,iI,il],.nothing),([fZ],(.ahead 141)),([gq,gr,gv],(.Om (.ends 141)))],ir:= .pO 7}
def LX (bm bB bD:Nat) (w:gx) (hb:BD bB bD w) (ht:xL w) (a0:bm < w.heap.size):
  Calls prog 80 #[iF bB] w (jT bm bB bD km w):=by
 have ak:=@run_makeMap prog;have⟨W0,hW0,HS0⟩:=St.start bm bB bD w ht a0;have⟨yn,hBl⟩:=hb;have F:=fV hW0;clear hW0;go_enter func80,ntmps80;have⟨W1,b1,hW1,hb1,HS1⟩:=HS0.map;have W:=fV hW1;have J:=fV hb1;clear hW1 hb1
 go_wp21
 rw[<-F.out];rw[<-W.out,show w.heap.size+1=b1 by rw[J.out,F.out];simp];refine(HS1.WC (Az bm _)).mono ?_;rintro e W2 ⟨f2,a2,l2,rfl,H,N⟩
 go_wp21
 refine(N.made (BW bm bB bD [gq,gr,gv] 12 _ _ H) nofun).mono ?_;rintro e W3 ⟨f3,a3,l3,rfl,A⟩
 go_wp21
 refine(A.og _ [il] (.sA [gq,gr,gv] 12) (by rfl) (by rfl) (A.at (by simp))).mono ?_;rintro e W4 ⟨rfl,O⟩
 go_wp21
 refine(O.WC (Az bm _)).mono ?_;rintro e W5 ⟨f5,a5,l5,rfl,I,S⟩
 go_wp21
 refine(S.made (Du bm bB bD [gq,gr,gv] il 12 _ _ I) nofun).mono ?_;rintro e W6 ⟨f6,a6,l6,rfl,B⟩
 go_wp21
 refine(B.og _ [iH,iI] (.ot [gq,gr,gv] il 12) (by rfl) (by rfl) (B.at (by simp))).mono ?_;rintro e W7 ⟨rfl,U⟩
 go_wp21
 refine(U.made (oL bm bB bD 141 _) nofun).mono ?_;rintro e W8 ⟨f8,a8,l8,rfl,D⟩
 go_wp21
 refine(D.og _ [gy,iB,gn,gq,gr,gv] (.ahead 141) rfl (by rfl) (D.at (by simp))).mono ?_;rintro e W9 ⟨rfl,V⟩;have⟨W10,b2,hW10,hb2,HS10⟩:=V.map;have G:=fV hW10;have K:=fV hb2;clear hW10 hb2
 go_wp21
 rw[<-G.out,<-K.out];refine(HS10.made (yb bm bB bD 141 _) nofun).mono ?_;rintro e a4 ⟨ah,ae,al,rfl,h⟩
 go_wp21
 refine(h.made (Km bm bB bD (.ends 141) _ _ (by simp) (h.at (by simp))) nofun).mono ?_;rintro e a7 ⟨ai,af,am,rfl,j⟩
 go_wp21
 refine(j.og _ [gq,gr,gv] (.Om (.ends 141)) (by rfl) (by rfl) (j.at (by simp))).mono ?_;rintro e a9 ⟨rfl,m⟩
 go_wp21
 refine(m.made (oL bm bB bD 141 _) nofun).mono ?_;rintro e aa ⟨aj,ag,an,rfl,l⟩
 go_wp21
 refine(l.og _ [fZ] (.ahead 141) (by rfl) (by rfl) (l.at (by simp))).mono ?_;rintro e ab ⟨rfl,q⟩
 go_wp21
 refine(q.og _ [gI,gy,iB,gn,fY,iH,iI,il] .nothing (by rfl) (by rfl) rfl).mono ?_;rintro e ac ⟨rfl,z⟩
 go_wp21
 refine(z.made (pU bm bB bD 7 _) nofun).mono ?_;rintro e ad ⟨Z,Y,a1,rfl,d⟩;have HF:=jH (sp:=km) (v0:= .nilFunc) (v1:= .nilFunc) (v2:= .nilFunc) (v3:= .nilFunc) (v4:= .nilFunc) (v5:= .map (some b1)) (v6:= .map (some b2)) (v7:= .nilFunc) (v8:= .nilFunc) (v9:= .func Z Y a1) d.g d.k ⟨rfl,rfl,rfl,rfl,rfl,(d.pu (by simp)),(d.pu (by simp)),rfl,rfl,(d.at (r:= .pO 7) (by simp))⟩ _ rfl;have⟨q0,q1,q2,q3,q4,q5,q6,q7,q8,q9⟩:=kO d.g;have u:=gu d.g;go_wp2;exact kQ results80 rfl rfl HF
def rn:nc:={start:=some [([gy,iB,gn,gq,gr,gv,il],(.ahead 144)),([iH,iI],(.ik 143))],stop:=some [([gI,gy,iB,gn,fY,iH,iI],.nothing),([gq,gr,gv],(.Om (.ahead 144))),([fZ],(.ahead 144)),([il],(.ends 144))],ir:= .pO 7}
def ac3 (bm bB bD:Nat) (w:gx) (hb:BD bB bD w) (ht:xL w) (U:bm < w.heap.size):
  Calls prog 81 #[iF bB] w (jT bm bB bD rn w):=by
 have aa:=@run_makeMap prog;have⟨W0,hW0,HS0⟩:=St.start bm bB bD w ht U;have⟨yn,hBl⟩:=hb;have B:=fV hW0;clear hW0;go_enter func81,ntmps81;have⟨W1,b1,hW1,hb1,HS1⟩:=HS0.map;have K:=fV hW1;have D:=fV hb1;clear hW1 hb1
 go_wp21
 rw[<-B.out];rw[<-K.out,show w.heap.size+1=b1 by rw[D.out,B.out];simp];refine(HS1.og _ [iH,iI] (.ik 143) (by rfl) (by rfl) rfl).mono ?_;rintro e W2 ⟨rfl,G⟩
 go_wp21
 refine(G.made (oL bm bB bD 144 _) nofun).mono ?_;rintro e W3 ⟨f3,a3,l3,rfl,q⟩
 go_wp21
 refine(q.og _ [gy,iB,gn,gq,gr,gv,il] (.ahead 144) rfl (by rfl) (q.at (by simp))).mono ?_;rintro e W4 ⟨rfl,H⟩;have⟨W5,b2,hW5,hb2,HS5⟩:=H.map;have N:=fV hW5;have F:=fV hb2;clear hW5 hb2
 go_wp21
 rw[<-N.out,<-F.out];refine(HS5.made (yb bm bB bD 144 _) nofun).mono ?_;rintro e W6 ⟨f6,a6,l6,rfl,z⟩
 go_wp21
 refine(z.og _ [il] (.ends 144) (by rfl) (by rfl) (z.at (by simp))).mono ?_;rintro e W7 ⟨rfl,I⟩
 go_wp21
 refine(I.made (oL bm bB bD 144 _) nofun).mono ?_;rintro e W8 ⟨f8,a8,l8,rfl,A⟩
 go_wp21
 refine(A.og _ [fZ] (.ahead 144) (by rfl) (by rfl) (A.at (by simp))).mono ?_;rintro e W9 ⟨rfl,J⟩
 go_wp21
 refine(J.made (oL bm bB bD 144 _) nofun).mono ?_;rintro e Y ⟨a7,a4,ab,rfl,h⟩
 go_wp21
 refine(h.made (Km bm bB bD (.ahead 144) _ _ (by simp) (h.at (by simp))) nofun).mono ?_;rintro e Z ⟨a9,a5,ac,rfl,j⟩
 go_wp21
 refine(j.og _ [gq,gr,gv] (.Om (.ahead 144)) (by rfl) (by rfl) (j.at (by simp))).mono ?_;rintro e a0 ⟨rfl,l⟩
 go_wp21
 refine(l.og _ [gI,gy,iB,gn,fY,iH,iI] .nothing (by rfl) (by rfl) rfl).mono ?_;rintro e a1 ⟨rfl,m⟩
 go_wp21
 refine(m.made (pU bm bB bD 7 _) nofun).mono ?_;rintro e a2 ⟨S,O,V,rfl,d⟩;have W:=jH (sp:=rn) (v0:= .nilFunc) (v1:= .nilFunc) (v2:= .nilFunc) (v3:= .nilFunc) (v4:= .nilFunc) (v5:= .map (some b1)) (v6:= .map (some b2)) (v7:= .nilFunc) (v8:= .nilFunc) (v9:= .func S O V) d.g d.k ⟨rfl,rfl,rfl,rfl,rfl,(d.pu (by simp)),(d.pu (by simp)),rfl,rfl,(d.at (r:= .pO 7) (by simp))⟩ _ rfl;have⟨q0,q1,q2,q3,q4,q5,q6,q7,q8,q9⟩:=kO d.g;have u:=gu d.g;go_wp2;exact kQ results81 rfl rfl W
def rR:nc:={start:=some [([gy,iB,gn,gq,iH,gr,iI,gv,il],(.ahead 145))],stop:=some [([gI,gy,iB,gn,fY],.nothing),([fZ,gq,gr,gv,il],(.Om (.ahead 145))),([iH,iI],(.Om (.ends 145)))],ir:= .pO 6}
def aaD (bm bB bD:Nat) (w:gx) (Z:BD bB bD w) (ht:xL w) (O:bm < w.heap.size):
  Calls prog 82 #[iF bB] w (jT bm bB bD rR w):=by
 have a0:=@run_makeMap prog;have⟨W0,hW0,HS0⟩:=St.start bm bB bD w ht O;have⟨yn,hBl⟩:=Z;have B:=fV hW0;clear hW0;go_enter func82,ntmps82;have⟨W1,b1,hW1,hb1,HS1⟩:=HS0.map;have I:=fV hW1;have D:=fV hb1;clear hW1 hb1
 go_wp21
 rw[<-B.out];rw[<-I.out,show w.heap.size+1=b1 by rw[D.out,B.out];simp];refine(HS1.made (oL bm bB bD 145 _) nofun).mono ?_;rintro e W2 ⟨f2,a2,l2,rfl,l⟩
 go_wp21
 refine(l.og _ [gy,iB,gn,gq,iH,gr,iI,gv,il] (.ahead 145) rfl (by rfl) (l.at (by simp))).mono ?_;rintro e W3 ⟨rfl,G⟩;have⟨W4,b2,hW4,hb2,HS4⟩:=G.map;have J:=fV hW4;have F:=fV hb2;clear hW4 hb2
 go_wp21
 rw[<-J.out,<-F.out];refine(HS4.made (yb bm bB bD 145 _) nofun).mono ?_;rintro e W5 ⟨f5,a5,l5,rfl,m⟩
 go_wp21
 refine(m.made (Km bm bB bD (.ends 145) _ _ (by simp) (m.at (by simp))) nofun).mono ?_;rintro e W6 ⟨f6,a6,l6,rfl,q⟩
 go_wp21
 refine(q.og _ [iH,iI] (.Om (.ends 145)) (by rfl) (by rfl) (q.at (by simp))).mono ?_;rintro e W7 ⟨rfl,H⟩
 go_wp21
 refine(H.made (oL bm bB bD 145 _) nofun).mono ?_;rintro e W8 ⟨f8,a8,l8,rfl,z⟩
 go_wp21
 refine(z.made (Km bm bB bD (.ahead 145) _ _ (by simp) (z.at (by simp))) nofun).mono ?_;rintro e W9 ⟨f9,a9,l9,rfl,A⟩
 go_wp21
 refine(A.og _ [fZ,gq,gr,gv,il] (.Om (.ahead 145)) (by rfl) (by rfl) (A.at (by simp))).mono ?_;rintro e V ⟨rfl,h⟩
 go_wp21
 refine(h.og _ [gI,gy,iB,gn,fY] .nothing (by rfl) (by rfl) rfl).mono ?_;rintro e W ⟨rfl,j⟩
 go_wp21
 refine(j.made (pU bm bB bD 6 _) nofun).mono ?_;rintro e Y ⟨N,K,S,rfl,d⟩;have U:=jH (sp:=rR) (v0:= .nilFunc) (v1:= .nilFunc) (v2:= .nilFunc) (v3:= .nilFunc) (v4:= .nilFunc) (v5:= .map (some b1)) (v6:= .map (some b2)) (v7:= .nilFunc) (v8:= .nilFunc) (v9:= .func N K S) d.g d.k ⟨rfl,rfl,rfl,rfl,rfl,(d.pu (by simp)),(d.pu (by simp)),rfl,rfl,(d.at (r:= .pO 6) (by simp))⟩ _ rfl;have⟨q0,q1,q2,q3,q4,q5,q6,q7,q8,q9⟩:=kO d.g;have u:=gu d.g;go_wp2;exact kQ results82 rfl rfl U
def oN:nc:={jM:= .ik 146,gR:= .gR 105 true,start:=some [([jI,jJ],(.ahead 150)),([jb],(.ends 150)),([vf],(.ik 149)),([gp],(.ik 148)),([gP],(.ik 147)),([fY],(.pO 6))],stop:=some [([jb],(.ends 150)),([gP],(.ik 152)),([gp],(.ik 151))],ir:= .nothing}
def Un (bm bB bD:Nat) (w:gx) (hb:BD bB bD w) (ht:xL w) (U:bm < w.heap.size):
  Calls prog 83 #[iF bB] w (jT bm bB bD oN w):=by
 have aa:=@run_makeMap prog;have⟨W0,hW0,HS0⟩:=St.start bm bB bD w ht U;have⟨yn,hBl⟩:=hb;have O:=fV hW0;clear hW0;go_enter func83,ntmps83
 go_wp21
 rw[<-O.out];refine(HS0.made (oW bm bB bD 105 true _) nofun).mono ?_;rintro e W1 ⟨f1,a1,l1,rfl,G⟩;have⟨W2,b1,hW2,hb1,HS2⟩:=G.map;have S:=fV hW2;have D:=fV hb1;clear hW2 hb1
 go_wp21
 rw[<-S.out,<-D.out];refine(HS2.made (pU bm bB bD 6 _) nofun).mono ?_;rintro e W3 ⟨f3,a3,l3,rfl,z⟩
 go_wp21
 refine(z.og _ [fY] (.pO 6) (by rfl) (by rfl) (z.at (by simp))).mono ?_;rintro e W4 ⟨rfl,H⟩
 go_wp21
 refine(H.og _ [gP] (.ik 147) (by rfl) (by rfl) rfl).mono ?_;rintro e W5 ⟨rfl,I⟩
 go_wp21
 refine(I.og _ [gp] (.ik 148) (by rfl) (by rfl) rfl).mono ?_;rintro e W6 ⟨rfl,J⟩
 go_wp21
 refine(J.og _ [vf] (.ik 149) (by rfl) (by rfl) rfl).mono ?_;rintro e W7 ⟨rfl,K⟩
 go_wp21
 refine(K.made (yb bm bB bD 150 _) nofun).mono ?_;rintro e W8 ⟨f8,a8,l8,rfl,A⟩
 go_wp21
 refine(A.og _ [jb] (.ends 150) (by rfl) (by rfl) (A.at (by simp))).mono ?_;rintro e W9 ⟨rfl,N⟩
 go_wp21
 refine(N.made (oL bm bB bD 150 _) nofun).mono ?_;rintro e W ⟨a7,a5,ab,rfl,h⟩
 go_wp21
 refine(h.og _ [jI,jJ] (.ahead 150) (by rfl) (by rfl) (h.at (by simp))).mono ?_;rintro e Y ⟨rfl,l⟩;have⟨W12,b2,hW12,hb2,HS12⟩:=l.map;have B:=fV hW12;have F:=fV hb2;clear hW12 hb2
 go_wp21
 rw[<-B.out,<-F.out];refine(HS12.og _ [gp] (.ik 151) (by rfl) (by rfl) rfl).mono ?_;rintro e Z ⟨rfl,m⟩
 go_wp21
 refine(m.og _ [gP] (.ik 152) (by rfl) (by rfl) rfl).mono ?_;rintro e a0 ⟨rfl,q⟩
 go_wp21
 refine(q.made (yb bm bB bD 150 _) nofun).mono ?_;rintro e a2 ⟨a9,a6,ac,rfl,j⟩
 go_wp21
 refine(j.og _ [jb] (.ends 150) (by rfl) (by rfl) (j.at (by simp))).mono ?_;rintro e a4 ⟨rfl,d⟩;have V:=jH (sp:=oN) (v0:= .nilFunc) (v1:= .func (.func 146) #[iF bB] #[]) (v2:= .func f1 a1 l1) (v3:= .nilFunc) (v4:= .nilFunc) (v5:= .map (some b1)) (v6:= .map (some b2)) (v7:= .nilFunc) (v8:= .nilFunc) (v9:= .func (.func 97) #[] #[]) d.g d.k ⟨rfl,rfl,(d.at (r:= .gR 105 true) (by simp)),rfl,rfl,(d.pu (by simp)),(d.pu (by simp)),rfl,rfl,rfl⟩ _ rfl;have⟨q0,q1,q2,q3,q4,q5,q6,q7,q8,q9⟩:=kO d.g;have u:=gu d.g;go_wp2;exact kQ results83 rfl rfl V
def kg:nc:={start:=some [([gy,fZ,gq,gr,gv,il,iH,iI],(.ahead 150))],stop:=some [([gy,fZ,gq,gr,gv,il,iH,iI],(.Om (.ahead 150)))],ir:= .pO 14}
def EF (bm bB bD:Nat) (w:gx) (K:BD bB bD w) (O:xL w) (G:bm < w.heap.size):
  Calls prog 84 #[iF bB] w (jT bm bB bD kg w):=by
 have N:=@run_makeMap prog;have⟨W0,hW0,HS0⟩:=St.start bm bB bD w O G;have⟨yn,hBl⟩:=K;have m:=fV hW0;clear hW0;go_enter func84,ntmps84;have⟨W1,b1,hW1,hb1,HS1⟩:=HS0.map;have D:=fV hW1;have q:=fV hb1;clear hW1 hb1
 go_wp21
 rw[<-m.out];rw[<-D.out,show w.heap.size+1=b1 by rw[q.out,m.out];simp];refine(HS1.made (oL bm bB bD 150 _) nofun).mono ?_;rintro e U ⟨f2,a2,l2,rfl,h⟩
 go_wp21
 refine(h.og _ [gy,fZ,gq,gr,gv,il,iH,iI] (.ahead 150) (by rfl) (by rfl) (h.at (by simp))).mono ?_;rintro e V ⟨rfl,A⟩;have⟨W4,b2,hW4,hb2,HS4⟩:=A.map;have F:=fV hW4;have z:=fV hb2;clear hW4 hb2
 go_wp21
 rw[<-F.out,<-z.out];refine(HS4.made (oL bm bB bD 150 _) nofun).mono ?_;rintro e W ⟨f5,a5,l5,rfl,j⟩
 go_wp21
 refine(j.made (Km bm bB bD (.ahead 150) _ _ (by simp) (j.at (by simp))) nofun).mono ?_;rintro e Y ⟨f6,a6,l6,rfl,l⟩
 go_wp21
 refine(l.og _ [gy,fZ,gq,gr,gv,il,iH,iI] (.Om (.ahead 150)) (by rfl) (by rfl) (l.at (by simp))).mono ?_;rintro e Z ⟨rfl,B⟩
 go_wp21
 refine(B.made (pU bm bB bD 14 _) nofun).mono ?_;rintro e W8 ⟨J,I,S,rfl,d⟩;have H:=jH (sp:=kg) (v0:= .nilFunc) (v1:= .nilFunc) (v2:= .nilFunc) (v3:= .nilFunc) (v4:= .nilFunc) (v5:= .map (some b1)) (v6:= .map (some b2)) (v7:= .nilFunc) (v8:= .nilFunc) (v9:= .func J I S) d.g d.k ⟨rfl,rfl,rfl,rfl,rfl,(d.pu (by simp)),(d.pu (by simp)),rfl,rfl,(d.at (r:= .pO 14) (by simp))⟩ _ rfl;have⟨q0,q1,q2,q3,q4,q5,q6,q7,q8,q9⟩:=kO d.g;have u:=gu d.g;go_wp2;exact kQ results84 rfl rfl H
def ni (z:jN) (d f a:Int) (v:gQ) (bD:Nat):jN:=((((z.setIfInBounds 0 (gh d)).setIfInBounds 1 (gh f)).setIfInBounds 2 (gh a)).setIfInBounds 3 v).setIfInBounds 187 (iF bD)
def sV:Tryz.zeroCells180.size=199:=by rfl
def Cn (z:jN) (d f a:Int) (v:gQ) (bD:Nat):(ni z d f a v bD).size=z.size:=by
 simp[ni]
theorem x8 (z:jN) (d f a:Int) (v:gQ) (bD i:Nat) (h:4<=i) (j:i≠187):(ni z d f a v bD)[i]?=z[i]?:=by
 simp only[ni,AB]
 grind
def xx:List nc:=[{blank:= .nothing,gR:= .gR 99 false,iy:= .ik 100,ir:= .ik 101},mU,mV,mG,nR,tF,ln,pX,lO,nS,ko,km,rn,rR,oN,kg,mQ,jZ 99 false]
def nY.one (h:nY bm bB bD r v w):v.oneCell'=true:=by
 by_cases d:r= .nil
 .subst d;have:v= .nilFunc:=h;subst this;rfl
 .obtain⟨f,a,l,rfl⟩:=h.func d;rfl
def su.one {R : Option (List (List gz×Ru))} (h:su bm bB bD R v w):v.oneCell'=true:=by
 cases R with
 |none=>have:v= .map none:=h;subst this;rfl
 |some R=>obtain⟨b,L,rfl,_⟩:=h;rfl
def li.one (h:li bm bB bD sp v0 v1 v2 v3 v4 v5 v6 v7 v8 v9 w):∀v∈[v0,v1,v2,v3,v4,v5,v6,v7,v8,v9],v.oneCell'=true:=by
 intro v d;simp at d;rcases d with rfl|rfl|rfl|rfl|rfl|rfl|rfl|rfl|rfl|rfl
 .exact h.blank.one
 .exact h.jM.one
 .exact h.gR.one
 .exact h.iy.one
 .exact h.iR.one
 .exact h.start.one
 .exact h.stop.one
 .exact h.jG.one
 .exact h.j8.one
 .exact h.ir.one
theorem li.Z2 (h:li bm bB bD sp v0 v1 v2 v3 v4 v5 v6 v7 v8 v9 w) (d:Kept [s] w w') (j:w.heap[s]?=some (gL c 180)):li bm bB bD sp v0 v1 v2 v3 v4 v5 v6 v7 v8 v9 w':=
 have f:wU bm w w':=⟨_,d,λk l _=>by
  grind[IG]⟩
 ⟨h.blank.fr f,h.jM.fr f,h.gR.fr f,h.iy.fr f,h.iR.fr f,h.start.JI d j f,h.stop.JI d j f,h.jG.fr f,h.j8.fr f,h.ir.fr f⟩
def BJ (bm bB bD:Nat) (d:List gQ) (W:gx):Prop:=d.length=180/\∀m sp,xx[m]?=some sp->∃v0 v1 v2 v3 v4 v5 v6 v7 v8 v9,(d.drop (10*m)).take 10=[v0,v1,v2,v3,v4,v5,v6,v7,v8,v9]/\li bm bB bD sp v0 v1 v2 v3 v4 v5 v6 v7 v8 v9 W
def BJ.Z2 {d : List gQ} (h:BJ bm bB bD d w) (j:Kept [s] w w') (q:w.heap[s]?=some (gL c 180)):BJ bm bB bD d w':=by
 refine⟨h.1,λm sp l=>?_⟩;have⟨v0,v1,v2,v3,v4,v5,v6,v7,v8,v9,e,hr⟩:=h.2 m sp l;exact⟨v0,v1,v2,v3,v4,v5,v6,v7,v8,v9,e,hr.Z2 j q⟩
section
variable {P:Program} {ops:Array Oper} {rest:List Oper} {o:Oper} {a:Act} {w:gx} {Q:Exit->Act->gx->Prop}
def Bv (m:o.guard=none) (d:Option Tmp) (l:o.dst=d) (v:gQ) (q:(execOp a.eval o).run P w= .ok (.value v) w) (h:wpList P ops Q rest (a.put d v) w):wpList P ops Q (o::rest) a w:=by
 subst l;refine wpList_plain m λK j=>?_;unfold Oper.wp;rw[q];exact j _ _ h
end
structure aeB (bm bB bD:Nat) (d f a:Int) (av:gQ) (w W:gx):Prop where
 k:Kept [] w W
 new:w.heap.size<=bB
 iC:∃c6 cs v1 v2 v3,W.heap[bB]?=some (gL (js c6 4 cs) 180)/\c6=((((ni Tryz.zeroCells180 d f a av bD).setIfInBounds 184 v1).setIfInBounds 185 v2).setIfInBounds 186 v3)/\BJ bm bB bD cs W/\Ask bm v1 lB W/\Ask bm v2 vG W/\Ask bm v3 iS W
 xX:W.heap[bD]?=some (gL #[gH jz,jc,.pointer none,jc] 140)
 ne:bD≠bB
 ahd:w.heap.size<=bD
def Yf (d:gx) (bm:Nat) (c:jN) (j:gx) (h:j=((d.alloc (gL #[.map (some bm)] 92)).alloc (gL #[gH jz,jc,.pointer none,jc] 140)).alloc (gL c 180)):
  j.heap[d.heap.size]?=some (gL #[.map (some bm)] 92)/\j.heap[d.heap.size+1]?=some (gL #[gH jz,jc,.pointer none,jc] 140)/\j.heap[d.heap.size+1+1]?=some (gL c 180)/\Kept [] d j:=by
 have⟨h1,h2,h3⟩:=oQ d (gL #[.map (some bm)] 92) (gL #[gH jz,jc,.pointer none,jc] 140) (gL c 180);subst h;exact⟨h1,h2,h3,(((Kept.refl _ _).alloc _).alloc _).alloc _⟩
theorem XW {d : gx} (h:gx) (j:h=((d.setCell ⟨bB,184,none⟩ v1).setCell ⟨bB,185,none⟩ v2).setCell ⟨bB,186,none⟩ v3) (l:d.heap[bB]?=some (gL c 180)):h.heap[bB]?=some (gL (((c.setIfInBounds 184 v1).setIfInBounds 185 v2).setIfInBounds 186 v3) 180)/\Kept [bB] d h/\wU bm d h:=by
 have m:=gm l 184 v1;have q:=gm m 185 v2;have A:=gm q 186 v3;have k:Kept [bB] d h:=by
  rw[j];exact(((Kept.refl [bB] d).setCell (p:=⟨bB,184,none⟩) (.inl (by simp)) v1).setCell (p:=⟨bB,185,none⟩) (.inl (by simp)) v2).setCell (p:=⟨bB,186,none⟩) (.inl (by simp)) v3
 refine⟨by grind,k,⟨_,k,λx z _=>?_⟩⟩;have e:=List.mem_singleton.1 z;subst e;exact .inl ⟨_,_,_,l,by decide⟩
def afp (d f a:Int) (af:Fn) (aa al:jN) (w:gx) (ht:xL w):
  Calls prog 54 #[.agg #[gh d,gh f,gh a],.func af aa al] w λe W=>∃bm bB bD,e=iw (iF bB)/\aeB bm bB bD d f a (.func af aa al) w W:=by
 obtain⟨w0,f5,K0,g0,z0⟩:=tq w (gL #[gh d,gh f,gh a] 71);have HT:=fV ht;have eV:=fV f5;have ec:=fV K0;have ev:=fV g0;have fq:=fV z0;clear ht f5 K0 g0 z0;go_enter func54,ntmps54;go_wp2_with fail;rw[<-eV.out];refine(Co _ (HT.out.fr (bm:=0) (.gU ec.out)).1).mono ?_;rintro e W1 ⟨bm,rfl,f4,H,eY⟩;have g1:=H.at ev.out (by simp);have c0:W1.cell? ⟨w.heap.size,0,none⟩=some (gh d):=(fW g1 0).trans rfl;have c1:W1.cell? ⟨w.heap.size,1,none⟩=some (gh f):=(fW g1 1).trans rfl;have c2:W1.cell? ⟨w.heap.size,2,none⟩=some (gh a):=(fW g1 2).trans rfl;have f3:=iX g1;have eB:=fV f4;have ed:=fV (ec.out.trans H);have fg:=fV eY;clear f4 H eY g1;go_wp2_with fail;clear c0 c1 c2 f3;obtain⟨W2,eh⟩:∃W,W=((W1.alloc (gL #[.map (some bm)] 92)).alloc (gL #[gH jz,jc,.pointer none,jc] 140)).alloc (gL (ni Tryz.zeroCells180 d f a (.func af aa al) (W1.heap.size+1)) 180):=⟨_,rfl⟩;obtain⟨gC,gD,gB,k2⟩:=Yf W1 bm _ W2 eh;change Code.wp _ _ _ _ (((W1.alloc (gL #[.map (some bm)] 92)).alloc (gL #[gH jz,jc,.pointer none,jc] 140)).alloc (gL (ni Tryz.zeroCells180 d f a (.func af aa al) (W1.heap.size+1)) 180));rw[<-eh];clear eh;obtain⟨bB,eZ⟩:∃b,b=W1.heap.size+1+1:=⟨_,rfl⟩;obtain⟨bD,f1⟩:∃b,b=W1.heap.size+1:=⟨_,rfl⟩;obtain⟨bC,f0⟩:∃b,b=W1.heap.size:=⟨_,rfl⟩;rw[<-eZ]at gB|-;rw[<-f1]at gB gD|-;rw[<-f0]at gC|-;have I:bC≠bB:=by omega
 have ea:=fV (show bD≠bB by omega);have ee:=fV (show w.heap.size<=bB/\w.heap.size<=bD by have:=ed.out.size;omega);have bR:=fV gC;have ey:=fV gD;have ex:=fV gB;have ef:=fV (eB.out.kept k2 (by simp));have ez:=fV (ed.out.trans k2);have er:=fV (show bm < W2.heap.size by
  obtain⟨es,ck,ha,_⟩:=ef.out;exact(Array.getElem?_eq_some_iff.1 ha).1)
 clear gC gD gB k2 eZ f1 f0 eB;have CA:Hid (∀(c:Nat) (W:gx),c < 16->Kept [] W2 W->Calls prog 41 #[.agg #[.map (some bm)],gh c] W λe w'=>(∃v,e=iw v/\Ask bm v (Vk sx c) w')/\Kept [] W w'):=fV (λc W hc l=>UY bm c sx W (ef.out.kept l (by simp)) hc Va);have fF:W2.cell? ⟨bC,0,none⟩=some (.map (some bm)):=(fW bR.out 0).trans rfl
 go_region_held3 (λw'=>w'.cell? ⟨bC,0,none⟩=some (.map (some bm))) ((first|assumption|go_keep|exact(lw I).trans (by assumption)|exact(lw I).trans ((lw I).trans (by assumption))|exact(lw I).trans ((lw I).trans ((lw I).trans (by assumption))))) ((first|(go_at_call 41;refine(CA.out 2 _ (by decide) (Kept.refl _ _).drew).mono ?_;rintro e W3 ⟨⟨v1,rfl,ej⟩,H⟩;obtain⟨f8,f7,f9,fJ⟩:=ej.func;subst fJ;have eo:=fV ej;have bL:Hid (Kept [] W2 W3):=fV (Kept.trans (Kept.refl _ _).drew H);have fG:W3.cell? ⟨bC,0,none⟩=some (.map (some bm)):=(fW (bL.out.at bR.out (by simp)) 0).trans rfl;have eu:=fV (wU.gU (bm:=bm) H);clear ej H)|(go_at_call 41;refine(CA.out 4 _ (by decide) bL.out).mono ?_;rintro e W4 ⟨⟨v2,rfl,ek⟩,em⟩;obtain⟨fO,fM,fQ,fK⟩:=ek.func;subst fK;have ep:=fV ek;have bM:Hid (Kept [] W2 W4):=fV (Kept.trans bL.out em);have fH:W4.cell? ⟨bC,0,none⟩=some (.map (some bm)):=(fW (bM.out.at bR.out (by simp)) 0).trans rfl;have dP:=fV (wU.gU (bm:=bm) em);clear ek em)|(go_at_call 41;refine(CA.out 8 _ (by decide) bM.out).mono ?_;rintro e W5 ⟨⟨v3,rfl,el⟩,en⟩;obtain⟨fP,fN,fR,fL⟩:=el.func;subst fL;have eq:=fV el;have D:Hid (Kept [] W2 W5):=fV (Kept.trans bM.out en);have fI:W5.cell? ⟨bC,0,none⟩=some (.map (some bm)):=(fW (D.out.at bR.out (by simp)) 0).trans rfl;have bQ:=fV (wU.gU (bm:=bm) en);clear el en;have G:=fV (D.out.at ex.out (by simp));have fa:W5.cell? ⟨bB,184,none⟩=some .nilFunc:=(fW G.out 184).trans ((x8 _ d f a _ bD 184 (by decide) (by decide)).trans (by kernel_rfl));have fd:=gu G.out 184;have fb:W5.cell? ⟨bB,185,none⟩=some .nilFunc:=(fW G.out 185).trans ((x8 _ d f a _ bD 185 (by decide) (by decide)).trans (by kernel_rfl));have fe:=gu G.out 185;have fc:W5.cell? ⟨bB,186,none⟩=some .nilFunc:=(fW G.out 186).trans ((x8 _ d f a _ bD 186 (by decide) (by decide)).trans (by kernel_rfl));have ff:=gu G.out 186)))
 obtain⟨W6,ei⟩:∃W,W=((W5.setCell ⟨bB,184,none⟩ (.func f8 f7 f9)).setCell ⟨bB,185,none⟩ (.func fO fM fQ)).setCell ⟨bB,186,none⟩ (.func fP fN fR):=⟨_,rfl⟩;rw[<-ei];obtain⟨g6,k6,f6⟩:=XW (bm:=bm) W6 ei G.out;have K6:Kept [] w W6:=(ez.out.trans D.out).next k6 (λx hx=> .inr (by rw[List.mem_singleton.1 hx];exact ee.out.1))
 have A1:=eo.out.fr (dP.out.trans (bQ.out.trans f6));have A2:=ep.out.fr (bQ.out.trans f6);have A3:=eq.out.fr f6;have f2:W6.heap[bD]?=some (gL #[gH jz,jc,.pointer none,jc] 140):=k6.at (D.out.at ey.out (by simp)) (by have:=ea.out;simpa using this);have dZ:bm < W6.heap.size:=mi (mi er.out D.out.size) k6.size;have q:Hid (∀W,Kept [] W6 W->BD bB bD W/\BS bm bB W/\xL W/\bm < W.heap.size):=by
  have b0:BD bB bD W6:=⟨(fW g6 187).trans (by
   simp only[ni,AB,SL,sV];rfl),iX g6⟩
  have b1:BS bm bB W6:=⟨iX g6,.func f8 f7 f9,(fW g6 184).trans (by
   simp only[ni,AB,SL,sV];rfl),A1⟩
  exact fV (λW l=>⟨b0.io l,b1.io l,HT.out.fr (.gU (bm:=bm) (K6.trans l)),mi dZ l.size⟩)
 have dK:=fV (And.intro A1 (And.intro A2 A3));have ew:=fV g6;have eA:=fV K6;have et:=fV f2;have dO:=fV ee.out;have eb:=fV ea.out;have dL:Hid (Kept [] W6 W6):=fV (Kept.refl _ _);clear ei g6 k6 f6 K6 A1 A2 A3 f2 dZ fF fG fH fI fa fb fc fd fe ff G bL bM D eu dP bQ eo ep eq bR ey ex ef ez er fg ed eV ec ev fq HT CA I ea ee;go_wp2_with fail;refine(XN bm bB bD _ (q.out _ dL.out).1 (q.out _ dL.out).2.2.1 (q.out _ dL.out).2.2.2).mono ?_;rintro e W7 ⟨bW,bX,bY,bZ,c3,c4,c5,c6,c7,c8,rfl,A,l⟩;have eK:=fV A;have dM:=fV (dL.out.trans l);have fS:=fV l;clear A l;go_wp2_with fail;refine(OR bm bB bD _ (q.out _ dM.out).1 (q.out _ dM.out).2.2.1 (q.out _ dM.out).2.2.2).mono ?_;rintro e W8 ⟨c9,ca,cb,cc,cf,cg,ch,ci,cj,cl,rfl,A,l⟩;have eL:=fV A;have dN:=fV (dM.out.trans l);have fh:=fV l;clear A l;go_wp2_with fail;refine(OS bm bB bD _ (q.out _ dN.out).1 (q.out _ dN.out).2.2.1 (q.out _ dN.out).2.2.2).mono ?_;rintro e W9 ⟨cm,cn,co,cp,cq,cr,ct,cu,cv,cx,rfl,A,l⟩;have eM:=fV A;have bq:=fV (dN.out.trans l);have fi:=fV l;clear A l;go_wp2_with fail;refine(aaE bm bB bD _ (q.out _ bq.out).1 (q.out _ bq.out).2.2.1 (q.out _ bq.out).2.2.2).mono ?_;rintro e fr ⟨cy,cz,cA,cB,cC,cD,cE,cF,cG,cH,rfl,A,l⟩;have eN:=fV A;have br:=fV (bq.out.trans l);have fj:=fV l;clear A l;go_wp2_with fail;refine(RA bm bB bD _ (q.out _ br.out).1 (q.out _ br.out).2.2.1 (q.out _ br.out).2.2.2).mono ?_;rintro e fs ⟨cI,cJ,cK,cL,cM,cN,cO,cP,cQ,cR,rfl,A,l⟩;have eO:=fV A;have bt:=fV (br.out.trans l);have fk:=fV l;clear A l;go_wp2_with fail;refine(aaF bm bB bD _ (q.out _ bt.out).1 (q.out _ bt.out).2.2.1 (q.out _ bt.out).2.2.2).mono ?_;rintro e ft ⟨cS,cT,cU,cV,cW,cX,cY,cZ,d0,d1,rfl,A,l⟩;have eP:=fV A;have bu:=fV (bt.out.trans l);have fl:=fV l;clear A l;go_wp2_with fail;refine(aaC bm bB bD _ (q.out _ bu.out).2.1 (q.out _ bu.out).2.2.1 (q.out _ bu.out).2.2.2).mono ?_;rintro e fu ⟨d2,d3,d4,d5,d6,d7,d8,d9,da,db,rfl,A,l⟩;have eQ:=fV A;have bv:=fV (bu.out.trans l);have fm:=fV l;clear A l;go_wp2_with fail;refine(XM bm bB bD _ (q.out _ bv.out).1 (q.out _ bv.out).2.2.1 (q.out _ bv.out).2.2.2).mono ?_;rintro e fv ⟨dc,dd,de,df,dg,dh,di,dj,dk,dl,rfl,A,l⟩;have eR:=fV A;have bw:=fV (bv.out.trans l);have fn:=fV l;clear A l;go_wp2_with fail;refine(LY bm bB bD _ (q.out _ bw.out).1 (q.out _ bw.out).2.2.1 (q.out _ bw.out).2.2.2).mono ?_;rintro e fw ⟨dm,dp,dq,dr,ds,dt,du,dv,dw,dx,rfl,A,l⟩;have eS:=fV A;have bx:=fV (bw.out.trans l);have fo:=fV l;clear A l;go_wp2_with fail;refine(RD bm bB bD _ (q.out _ bx.out).1 (q.out _ bx.out).2.2.1 (q.out _ bx.out).2.2.2).mono ?_;rintro e fx ⟨dy,dz,dA,dB,dD,dE,dF,dG,dH,dJ,rfl,A,l⟩;have eT:=fV A;have bz:=fV (bx.out.trans l);have fp:=fV l;clear A l;go_wp2_with fail;refine(H6 bm bB bD _ (q.out _ bz.out).1 (q.out _ bz.out).2.2.1 (q.out _ bz.out).2.2.2).mono ?_;rintro e fy ⟨J,K,N,O,S,U,V,Y,Z,a0,rfl,A,l⟩;have dR:=fV A;have bA:=fV (bz.out.trans l);have eC:=fV l;clear A l;go_wp2_with fail;refine(LX bm bB bD _ (q.out _ bA.out).1 (q.out _ bA.out).2.2.1 (q.out _ bA.out).2.2.2).mono ?_;rintro e fz ⟨a1,a2,a3,a4,a5,a6,a7,a8,a9,ab,rfl,A,l⟩;have dS:=fV A;have bE:=fV (bA.out.trans l);have eD:=fV l;clear A l;go_wp2_with fail;refine(ac3 bm bB bD _ (q.out _ bE.out).1 (q.out _ bE.out).2.2.1 (q.out _ bE.out).2.2.2).mono ?_;rintro e fA ⟨ac,ad,ae,ag,ah,ai,aj,ak,am,an,rfl,A,l⟩;have dT:=fV A;have bF:=fV (bE.out.trans l);have eE:=fV l;clear A l;go_wp2_with fail;refine(aaD bm bB bD _ (q.out _ bF.out).1 (q.out _ bF.out).2.2.1 (q.out _ bF.out).2.2.2).mono ?_;rintro e fB ⟨ao,ap,aq,ar,au,aw,ax,ay,az,aA,rfl,A,l⟩;have dU:=fV A;have bG:=fV (bF.out.trans l);have eF:=fV l;clear A l;go_wp2_with fail;refine(Un bm bB bD _ (q.out _ bG.out).1 (q.out _ bG.out).2.2.1 (q.out _ bG.out).2.2.2).mono ?_;rintro e fC ⟨aB,aC,aD,aE,aF,aG,aH,aI,aJ,aK,rfl,A,l⟩;have dV:=fV A;have bH:=fV (bG.out.trans l);have eG:=fV l;clear A l;go_wp2_with fail;refine(EF bm bB bD _ (q.out _ bH.out).1 (q.out _ bH.out).2.2.1 (q.out _ bH.out).2.2.2).mono ?_;rintro e fD ⟨aL,aM,aN,aO,aP,aQ,aR,aS,aT,aU,rfl,A,l⟩;have dW:=fV A;have bI:=fV (bH.out.trans l);have eH:=fV l;clear A l;go_wp2_with fail;refine(Rz bm bB bD _ (q.out _ bI.out).1 (q.out _ bI.out).2.2.1 (q.out _ bI.out).2.2.2).mono ?_;rintro e fE ⟨aV,aW,aX,aY,aZ,ba,bb,bc,bd,be,rfl,A,l⟩;have dX:=fV A;have bJ:=fV (bI.out.trans l);have eI:=fV l;clear A l;go_wp2_with fail;refine(FT bm bB bD _ (q.out _ bJ.out).1 (q.out _ bJ.out).2.2.1 (q.out _ bJ.out).2.2.2).mono ?_;rintro e z ⟨bf,bg,bh,bi,bj,bk,bl,bn,bo,bp,rfl,A,l⟩;have dY:=fV A;have bK:=fV (bJ.out.trans l);have eJ:=fV l;clear A l;have e9:Kept [] z z:=Kept.refl _ _;have e8:Kept [] fE z:=eJ.out.trans e9;have e7:Kept [] fD z:=eI.out.trans e8;have e6:Kept [] fC z:=eH.out.trans e7;have e5:Kept [] fB z:=eG.out.trans e6;have e4:Kept [] fA z:=eF.out.trans e5;have e3:Kept [] fz z:=eE.out.trans e4;have e0:Kept [] fy z:=eD.out.trans e3;have E9:Kept [] fx z:=eC.out.trans e0;have E8:Kept [] fw z:=fp.out.trans E9;have E7:Kept [] fv z:=fo.out.trans E8;have E6:Kept [] fu z:=fn.out.trans E7;have E5:Kept [] ft z:=fm.out.trans E6;have E4:Kept [] fs z:=fl.out.trans E5;have E3:Kept [] fr z:=fk.out.trans E4;have E2:Kept [] W9 z:=fj.out.trans E3;have E1:Kept [] W8 z:=fi.out.trans E2;have E0:Kept [] W7 z:=fh.out.trans E1;obtain⟨cs,bP⟩:∃c:List gQ,c=[bW,bX,bY,bZ,c3,c4,c5,c6,c7,c8,c9,ca,cb,cc,cf,cg,ch,ci,cj,cl,cm,cn,co,cp,cq,cr,ct,cu,cv,cx,cy,cz,cA,cB,cC,cD,cE,cF,cG,cH,cI,cJ,cK,cL,cM,cN,cO,cP,cQ,cR,cS,cT,cU,cV,cW,cX,cY,cZ,d0,d1,d2,d3,d4,d5,d6,d7,d8,d9,da,db,dc,dd,de,df,dg,dh,di,dj,dk,dl,dm,dp,dq,dr,ds,dt,du,dv,dw,dx,dy,dz,dA,dB,dD,dE,dF,dG,dH,dJ,J,K,N,O,S,U,V,Y,Z,a0,a1,a2,a3,a4,a5,a6,a7,a8,a9,ab,ac,ad,ae,ag,ah,ai,aj,ak,am,an,ao,ap,aq,ar,au,aw,ax,ay,az,aA,aB,aC,aD,aE,aF,aG,aH,aI,aJ,aK,aL,aM,aN,aO,aP,aQ,aR,aS,aT,aU,aV,aW,aX,aY,aZ,ba,bb,bc,bd,be,bf,bg,bh,bi,bj,bk,bl,bn,bo,bp]:=⟨_,rfl⟩;have HC:=fV bP;have eg:Hid (BJ bm bB bD cs z):=by
  refine fV ⟨by rw[bP];rfl,?_⟩;rw[bP];intro m sp F;have f3:m < 18:=(List.getElem?_eq_some_iff.1 F).1;obtain rfl|rfl|rfl|rfl|rfl|rfl|rfl|rfl|rfl|rfl|rfl|rfl|rfl|rfl|rfl|rfl|rfl|rfl:m=0\/m=1\/m=2\/m=3\/m=4\/m=5\/m=6\/m=7\/m=8\/m=9\/m=10\/m=11\/m=12\/m=13\/m=14\/m=15\/m=16\/m=17:=by omega
  .have e:=jy F;subst e;exact⟨_,_,_,_,_,_,_,_,_,_,rfl,eK.out.io E0⟩
  .have e:=jy F;subst e;exact⟨_,_,_,_,_,_,_,_,_,_,rfl,eL.out.io E1⟩
  .have e:=jy F;subst e;exact⟨_,_,_,_,_,_,_,_,_,_,rfl,eM.out.io E2⟩
  .have e:=jy F;subst e;exact⟨_,_,_,_,_,_,_,_,_,_,rfl,eN.out.io E3⟩
  .have e:=jy F;subst e;exact⟨_,_,_,_,_,_,_,_,_,_,rfl,eO.out.io E4⟩
  .have e:=jy F;subst e;exact⟨_,_,_,_,_,_,_,_,_,_,rfl,eP.out.io E5⟩
  .have e:=jy F;subst e;exact⟨_,_,_,_,_,_,_,_,_,_,rfl,eQ.out.io E6⟩
  .have e:=jy F;subst e;exact⟨_,_,_,_,_,_,_,_,_,_,rfl,eR.out.io E7⟩
  .have e:=jy F;subst e;exact⟨_,_,_,_,_,_,_,_,_,_,rfl,eS.out.io E8⟩
  .have e:=jy F;subst e;exact⟨_,_,_,_,_,_,_,_,_,_,rfl,eT.out.io E9⟩
  .have e:=jy F;subst e;exact⟨_,_,_,_,_,_,_,_,_,_,rfl,dR.out.io e0⟩
  .have e:=jy F;subst e;exact⟨_,_,_,_,_,_,_,_,_,_,rfl,dS.out.io e3⟩
  .have e:=jy F;subst e;exact⟨_,_,_,_,_,_,_,_,_,_,rfl,dT.out.io e4⟩
  .have e:=jy F;subst e;exact⟨_,_,_,_,_,_,_,_,_,_,rfl,dU.out.io e5⟩
  .have e:=jy F;subst e;exact⟨_,_,_,_,_,_,_,_,_,_,rfl,dV.out.io e6⟩
  .have e:=jy F;subst e;exact⟨_,_,_,_,_,_,_,_,_,_,rfl,dW.out.io e7⟩
  .have e:=jy F;subst e;exact⟨_,_,_,_,_,_,_,_,_,_,rfl,dX.out.io e8⟩
  .have e:=jy F;subst e;exact⟨_,_,_,_,_,_,_,_,_,_,rfl,dY.out.io e9⟩
 have dQ:Hid (cs.toArray.all (·.oneCell')=true):=by
  refine fV (all_oneCell_toArray ?_);rw[bP,show[bW,bX,bY,bZ,c3,c4,c5,c6,c7,c8,c9,ca,cb,cc,cf,cg,ch,ci,cj,cl,cm,cn,co,cp,cq,cr,ct,cu,cv,cx,cy,cz,cA,cB,cC,cD,cE,cF,cG,cH,cI,cJ,cK,cL,cM,cN,cO,cP,cQ,cR,cS,cT,cU,cV,cW,cX,cY,cZ,d0,d1,d2,d3,d4,d5,d6,d7,d8,d9,da,db,dc,dd,de,df,dg,dh,di,dj,dk,dl,dm,dp,dq,dr,ds,dt,du,dv,dw,dx,dy,dz,dA,dB,dD,dE,dF,dG,dH,dJ,J,K,N,O,S,U,V,Y,Z,a0,a1,a2,a3,a4,a5,a6,a7,a8,a9,ab,ac,ad,ae,ag,ah,ai,aj,ak,am,an,ao,ap,aq,ar,au,aw,ax,ay,az,aA,aB,aC,aD,aE,aF,aG,aH,aI,aJ,aK,aL,aM,aN,aO,aP,aQ,aR,aS,aT,aU,aV,aW,aX,aY,aZ,ba,bb,bc,bd,be,bf,bg,bh,bi,bj,bk,bl,bn,bo,bp]=[bW,bX,bY,bZ,c3,c4,c5,c6,c7,c8]++([c9,ca,cb,cc,cf,cg,ch,ci,cj,cl]++([cm,cn,co,cp,cq,cr,ct,cu,cv,cx]++([cy,cz,cA,cB,cC,cD,cE,cF,cG,cH]++([cI,cJ,cK,cL,cM,cN,cO,cP,cQ,cR]++([cS,cT,cU,cV,cW,cX,cY,cZ,d0,d1]++([d2,d3,d4,d5,d6,d7,d8,d9,da,db]++([dc,dd,de,df,dg,dh,di,dj,dk,dl]++([dm,dp,dq,dr,ds,dt,du,dv,dw,dx]++([dy,dz,dA,dB,dD,dE,dF,dG,dH,dJ]++([J,K,N,O,S,U,V,Y,Z,a0]++([a1,a2,a3,a4,a5,a6,a7,a8,a9,ab]++([ac,ad,ae,ag,ah,ai,aj,ak,am,an]++([ao,ap,aq,ar,au,aw,ax,ay,az,aA]++([aB,aC,aD,aE,aF,aG,aH,aI,aJ,aK]++([aL,aM,aN,aO,aP,aQ,aR,aS,aT,aU]++([aV,aW,aX,aY,aZ,ba,bb,bc,bd,be]++([bf,bg,bh,bi,bj,bk,bl,bn,bo,bp])))))))))))))))))from rfl];simp only[List.mem_append];rintro v (h|h|h|h|h|h|h|h|h|h|h|h|h|h|h|h|h|h)
  .exact eK.out.one v h
  .exact eL.out.one v h
  .exact eM.out.one v h
  .exact eN.out.one v h
  .exact eO.out.one v h
  .exact eP.out.one v h
  .exact eQ.out.one v h
  .exact eR.out.one v h
  .exact eS.out.one v h
  .exact eT.out.one v h
  .exact dR.out.one v h
  .exact dS.out.one v h
  .exact dT.out.one v h
  .exact dU.out.one v h
  .exact dV.out.one v h
  .exact dW.out.one v h
  .exact dX.out.one v h
  .exact dY.out.one v h
 have B:=fV (bK.out.at ew.out (by simp));have eU:Hid (z.there bB 4 cs.toArray.size):=by
  refine fV (λj hj=>⟨?_,gu B.out _⟩);have:cs.toArray.size=180:=by rw[bP];rfl
  rw[fW B.out,xH (by simp only[SL,Cn,sV];omega)];rfl
 clear E0 E1 E2 E3 E4 E5 E6 E7 E8 E9 e0 e3 e4 e5 e6 e7 e8 e9;rename_i KK bS;refine bS _ _ ?_;clear bS;refine wpList_buildTo rfl 173 _ rfl _ rfl cs.toArray (by rw[HC.out];kernel_rfl) ?_;clear HC bP;refine Bv rfl _ rfl (iF bB) (by kernel_rfl) ?_;refine Bv rfl _ rfl (jO bB 4) (by kernel_rfl) ?_;refine wpList_store_mid rfl 173 _ _ rfl bB 4 cs.toArray rfl rfl eU.out (by rw[show cs.toArray.size=180 from eg.out.1];kernel_rfl) dQ.out ?_;obtain⟨bO,bN⟩:∃W,W=z.setCells bB 4 cs.toArray.toList:=⟨_,rfl⟩;rw[<-bN];have bU:Kept [bB] z bO:=by rw[bN];exact Kept.setCells (.inl (by simp)) _ _ (Kept.refl _ _)
 have eX:wU bm z bO:=⟨_,bU,λx hx _=>by
  have e:=List.mem_singleton.1 hx;subst e;exact .inl ⟨_,_,_,B.out,by decide⟩⟩
 have eW:Kept [] w bO:=(eA.out.trans bK.out).next bU (λx hx=> .inr (by rw[List.mem_singleton.1 hx];exact dO.out.1))
 have bT:=kK cs z bB _ _ _ 4 B.out;rw[show z.setCells bB 4 cs=bO from bN.symm]at bT;have FN:Hid (aeB bm bB bD d f a (.func af aa al) w bO):=by
  have f6:wU bm W6 bO:=(wU.gU bK.out).trans eX;exact fV ⟨eW,dO.out.1,⟨_,cs,_,_,_,bT,rfl,eg.out.Z2 bU B.out,dK.out.1.fr f6,dK.out.2.1.fr f6,dK.out.2.2.fr f6⟩,bU.at (bK.out.at et.out (by simp)) (by have:=eb.out;simpa using this),eb.out,dO.out.2⟩
 clear bU eX eW bT bN eg dQ B eU dK ew eA et dO eb q;generalize Value.agg cs.toArray=fT;rename_i KK bS;refine bS _ _ ?_;clear bS;simp only[Act.put,qD,qE,qF];go_wp2;go_ret;exact⟨bm,bB,bD,rfl,FN.out⟩
structure Loc where
 gS:Nat->Nat
 av:Nat->gQ
 kv:Nat->gQ
 ov:gQ
 cv:gQ
 wv:gQ
structure Env where
 bm:Nat
 bB:Nat
 bR:Nat
 C0:jN
 R0:jN
 FB:Nat
 w0:gx
 tv:gQ
 ta:lZ
 bs:Nat
 wv:Option (gQ×List (Nat×Nat×gz)):=none
variable {E : Env}
def Nd.map (f:Nat->Nat):Nd->Nd
 | .el k=> .el (f k)
 | .tx k=> .tx (f k)
 | .cm k=> .cm (f k)
 | .dt k=> .dt (f k)
abbrev iG (f:Nat->Nat) (x:jk):jk:=x.map f
def flat (gM:lZ):List gQ:=gM.flatMap λa=>[gH a.1,gH a.2]
abbrev zn (w:gx) (v:gQ) (gM:lZ):Prop:=w.ownsRow 0 299 2 v gM.length (flat gM)
abbrev NZ (x:Nat×Nat×gz):gQ:= .iface 188 (.agg #[gh x.1,gh x.2.1,gH x.2.2])
def lx (bs:Nat) (L:Loc) (w:gx) (i:Nat):Cf->Prop
 | .el e=>El bs w (L.gS i) e.name (L.av i) (iG L.gS e.jl) (L.kv i) (e.kids.map (Nd.map L.gS))/\zn w (L.av i) e.ib/\e.ib.length<=4096
 | .tx s=>w.heap[L.gS i]?=some (gL #[gH s] 284)
 | .cm s=>w.heap[L.gS i]?=some (gL #[gH s] 239)
 | .dt s=>w.heap[L.gS i]?=some (gL #[gH s] 243)
structure jD (E:Env) (L:Loc) (σ:Ab) (C:jN):Prop where
 size:C.size=199
 low:∀i,i < 188->C[i]?=E.C0[i]?
 gG:C[188]?=some L.ov
 act:C[189]?=some L.cv
 head:C[190]?=some (kI (iG L.gS σ.head))
 form:C[191]?=some (kI (iG L.gS σ.form))
 mode:C[192]?=some (gh σ.mode)
 kept:C[193]?=some (gh σ.kept)
 wait:C[194]?=some L.wv
 Js:C[195]?=some (.bool σ.iT)
 jV:C[196]?=some (.bool σ.jV)
 gS:C[197]?=some (gh σ.gS)
 behind:C[198]?=some (.bool σ.behind)
structure PA (E:Env) (bD:Nat):Prop where
 G1:∃cs,(∀k,k < 180->E.C0[4+k]?=cs[k]?)/\BJ E.bm E.bB bD cs E.w0
 txt:E.C0[3]?=some (.func (.func 55) #[gN E.bR] #[])
 spec:∃v,E.C0[184]?=some v/\Ask E.bm v lB E.w0
 Xj:∃v,E.C0[185]?=some v/\Ask E.bm v vG E.w0
 WG:∃v,E.C0[186]?=some v/\Ask E.bm v iS E.w0
 xX:E.C0[187]?=some (gN bD)
structure Rel (E:Env) (L:Loc) (σ:Ab) (w:gx):Prop where
 fr:Fr E.bs E.w0 w
 env:PA E (L.gS 0)
 vM:E.C0[0]?=some (gh σ.qv)/\E.C0[1]?=some (gh σ.rZ)/\E.C0[2]?=some (gh σ.pG)/\σ.qv<=64/\σ.rZ<=32/\σ.pG<=16
 tL:∀i nd,σ.nodes[i]?=some nd->lx E.bs L w i nd
 inj:∀i j,L.gS i=L.gS j->i=j
 BT:∀i j g,i < σ.nodes.length->j < σ.nodes.length->i≠j->(L.kv i).ownBlock=some g->(L.kv j).ownBlock≠some g
 GM:∀i,i < σ.nodes.length->σ.ij i=none->(L.kv i).ownBlock=none
 uq:∀i j e g,σ.ij i=some e->nM e.name=true->j < σ.nodes.length->i≠j->(L.av i).ownBlock=some g->(L.av j).ownBlock≠some g
 Fk:∀i,i < σ.nodes.length->σ.ij i=none->(L.av i).ownBlock=none
 wf:Wf σ
 iC:∃C,w.heap[E.bB]?=some (gL C 180)/\jD E L σ C
 pF:w.ownsRow E.bs 72 1 L.ov σ.gG.length (σ.gG.map λx=>kI (iG L.gS x))
 qu:w.ownsRow E.bs 72 1 L.cv σ.act.length (σ.act.map λx=>kI (iG L.gS x))
 GP:∀g,L.ov.ownBlock=some g->L.cv.ownBlock≠some g
 x9:σ.gG.length<=4096
 Fp:σ.act.length<=4096
 pC:w.ownsRow E.bs 125 1 L.wv σ.waiting.length (σ.waiting.map NZ)
 Mg:σ.waiting.length<=4096
 rd:w.heap[E.bR]?=some (gL ((E.R0.setIfInBounds E.FB (gH σ.nJ)).setIfInBounds (E.FB+1) (.bool σ.iY)) 165)
 RU:E.FB+1 < E.R0.size
 tok:zn w E.tv E.ta
 Md:E.ta.length<=4096
 bz:E.bs<=E.w0.heap.size
 bB:E.bs<=E.bB
 bR:E.bs<=E.bR
 bN:∀i,i < σ.nodes.length->E.bs<=L.gS i
 DH:σ.fresh=true->∀i g,i < σ.nodes.length->E.tv.ownBlock=some g->(L.av i).ownBlock≠some g
 ab:∀i g,i < σ.nodes.length->(L.av i).ownBlock=some g->E.bs<=g
 tb:∀g,E.tv.ownBlock=some g->E.bs<=g
 Mf:∀p,E.wv=some p->L.wv=p.1/\σ.waiting=p.2
def KT (bs:Nat) (T:List TypeId) (w w':gx):Prop:=∃S,Kept S w w'/\∀k∈S,k < w.heap.size->(∃c t m,w.heap[k]?=some (.cells c t m)/\t∈T)/\bs<=k
def KT.size (h:KT bs T w w'):w.heap.size<=w'.heap.size:=by have⟨S,hk,_⟩:=h;exact hk.size
def KT.jQ {S : List Nat} (h:Kept S w w') (d:∀k∈S,k < w.heap.size->(∃c t m,w.heap[k]?=some (.cells c t m)/\t∈T)/\bs<=k):KT bs T w w':=⟨S,h,d⟩
def KT.gU (h:Kept [] w w'):KT bs T w w':=⟨[],h,λ_ d=>by cases d⟩
theorem KT.mono {d : List TypeId} (h:KT bs T w w') (j:∀t∈T,t∈d):KT bs d w w':=by
 grind[KT]
def KT.fr (h:KT bs T w w') (d:∀t∈T,t∈Wl):Fr bs w w':=h.mono d
theorem KT.at (h:KT bs T w w') {m : Nat×Nat} (d:w.heap[g]?=some (.cells c t m)) (l:t∉T):w'.heap[g]?=some (.cells c t m):=by
 have⟨S,hk,hS⟩:=h;refine hk.at d λj=>?_
 grind
theorem KT.row (h:KT bs T w w') {d : Nat} (m:w.ownsRow base e d v n xs) (B:e∉T):w'.ownsRow base e d v n xs:=by
 refine⟨m.1,?_⟩;rcases m.2 with D|⟨g,j,l,rfl,q,z,A⟩
 .grind
 .exact .inr ⟨g,j,l,rfl,q,h.at z B,A⟩
theorem sR {d : Nat} (q:w.ownsRow base e d v n xs) (h:v.ownBlock=some g):∃c m,w.heap[g]?=some (.cells c e m):=by
 rcases q.2 with⟨e1,_⟩|⟨z,j,l,rfl,_,A,_⟩
 .rw[e1]at h;cases h
 .obtain rfl:=jy h
  grind
theorem Dt {d : Nat} (l:w.ownsRow base e d v n xs) {m : Nat×Nat} (q:w.heap[b]?=some (.cells c t m)) (z:t≠e):v.ownBlock≠some b:=by
 intro j;have⟨c',m',h⟩:=sR l j
 grind
def Ds {d : Nat} (j:w.ownsRow base e d v n xs) (h:v.ownBlock=some g):g < w.heap.size:=(j.lt g h).2
def UP:List TypeId:=[140,142,284,239,243,299]
def lx.kt {l : Nat} {L:Loc} {nd:Cf} (h:lx l L w i nd) (j:KT bs T w w') (d:∀t∈UP,t∉T):lx l L w' i nd:=by
 cases nd with
 |el e=>exact⟨⟨j.at h.1.iC (d _ (by decide)),j.row h.1.row (d _ (by decide)),h.1.le,h.1.U0⟩,j.row h.2.1 (d _ (by decide)),h.2.2⟩
 |tx s=>exact j.at h (d _ (by decide))
 |cm s=>exact j.at h (d _ (by decide))
 |dt s=>exact j.at h (d _ (by decide))
def lx.kept {S : List Nat} {L:Loc} {nd:Cf} (h:lx bs L w i nd) (d:Kept S w w') (j:L.gS i∉S) (l:∀g,(L.kv i).ownBlock=some g->g∉S) (m:∀g,(L.av i).ownBlock=some g->g∉S):lx bs L w' i nd:=by
 cases nd with
 |el e=>exact⟨h.1.kept d j l,d.ownsRow h.2.1 m,h.2.2⟩
 |tx s=>exact d.at h j
 |cm s=>exact d.at h j
 |dt s=>exact d.at h j
def Cf.typ:Cf->TypeId
 | .el _=>140
 | .tx _=>284
 | .cm _=>239
 | .dt _=>243
variable {nd : Cf}
def lx.typ {L:Loc} (h:lx bs L w i nd):∃c,w.heap[L.gS i]?=some (gL c nd.typ):=by
 cases nd with
 |el e=>exact⟨_,h.1.iC⟩
 |tx s=>exact⟨_,h⟩
 |cm s=>exact⟨_,h⟩
 |dt s=>exact⟨_,h⟩
theorem sD (d:∀i j,f i=f j->i=j) (h:iG f x=iG f y):x=y:=by
 cases x<;>cases y<;>simp_all[iG]
 grind
theorem yP (f:Nat->Nat) (xs:kV) (n:Int):iE (xs.map (iG f)) n=iG f (iE xs n):=by
 grind[iE]
theorem BR (d:∀i j,f i=f j->i=j) (x:jk):∀xs:kV,(xs.map (iG f)).idxOf (iG f x)=xs.idxOf x
 |[]=>rfl
 |y::xs=>by
  rw[Aj,List.idxOf_cons,List.idxOf_cons,BR d x xs]
  by_cases h:y=x
  .grind
  .have l:iG f y≠iG f x:=λe=>h (sD d e)
   grind
def M1 (d:∀i j,f i=f j->i=j) (xs:kV) (x:jk):posOf (xs.map (iG f)) (iG f x)=posOf xs x:=by
 unfold posOf;rw[BR d,Cy]
theorem mem_map (d:∀i j,f i=f j->i=j) (xs:kV) (x:jk):iG f x∈xs.map (iG f)↔x∈xs:=by
 constructor
 .intro h;have⟨y,hy,e⟩:=List.mem_map.1 h;rw[<-sD d e];exact hy
 grind
theorem wJ (d:∀i j,f i=f j->i=j) (x:jk):∀xs:kV,(xs.map (iG f)).erase (iG f x)=(xs.erase x).map (iG f)
 |[]=>rfl
 |y::xs=>by
  rw[Aj,List.erase_cons,List.erase_cons,wJ d x xs]
  by_cases h:y=x
  .grind
  .have l:iG f y≠iG f x:=λe=>h (sD d e)
   grind
def Kh (d:∀i j,f i=f j->i=j) (xs:kV) (x y:jk):qi (xs.map (iG f)) (iG f x) (iG f y)=(qi xs x y).map (iG f):=by
 unfold qi;rw[BR d]
 by_cases h:x∈xs
 .rw[gJ h,gJ ((mem_map d xs x).2 h),List.map_set]
 .rw[gV h,gV (λe=>h ((mem_map d xs x).1 e))]
def Cq (d:∀i j,f i=f j->i=j) (xs:kV) (x y:jk):jf (xs.map (iG f)) (iG f x) (iG f y)=(jf xs x y).map (iG f):=by
 unfold jf;rw[BR d]
 by_cases h:x∈xs
 .rw[gJ h,gJ ((mem_map d xs x).2 h)];simp
 .rw[gV h,gV (λe=>h ((mem_map d xs x).1 e))]
theorem MZ (l:∀i j,f i=f j->i=j) (xs:kV) (x:jk):oI (xs.map (iG f)) (iG f x)=(oI xs x).map (iG f):=by
 have h:∀d:kV,(d.map (iG f)).dropWhile (·≠iG f x)=(d.dropWhile (·≠x)).map (iG f):=by
  intro d
  induction d with
  |nil=>rfl
  |cons y d ih=>
   rw[Aj,List.dropWhile_cons,List.dropWhile_cons]
   by_cases h:y=x
   .grind
   .have m:iG f y≠iG f x:=λe=>h (sD l e)
    grind
 unfold oI;rw[<-Wd,h];simp
def sN {j : Nat} {x : gQ} (h:C[i]?=some x) (d:j≠i):(C.setIfInBounds j v)[i]?=some x:=(Cx d).trans h
theorem jD.adl {L:Loc} (h:jD E L σ C) (v:gQ) (zs:kV):jD E {L with ov:=v} {σ with gG:=zs} (C.setIfInBounds 188 v):=by
 cases h;constructor<;>grind
theorem jD.adk {L:Loc} (h:jD E L σ C) (v:gQ) (zs:kV):jD E {L with cv:=v} {σ with act:=zs} (C.setIfInBounds 189 v):=by
 cases h;constructor<;>grind
theorem jD.yZ {L:Loc} (h:jD E L σ C) (x:jk):jD E L {σ with head:=x} (C.setIfInBounds 190 (kI (iG L.gS x))):=by
 cases h;constructor<;>grind
theorem jD.vI {L:Loc} (h:jD E L σ C) (x:jk):jD E L {σ with form:=x} (C.setIfInBounds 191 (kI (iG L.gS x))):=by
 cases h;constructor<;>grind
theorem jD.jh {L:Loc} (h:jD E L σ C) (x:Nat):jD E L {σ with mode:=x} (C.setIfInBounds 192 (gh x)):=by
 cases h;constructor<;>grind
theorem jD.y7 {L:Loc} (h:jD E L σ C) (x:Nat):jD E L {σ with kept:=x} (C.setIfInBounds 193 (gh x)):=by
 cases h;constructor<;>grind
theorem jD.aaW {L:Loc} (h:jD E L σ C) (v:gQ) (d:List (Nat×Nat×gz)):jD E {L with wv:=v} {σ with waiting:=d} (C.setIfInBounds 194 v):=by
 cases h;constructor<;>grind
theorem jD.yY {L:Loc} (h:jD E L σ C) (x:Bool):jD E L {σ with iT:=x} (C.setIfInBounds 195 (.bool x)):=by
 cases h;constructor<;>grind
theorem jD.rl {L:Loc} (h:jD E L σ C) (x:Bool):jD E L {σ with jV:=x} (C.setIfInBounds 196 (.bool x)):=by
 cases h;constructor<;>grind
theorem jD.Dw {L:Loc} (h:jD E L σ C) (x:Nat):jD E L {σ with gS:=x} (C.setIfInBounds 197 (gh x)):=by
 cases h;constructor<;>grind
theorem jD.th {L:Loc} (h:jD E L σ C) (x:Bool):jD E L {σ with behind:=x} (C.setIfInBounds 198 (.bool x)):=by
 cases h;constructor<;>grind
theorem lx.loc {L L':Loc} (h:lx bs L w i nd) (e1:L'.gS=L.gS) (e2:L'.av=L.av) (d:L'.kv=L.kv):lx bs L' w i nd:=by
 cases nd<;>(grind[lx])
theorem Rel.U1 {L:Loc} (h:Rel E L σ w):∃C,w.heap[E.bB]?=some (gL C 180):=by
 have⟨C,hb,_⟩:=h.iC;grind
def Rel.free {L:Loc} (h:Rel E L σ w) (j:Nat):w.frozen? ⟨E.bB,j,none⟩=false:=by
 have⟨C,hb⟩:=h.U1;exact gu hb j
theorem Rel.lt {L:Loc} (h:Rel E L σ w):E.bB < w.heap.size:=by
 have⟨C,hb⟩:=h.U1;grind
def Rel.low {L:Loc} (h:Rel E L σ w) {j : Nat} (d:j < 188) (l:E.C0[j]?=some v):w.cell? ⟨E.bB,j,none⟩=some v:=by
 have⟨C,hb,hC⟩:=h.iC;rw[fW hb];exact(hC.low j d).trans l
def Rel.WH {L:Loc} (h:Rel E L σ w):w.cell? ⟨E.bB,190,none⟩=some (kI (iG L.gS σ.head)):=by
 have⟨C,hb,hC⟩:=h.iC;rw[fW hb];exact hC.head
def Rel.Tc {L:Loc} (h:Rel E L σ w):w.cell? ⟨E.bB,191,none⟩=some (kI (iG L.gS σ.form)):=by
 have⟨C,hb,hC⟩:=h.iC;rw[fW hb];exact hC.form
def Rel.sB {L:Loc} (h:Rel E L σ w):w.cell? ⟨E.bB,192,none⟩=some (gh σ.mode):=by
 have⟨C,hb,hC⟩:=h.iC;rw[fW hb];exact hC.mode
def Rel.Td {L:Loc} (h:Rel E L σ w):w.cell? ⟨E.bB,193,none⟩=some (gh σ.kept):=by
 have⟨C,hb,hC⟩:=h.iC;rw[fW hb];exact hC.kept
def Rel.abU {L:Loc} (h:Rel E L σ w):w.cell? ⟨E.bB,194,none⟩=some L.wv:=by
 have⟨C,hb,hC⟩:=h.iC;rw[fW hb];exact hC.wait
def Rel.Y2 {L:Loc} (h:Rel E L σ w):w.cell? ⟨E.bB,195,none⟩=some (.bool σ.iT):=by
 have⟨C,hb,hC⟩:=h.iC;rw[fW hb];exact hC.Js
def Rel.Y3 {L:Loc} (h:Rel E L σ w):w.cell? ⟨E.bB,196,none⟩=some (.bool σ.jV):=by
 have⟨C,hb,hC⟩:=h.iC;rw[fW hb];exact hC.jV
def Rel.Te {L:Loc} (h:Rel E L σ w):w.cell? ⟨E.bB,197,none⟩=some (gh σ.gS):=by
 have⟨C,hb,hC⟩:=h.iC;rw[fW hb];exact hC.gS
def Rel.Y4 {L:Loc} (h:Rel E L σ w):w.cell? ⟨E.bB,198,none⟩=some (.bool σ.behind):=by
 have⟨C,hb,hC⟩:=h.iC;rw[fW hb];exact hC.behind
def Rel.io {L:Loc} (h:Rel E L σ w) (j:Kept [] w w'):Rel E L σ w':=by
 have d:KT E.bs [] w w':= .gU j;have⟨C,hb,hC⟩:=h.iC;exact {h with
  fr:=h.fr.trans (.gU j)
  tL:=λi nd l=>(h.tL i nd l).kt d (by simp)
  iC:=⟨C,d.at hb (by simp),hC⟩
  pF:=d.row h.pF (by simp)
  qu:=d.row h.qu (by simp)
  pC:=d.row h.pC (by simp)
  rd:=d.at h.rd (by simp)
  tok:=d.row h.tok (by simp)}
def Rel.bw {L:Loc} (h:Rel E L σ w):E.bs<=w.heap.size:=j7 h.bz h.fr.size
def To (E:Env) (L:Loc) (σ':Ab) (w w':gx):Prop:=∃L',L'.gS=L.gS/\Rel E L' σ' w'/\Fr E.bs w w'
def Rel.to {L:Loc} (h:Rel E L σ w') (d:Fr E.bs w w'):To E L σ w w':=⟨L,rfl,h,d⟩
def Rel.store {L:Loc} {σ' : Ab} (h:Rel E L σ w) (j:Nat) (u:gQ) (U:∀C,jD E L σ C->jD E L σ' (C.setIfInBounds j u)) (H:Wf σ') (d:σ'.nodes=σ.nodes:=by rfl) (K:σ'.gG=σ.gG:=by rfl) (I:σ'.act=σ.act:=by rfl) (G:σ'.waiting=σ.waiting:=by rfl) (N:σ'.nJ=σ.nJ:=by rfl) (O:σ'.iY=σ.iY:=by rfl) (S:σ'.fresh=σ.fresh:=by rfl) (B:σ'.qv=σ.qv:=by rfl) (D:σ'.rZ=σ.rZ:=by rfl) (F:σ'.pG=σ.pG:=by rfl):Rel E L σ' (w.setCell ⟨E.bB,j,none⟩ u):=by
 obtain⟨C,J,V⟩:=h.iC;have z:Kept [E.bB] w (w.setCell ⟨E.bB,j,none⟩ u):=(Kept.refl _ w).setCell (.inl (by simp)) u;have q:KT E.bs [180] w (w.setCell ⟨E.bB,j,none⟩ u):= .jQ z (λk z _=>by simp at z;subst z;exact⟨⟨_,_,_,J,by simp⟩,h.bB⟩);have A:∀i,σ'.ij i=σ.ij i:=λi=>by unfold Ab.ij;rw[d]
 exact {h with
  fr:=h.fr.trans (q.fr (by decide))
  vM:=by rw[B,D,F];exact h.vM
  tL:=λi nd m=>(h.tL i nd (by rw[<-d];exact m)).kt q (by decide)
  bN:=by rw[d];exact h.bN
  BT:=by rw[d];exact h.BT
  GM:=λi m l=>h.GM i (by rw[<-d];exact m) (by rw[<-A];exact l)
  uq:=λi j e g m W Y=>h.uq i j e g (by rw[<-A];exact m) W (by rw[<-d];exact Y)
  Fk:=λi m l=>h.Fk i (by rw[<-d];exact m) (by rw[<-A];exact l)
  wf:=H
  iC:=⟨_,gm J j u,U C V⟩
  pF:=by rw[K];exact q.row h.pF (by decide)
  qu:=by rw[I];exact q.row h.qu (by decide)
  x9:=by rw[K];exact h.x9
  Fp:=by rw[I];exact h.Fp
  pC:=by rw[G];exact q.row h.pC (by decide)
  Mg:=by rw[G];exact h.Mg
  rd:=by rw[N,O];exact q.at h.rd (by decide)
  tok:=q.row h.tok (by decide)
  DH:=by rw[S,d];exact h.DH
  ab:=by rw[d];exact h.ab
  Mf:=by rw[G];exact h.Mf}
def Rel.yZ {L:Loc} (h:Rel E L σ w) (x:jk) (j:σ.hH x=true):Rel E L {σ with head:=x} (w.setCell ⟨E.bB,190,none⟩ (kI (iG L.gS x))):=
 h.store 190 _ (λC d=>d.yZ x) {h.wf with head:=j}
def Rel.vI {L:Loc} (h:Rel E L σ w) (x:jk) (j:σ.hH x=true):Rel E L {σ with form:=x} (w.setCell ⟨E.bB,191,none⟩ (kI (iG L.gS x))):=
 h.store 191 _ (λC d=>d.vI x) {h.wf with form:=j}
def Rel.jh {L:Loc} (h:Rel E L σ w) (x:Nat):Rel E L {σ with mode:=x} (w.setCell ⟨E.bB,192,none⟩ (gh x)):=
 h.store 192 _ (λC d=>d.jh x) {h.wf with}
def Rel.y7 {L:Loc} (h:Rel E L σ w) (x:Nat):Rel E L {σ with kept:=x} (w.setCell ⟨E.bB,193,none⟩ (gh x)):=
 h.store 193 _ (λC d=>d.y7 x) {h.wf with}
def Rel.yY {L:Loc} (h:Rel E L σ w) (x:Bool):Rel E L {σ with iT:=x} (w.setCell ⟨E.bB,195,none⟩ (.bool x)):=
 h.store 195 _ (λC d=>d.yY x) {h.wf with}
def Rel.rl {L:Loc} (h:Rel E L σ w) (x:Bool):Rel E L {σ with jV:=x} (w.setCell ⟨E.bB,196,none⟩ (.bool x)):=
 h.store 196 _ (λC d=>d.rl x) {h.wf with}
def Rel.Dw {L:Loc} (h:Rel E L σ w) (x:Nat):Rel E L {σ with gS:=x} (w.setCell ⟨E.bB,197,none⟩ (gh x)):=
 h.store 197 _ (λC d=>d.Dw x) {h.wf with}
def Rel.th {L:Loc} (h:Rel E L σ w) (x:Bool):Rel E L {σ with behind:=x} (w.setCell ⟨E.bB,198,none⟩ (.bool x)):=
 h.store 198 _ (λC d=>d.th x) {h.wf with}
def Rel.hH {L:Loc} (h:Rel E L σ w) (j:σ.hH x=true):us w (iG L.gS x):=by
 intro k d;cases x with
 |none=>cases d
 |some i=>
  obtain rfl:=jy d;unfold Ab.hH at j;have⟨e,he⟩:=Option.isSome_iff_exists.1 j;exact⟨_,(h.tL i _ (Ab.jr he)).1.iC⟩
def M0 {xs : kV} (h:y∈oI xs x):y∈xs:=by
 unfold oI at h;rw[List.mem_reverse]at h;exact List.mem_reverse.1 ((abo _).subset (List.mem_of_mem_tail h))
theorem Kj {xs : kV} {z : jk} (h:z∈qi xs x y):z∈xs\/z=y:=by
 unfold qi at h
 grind
theorem Cs {xs : kV} {z : jk} (h:z∈jf xs x y):z∈xs\/z=y:=by
 unfold jf at h
 grind
def Rel.zI {L:Loc} (h:Rel E L σ w):∃C,xR E.bs E.bB 188 180 C L.ov (σ.gG.map (iG L.gS)) w/\jD E L σ C:=by
 have⟨C,hb,hC⟩:=h.iC;refine⟨C,⟨hb,hC.gG,?_,by decide,by simpa using h.x9⟩,hC⟩
 simpa [SP,We]using h.pF
def Rel.elO {L:Loc} (h:Rel E L σ w):∀x∈σ.gG.map (iG L.gS),us w x:=by
 intro x d;obtain⟨y,j,rfl⟩:=List.mem_map.1 d;exact h.hH (Ab.wC (h.wf.gG y j))
def Sd (L:Loc) (w:gx) (k:Nat) (v:gQ):Prop:=w.heap[k]?=some (gL #[v] 72)/\L.ov.ownBlock≠some k/\L.cv.ownBlock≠some k
def YG (E:Env) (L:Loc) (σ':Ab) (w w':gx):Prop:=∃L',L'.gS=L.gS/\Rel E L' σ' w'/\Fr E.bs w w'/\∀k v,Sd L w k v->Sd L' w' k v
theorem Sd.Z1 {L:Loc} {u : gQ} (h:Sd L w k v) (j:Kept (b::u.ownBlock.toList) w w') (l:w.heap[b]?=some (gL C 180)) (m:u.ownBlock≠some k):w'.heap[k]?=some (gL #[v] 72):=by
 refine j.at h.1 λd=>?_;rcases List.mem_cons.1 d with rfl|d
 .have:=h.1
  grind
 grind
def Sd.DB {L:Loc} {v' : gQ} (h:Sd L w k v) (l:Kept (b::L.ov.ownBlock.toList) w w') (j:w.heap[b]?=some (gL C 180)) (d:v'.ownBlock=L.ov.ownBlock\/∀g,v'.ownBlock=some g->w.heap.size<=g):Sd {L with ov:=v'} w' k v:=by
 refine⟨h.Z1 l j h.2.1,λe=>?_,h.2.2⟩;rcases d with d|d
 .exact h.2.1 (d▸e)
 .have:=d k e;have:=iX h.1;omega
def Sd.Bs {L:Loc} {v' : gQ} (h:Sd L w k v) (l:Kept (b::L.cv.ownBlock.toList) w w') (j:w.heap[b]?=some (gL C 180)) (d:v'.ownBlock=L.cv.ownBlock\/∀g,v'.ownBlock=some g->w.heap.size<=g):Sd {L with cv:=v'} w' k v:=by
 refine⟨h.Z1 l j h.2.2,h.2.1,λe=>?_⟩;rcases d with d|d
 .exact h.2.2 (d▸e)
 .have:=d k e;have:=iX h.1;omega
def Rel.Pk {L:Loc} (h:Rel E L σ w) (j:xR E.bs E.bB 188 180 C L.ov (σ.gG.map (iG L.gS)) w) (J:jD E L σ C) (U:o9 E.bs E.bB 188 180 C L.ov (zs.map (iG L.gS)) w w') (V:∀x∈zs,σ.mw x=true):YG E L {σ with gG:=zs} w w':=by
 obtain⟨I,q,B,D⟩:=U;have d:KT E.bs [180,72] w w':= .jQ B (λk l _=>by
  rcases List.mem_cons.1 l with rfl|l
  .exact⟨⟨_,_,_,j.iC,by simp⟩,h.bB⟩
  .obtain⟨c,m,K⟩:=sR j.row (by simpa using l);exact⟨⟨_,_,_,K,by simp⟩,(j.row.lt k (by simpa using l)).1⟩)
 have z:∀g,L.cv.ownBlock=some g->g∉E.bB::L.ov.ownBlock.toList:=by
  intro g H A;rcases List.mem_cons.1 A with rfl|A
  .exact Dt h.qu j.iC (by decide) H
  .exact(h.GP:∀g,L.ov.ownBlock=some g->L.cv.ownBlock≠some g) g (by simpa using A) H
 refine⟨{L with ov:=I},rfl,?_,d.fr (by decide),λk v S=>S.DB B j.iC D⟩;exact {h with
  fr:=h.fr.trans (d.fr (by decide))
  tL:=λi nd N=>((h.tL i nd N).kt d (by decide)).loc rfl rfl rfl
  wf:={h.wf with gG:=V}
  iC:=⟨_,q.iC,J.adl I zs⟩
  pF:=by simpa [SP,We]using q.row
  qu:=B.ownsRow h.qu z
  GP:=by
   intro g F G;have O:=Ds h.qu (g:=g) G;rcases D with e|e
   .exact h.GP g (by rw[<-e];exact F) G
   .have:=e g F;omega
  x9:=by simpa using q.le
  pC:=d.row h.pC (by decide)
  rd:=d.at h.rd (by decide)
  tok:=d.row h.tok (by decide)}
def Rel.DB {L:Loc} (h:Rel E L σ w) (j:xR E.bs E.bB 188 180 C L.ov (σ.gG.map (iG L.gS)) w) (d:jD E L σ C) (l:o9 E.bs E.bB 188 180 C L.ov (zs.map (iG L.gS)) w w') (m:∀x∈zs,σ.mw x=true):To E L {σ with gG:=zs} w w':=
 have⟨L1,a,b,c,_⟩:=h.Pk j d l m
 ⟨L1,a,b,c⟩
def aap {L:Loc} (h:Rel E L σ w):
  Calls prog 269 #[jO E.bB 188] w λe w'=>e=iw (gh σ.gG.length)/\w'=w:=by
 have⟨C,hL,hC⟩:=h.zI;have:=aef E.bs E.bB 188 _ C _ _ w hL
 rwa [Cy]at this
def agu {L:Loc} (h:Rel E L σ w) (n:Int):
  Calls prog 248 #[jO E.bB 188,gh n] w λe w'=>e=iw (kI (iG L.gS (iE σ.gG n)))/\w'=w:=by
 have⟨C,hL,hC⟩:=h.zI;have:=Z5 E.bs E.bB 188 _ C _ _ n w hL
 rwa [yP]at this
def T7 {L:Loc} (h:Rel E L σ w):
  Calls prog 179 #[jO E.bB 188] w λe w'=>e=iw (kI (iG L.gS (iE σ.gG ((σ.gG.length:Int) - 1))))/\w'=w:=by
 have⟨C,hL,hC⟩:=h.zI;have:=Z6 E.bs E.bB 188 _ C _ _ w hL
 rwa [yP,Cy]at this
def agv {L:Loc} (h:Rel E L σ w) (x:jk) (d:σ.hH x=true):
  Calls prog 322 #[jO E.bB 188,kI (iG L.gS x)] w λe w'=>e=iw (.bool (decide (x∈σ.gG)))/\w'=w:=by
 have⟨C,hL,hC⟩:=h.zI;have:=aee E.bs E.bB 188 _ C _ _ (iG L.gS x) w hL h.elO (h.hH d)
 rwa [decide_eq_decide.2 (mem_map h.inj σ.gG x)]at this
def zO {L:Loc} (h:Rel E L σ w) (x:jk) (d:σ.hH x=true):
  Calls prog 246 #[jO E.bB 188,kI (iG L.gS x)] w λe w'=>e=iw (kI (iG L.gS (iE σ.gG (posOf σ.gG x - 1))))/\w'=w:=by
 have⟨C,hL,hC⟩:=h.zI;have:=Ow E.bs E.bB 188 _ C _ _ (iG L.gS x) w hL h.elO (h.hH d)
 rwa [M1 h.inj,yP]at this
theorem afs {L:Loc} (h:Rel E L σ w) (x:jk) (m:σ.mw x=true) (j:σ.gG.length < 4096):
  Calls prog 271 #[jO E.bB 188,kI (iG L.gS x)] w λe w'=>e=pE/\To E L {σ with gG:=σ.gG++[x]} w w':=by
 have⟨C,hL,hC⟩:=h.zI;refine(Z7 E.bs E.bB 188 _ C _ _ (iG L.gS x) w hL (by grind) h.bw).mono ?_;rintro e w' ⟨rfl,l⟩;refine⟨rfl,h.DB hL hC (by grind) λy d=>?_⟩;rcases List.mem_append.1 d with d|d
 .exact h.wf.gG y d
 grind
theorem Rk {L:Loc} (h:Rel E L σ w):
  Calls prog 184 #[jO E.bB 188] w λe w'=>e=iw (kI (iG L.gS (iE σ.gG ((σ.gG.length:Int) - 1))))/\To E L {σ with gG:=σ.gG.dropLast} w w':=by
 have⟨C,hL,hC⟩:=h.zI;refine(aeg E.bs E.bB 188 _ C _ _ w hL).mono ?_;rintro e w' ⟨rfl,j⟩;refine⟨by rw[yP,Cy],h.DB hL hC (by grind) λy d=>h.wf.gG y (List.dropLast_subset _ d)⟩
def acL {L:Loc} (h:Rel E L σ w) (x:jk) (j:σ.hH x=true):
  Calls prog 328 #[jO E.bB 188,kI (iG L.gS x)] w λe w'=>e=pE/\To E L {σ with gG:=oI σ.gG x} w w':=by
 have⟨C,hL,hC⟩:=h.zI;refine(Vo E.bs E.bB 188 _ C _ _ (iG L.gS x) w hL (by decide) h.elO (h.hH j)).mono ?_;rintro e w' ⟨rfl,d⟩;exact⟨rfl,h.DB hL hC (by rw[<-MZ h.inj];exact d) λy l=>h.wf.gG y (M0 l)⟩
def aaq {L:Loc} (h:Rel E L σ w) (x:jk) (j:σ.hH x=true):
  Calls prog 187 #[jO E.bB 188,kI (iG L.gS x)] w λe w'=>e=pE/\To E L {σ with gG:=σ.gG.erase x} w w':=by
 have⟨C,hL,hC⟩:=h.zI;refine(Ba E.bs E.bB 188 _ C _ _ (iG L.gS x) w hL h.elO (h.hH j)).mono ?_;rintro e w' ⟨rfl,d⟩;exact⟨rfl,h.DB hL hC (by rw[<-wJ h.inj];exact d) λy l=>h.wf.gG y (BH l)⟩
theorem Rl {L:Loc} (h:Rel E L σ w) (x y:jk) (l:σ.hH x=true) (m:σ.mw y=true) (q:σ.gG.length < 4096):
  Calls prog 376 #[jO E.bB 188,kI (iG L.gS x),kI (iG L.gS y)] w λe w'=>e=pE/\To E L {σ with gG:=jf σ.gG x y} w w':=by
 have⟨C,hL,hC⟩:=h.zI;refine(GN E.bs E.bB 188 _ C _ _ (iG L.gS x) (iG L.gS y) w hL h.elO (h.hH l) (by grind) h.bw).mono ?_;rintro e w' ⟨rfl,j⟩;exact⟨rfl,h.DB hL hC (by rw[<-Cq h.inj];exact j) λz d=>by rcases Cs d with d|rfl;exact h.wf.gG z d;exact m⟩
def Rel.Hs {L:Loc} (h:Rel E L σ w):∃C,xR E.bs E.bB 189 180 C L.cv (σ.act.map (iG L.gS)) w/\jD E L σ C:=by
 have⟨C,hb,hC⟩:=h.iC;refine⟨C,⟨hb,hC.act,?_,by decide,by simpa using h.Fp⟩,hC⟩
 simpa [SP,We]using h.qu
def Rel.elA {L:Loc} (h:Rel E L σ w):∀x∈σ.act.map (iG L.gS),us w x:=by
 intro x d;obtain⟨y,j,rfl⟩:=List.mem_map.1 d;exact h.hH (h.wf.act y j)
def Rel.Pj {L:Loc} (h:Rel E L σ w) (j:xR E.bs E.bB 189 180 C L.cv (σ.act.map (iG L.gS)) w) (J:jD E L σ C) (U:o9 E.bs E.bB 189 180 C L.cv (zs.map (iG L.gS)) w w') (V:∀x∈zs,σ.hH x=true):YG E L {σ with act:=zs} w w':=by
 obtain⟨I,A,F,G⟩:=U;have d:KT E.bs [180,72] w w':= .jQ F (λk z _=>by
  rcases List.mem_cons.1 z with rfl|z
  .exact⟨⟨_,_,_,j.iC,by simp⟩,h.bB⟩
  .obtain⟨c,m,K⟩:=sR j.row (by simpa using z);exact⟨⟨_,_,_,K,by simp⟩,(j.row.lt k (by simpa using z)).1⟩)
 have B:∀g,L.ov.ownBlock=some g->g∉E.bB::L.cv.ownBlock.toList:=by
  intro g H D;rcases List.mem_cons.1 D with rfl|D
  .exact Dt h.pF j.iC (by decide) H
  .exact((λg l q=>h.GP g q l):∀g,L.cv.ownBlock=some g->L.ov.ownBlock≠some g) g (by simpa using D) H
 refine⟨{L with cv:=I},rfl,?_,d.fr (by decide),λk v S=>S.Bs F j.iC G⟩;exact {h with
  fr:=h.fr.trans (d.fr (by decide))
  tL:=λi nd N=>((h.tL i nd N).kt d (by decide)).loc rfl rfl rfl
  wf:={h.wf with act:=V}
  iC:=⟨_,A.iC,J.adk I zs⟩
  qu:=by simpa [SP,We]using A.row
  pF:=F.ownsRow h.pF B
  GP:=by
   intro g l q;have O:=Ds h.pF (g:=g) l;rcases G with e|e
   .exact h.GP g l (by rw[<-e];exact q)
   .have:=e g q;omega
  Fp:=by simpa using A.le
  pC:=d.row h.pC (by decide)
  rd:=d.at h.rd (by decide)
  tok:=d.row h.tok (by decide)}
def Rel.Bs {L:Loc} (h:Rel E L σ w) (j:xR E.bs E.bB 189 180 C L.cv (σ.act.map (iG L.gS)) w) (d:jD E L σ C) (l:o9 E.bs E.bB 189 180 C L.cv (zs.map (iG L.gS)) w w') (m:∀x∈zs,σ.hH x=true):To E L {σ with act:=zs} w w':=
 have⟨L1,a,b,c,_⟩:=h.Pj j d l m
 ⟨L1,a,b,c⟩
def ad0 {L:Loc} (h:Rel E L σ w):
  Calls prog 269 #[jO E.bB 189] w λe w'=>e=iw (gh σ.act.length)/\w'=w:=by
 have⟨C,hL,hC⟩:=h.Hs;have:=aef E.bs E.bB 189 _ C _ _ w hL
 rwa [Cy]at this
def ag1 {L:Loc} (h:Rel E L σ w) (n:Int):
  Calls prog 248 #[jO E.bB 189,gh n] w λe w'=>e=iw (kI (iG L.gS (iE σ.act n)))/\w'=w:=by
 have⟨C,hL,hC⟩:=h.Hs;have:=Z5 E.bs E.bB 189 _ C _ _ n w hL
 rwa [yP]at this
def af4 {L:Loc} (h:Rel E L σ w) (x:jk) (d:σ.hH x=true):
  Calls prog 322 #[jO E.bB 189,kI (iG L.gS x)] w λe w'=>e=iw (.bool (decide (x∈σ.act)))/\w'=w:=by
 have⟨C,hL,hC⟩:=h.Hs;have:=aee E.bs E.bB 189 _ C _ _ (iG L.gS x) w hL h.elA (h.hH d)
 rwa [decide_eq_decide.2 (mem_map h.inj σ.act x)]at this
theorem aeF {L:Loc} (h:Rel E L σ w) (x:jk) (m:σ.hH x=true) (j:σ.act.length < 4096):
  Calls prog 271 #[jO E.bB 189,kI (iG L.gS x)] w λe w'=>e=pE/\To E L {σ with act:=σ.act++[x]} w w':=by
 have⟨C,hL,hC⟩:=h.Hs;refine(Z7 E.bs E.bB 189 _ C _ _ (iG L.gS x) w hL (by grind) h.bw).mono ?_;rintro e w' ⟨rfl,l⟩;refine⟨rfl,h.Bs hL hC (by grind) λy d=>?_⟩;rcases List.mem_append.1 d with d|d
 .exact h.wf.act y d
 grind
def abK {L:Loc} (h:Rel E L σ w) (x:jk) (j:σ.hH x=true):
  Calls prog 328 #[jO E.bB 189,kI (iG L.gS x)] w λe w'=>e=pE/\To E L {σ with act:=oI σ.act x} w w':=by
 have⟨C,hL,hC⟩:=h.Hs;refine(Vo E.bs E.bB 189 _ C _ _ (iG L.gS x) w hL (by decide) h.elA (h.hH j)).mono ?_;rintro e w' ⟨rfl,d⟩;exact⟨rfl,h.Bs hL hC (by rw[<-MZ h.inj];exact d) λy l=>h.wf.act y (M0 l)⟩
def YL {L:Loc} (h:Rel E L σ w) (x:jk) (j:σ.hH x=true):
  Calls prog 187 #[jO E.bB 189,kI (iG L.gS x)] w λe w'=>e=pE/\To E L {σ with act:=σ.act.erase x} w w':=by
 have⟨C,hL,hC⟩:=h.Hs;refine(Ba E.bs E.bB 189 _ C _ _ (iG L.gS x) w hL h.elA (h.hH j)).mono ?_;rintro e w' ⟨rfl,d⟩;exact⟨rfl,h.Bs hL hC (by rw[<-wJ h.inj];exact d) λy l=>h.wf.act y (BH l)⟩
def Ws {L:Loc} (h:Rel E L σ w) (x y:jk) (l:σ.hH x=true) (m:σ.hH y=true):
  Calls prog 276 #[jO E.bB 189,kI (iG L.gS x),kI (iG L.gS y)] w λe w'=>e=pE/\To E L {σ with act:=qi σ.act x y} w w':=by
 have⟨C,hL,hC⟩:=h.Hs;refine(FJ E.bs E.bB 189 _ C _ _ (iG L.gS x) (iG L.gS y) w hL h.elA (h.hH l)).mono ?_;rintro e w' ⟨rfl,j⟩;exact⟨rfl,h.Bs hL hC (by rw[<-Kh h.inj];exact j) λz d=>by rcases Kj d with d|rfl;exact h.wf.act z d;exact m⟩
theorem PI {L:Loc} (h:Rel E L σ w) (x y:jk) (l:σ.hH x=true) (m:σ.hH y=true) (q:σ.act.length < 4096):
  Calls prog 376 #[jO E.bB 189,kI (iG L.gS x),kI (iG L.gS y)] w λe w'=>e=pE/\To E L {σ with act:=jf σ.act x y} w w':=by
 have⟨C,hL,hC⟩:=h.Hs;refine(GN E.bs E.bB 189 _ C _ _ (iG L.gS x) (iG L.gS y) w hL h.elA (h.hH l) (by grind) h.bw).mono ?_;rintro e w' ⟨rfl,j⟩;exact⟨rfl,h.Bs hL hC (by rw[<-Cq h.inj];exact j) λz d=>by rcases Cs d with d|rfl;exact h.wf.act z d;exact m⟩
def Loc.new (L:Loc) (n k:Nat) (av kv:gQ):Loc:={L with gS:=λi=>if i < n then L.gS i else k+(i - n),av:=λi=>if i=n then av else L.av i,kv:=λi=>if i=n then kv else L.kv i}
variable {L L' : Loc}
def Loc.Bf (h:i < n):(L.new n k av kv).gS i=L.gS i:=gJ h
def Loc.tY:(L.new n k av kv).gS n=k:=by simp[Loc.new]
def Loc.FK (h:i < n):(L.new n k av kv).av i=L.av i:=gV (by omega)
def Loc.OC (h:i < n):(L.new n k av kv).kv i=L.kv i:=gV (by omega)
def Loc.BU:(L.new n k av kv).av n=av:=gJ rfl
def Loc.Is:(L.new n k av kv).kv n=kv:=gJ rfl
def Ge (n:Nat) (L L':Loc):Prop:=∀i,i < n->L'.gS i=L.gS i
def Ge.refl (n:Nat) (L:Loc):Ge n L L:=λ_ _=>rfl
def Ab.mq (h:σ.hH (some i)=true):i < σ.nodes.length:=by
 have⟨e,he⟩:=Option.isSome_iff_exists.1 h;exact Ab.iq he
def Ab.QO {k : Nd} (h:σ.jo k=true):k.iC < σ.nodes.length:=by
 by_cases j:k.iC < σ.nodes.length
 .exact j
 .exfalso;have d:σ.nodes[k.iC]?=none:=List.getElem?_eq_none (by omega);cases k with
  |el i=>simp only[Nd.iC]at d;simp[Ab.jo,Ab.ij,d]at h
  |tx i=>simp only[Nd.iC]at d;simp[Ab.jo,d]at h
  |cm i=>simp only[Nd.iC]at d;simp[Ab.jo,d]at h
  |dt i=>simp only[Nd.iC]at d;simp[Ab.jo,d]at h
def Ge.om (h:Ge σ.nodes.length L L') (d:σ.hH x=true):iG L'.gS x=iG L.gS x:=by
 cases x with
 |none=>rfl
 |some i=>show some _=some _;rw[h i (Ab.mq d)]
def Ge.kid (h:Ge σ.nodes.length L L') {k : Nd} (d:σ.jo k=true):Nd.map L'.gS k=Nd.map L.gS k:=by
 have:=h _ (Ab.QO d);cases k<;>(simp only[Nd.map,Nd.iC]at this|-;rw[this])
def Ge.list (h:Ge σ.nodes.length L L') {xs : kV} (j:∀x∈xs,σ.hH x=true):(xs.map λx=>kI (iG L'.gS x))=xs.map λx=>kI (iG L.gS x):=
 Wg λx d=>by rw[h.om (j x d)]
def Ge.kids (h:Ge σ.nodes.length L L') {ks : List Nd} (j:∀x∈ks,σ.jo x=true):ks.map (Nd.map L'.gS)=ks.map (Nd.map L.gS):=
 Wg λx d=>h.kid (j x d)
theorem Ab.vT (d:i < σ.nodes.length):(σ.add nd).ij i=σ.ij i:=by
 grind[Ab.ij,Ab.add]
theorem Ab.wy:(σ.add nd).ij σ.nodes.length=(match nd with| .el e=>some e|_=>none):=by
 show(match (σ.nodes++[nd])[σ.nodes.length]? with|some (.el e)=>some e|_=>none)=_
 grind
def Ab.A8 (h:σ.hH x=true):(σ.add nd).hH x=true:=by
 cases x with
 |none=>rfl
 |some i=>show((σ.add nd).ij i).isSome=true;rw[Ab.vT (Ab.mq h)];exact h
def Ab.MM (h:σ.mw x=true):(σ.add nd).mw x=true:=by
 cases x with
 |none=>exact h
 |some i=>show((σ.add nd).ij i).isSome=true;rw[Ab.vT (Ab.mq h)];exact h
theorem Ab.FE {k : Nd} (h:σ.jo k=true):(σ.add nd).jo k=true:=by
 have d:=Ab.QO h;have e:(σ.nodes++[nd])[k.iC]?=σ.nodes[k.iC]?:=Nt d;cases k with
 |el i=>show((σ.add nd).ij i).isSome=true;rw[Ab.vT (i:=i) d];exact h
 |tx i=>grind[Ab.jo,Ab.add]
 |cm i=>grind[Ab.jo,Ab.add]
 |dt i=>grind[Ab.jo,Ab.add]
theorem Ab.Jf {e : Ak} (h:(σ.add nd).ij i=some e):(i < σ.nodes.length/\σ.ij i=some e)\/(i=σ.nodes.length/\nd= .el e):=by
 have j:=Ab.iq h;have l:i < σ.nodes.length+1:=by simpa [Ab.add]using j
 by_cases d:i < σ.nodes.length
 .exact .inl ⟨d,by rw[<-Ab.vT d];exact h⟩
 .have e1:i=σ.nodes.length:=by omega
  subst e1;rw[Ab.wy]at h
  grind
def lx.ext (h:lx bs L w i nd) (d:Ge σ.nodes.length L L') (j:i < σ.nodes.length) (l:L'.av i=L.av i) (m:L'.kv i=L.kv i) (q:∀e,nd= .el e->σ.hH e.jl=true/\∀k∈e.kids,σ.jo k=true):lx bs L' w i nd:=by
 cases nd with
 |el e=>
  have⟨h1,h2⟩:=q e rfl;show El bs w (L'.gS i) e.name (L'.av i) (iG L'.gS e.jl) (L'.kv i) (e.kids.map (Nd.map L'.gS))/\zn w (L'.av i) e.ib/\e.ib.length<=4096;rw[d i j,l,m,d.om h1,d.kids h2];exact h
 |tx s=>show w.heap[L'.gS i]?=_;rw[d i j];exact h
 |cm s=>show w.heap[L'.gS i]?=_;rw[d i j];exact h
 |dt s=>show w.heap[L'.gS i]?=_;rw[d i j];exact h
theorem Rel.IV (h:Rel E L σ w) (d:i < σ.nodes.length):L.gS i < w.heap.size:=by
 have⟨c,hc⟩:=(h.tL i σ.nodes[i] (qB d)).typ
 grind
def Rel.wfn (h:Rel E L σ w) (j:σ.nodes[i]?=some nd):∀e,nd= .el e->σ.hH e.jl=true/\∀k∈e.kids,σ.jo k=true:=by
 rintro e rfl;have d:=Ab.Ts j;exact⟨h.wf.jl i e d,h.wf.kids i e d⟩
def jD.ext {σ' : Ab} (h:jD E L σ C) (j:Ge σ.nodes.length L L') (d:Wf σ) (e1:L'.ov=L.ov) (e2:L'.cv=L.cv) (l:L'.wv=L.wv) (m:σ'.head=σ.head) (q:σ'.form=σ.form) (z:σ'.mode=σ.mode) (A:σ'.kept=σ.kept) (s5:σ'.iT=σ.iT) (s6:σ'.jV=σ.jV) (s7:σ'.gS=σ.gS) (s8:σ'.behind=σ.behind):jD E L' σ' C:=
 ⟨h.size,h.low,by rw[e1];exact h.gG,by rw[e2];exact h.act,by rw[m,j.om d.head];exact h.head,by rw[q,j.om d.form];exact h.form,by rw[z];exact h.mode,by rw[A];exact h.kept,by rw[l];exact h.wait,by rw[s5];exact h.Js,by rw[s6];exact h.jV,by rw[s7];exact h.gS,by rw[s8];exact h.behind⟩
theorem Rel.ad2 (h:Rel E L σ w) (nd:Cf) (k:Nat) (av kv:gQ) (S:Bool) (hk:Kept [] w w') (a5:∀i,i < σ.nodes.length->L.gS i < k) (a3:E.bs<=k)
  (a6:lx E.bs (L.new σ.nodes.length k av kv) w' σ.nodes.length nd) (a4:kv.ownBlock=none) (a1:∀e,nd= .el e->e.jl=none/\e.kids=[])
  (Z:∀i e g,σ.ij i=some e->nM e.name=true->av.ownBlock=some g->(L.av i).ownBlock≠some g)
  (a0:∀e g j,nd= .el e->nM e.name=true->j < σ.nodes.length->av.ownBlock=some g->(L.av j).ownBlock≠some g)
  (I:(∀e,nd≠ .el e)->av.ownBlock=none)
  (W:S=true->σ.fresh=true/\∀g,E.tv.ownBlock=some g->av.ownBlock≠some g) (a2:∀g,av.ownBlock=some g->E.bs<=g):
  Rel E (L.new σ.nodes.length k av kv) (σ.pN nd S) w':=by
 have q:=h.io hk;have U:Ge σ.nodes.length L (L.new σ.nodes.length k av kv):=λi l=>Loc.Bf l;have F:=Ab.mq (σ:=σ) (i:=0) h.wf.xX;have m:(σ.pN nd S).nodes.length=σ.nodes.length+1:=by simp[Ab.pN]
 have J:∀i,(σ.pN nd S).ij i=(σ.add nd).ij i:=λi=>rfl;have⟨C,hb,hC⟩:=q.iC;refine⟨q.fr,by rw[Loc.Bf F];exact q.env,q.vM,?_,?_,?_,?_,?_,?_,?_,⟨C,hb,hC.ext U h.wf rfl rfl rfl rfl rfl rfl rfl rfl rfl rfl rfl⟩,?_,?_,q.GP,q.x9,q.Fp,q.pC,q.Mg,q.rd,q.RU,q.tok,q.Md,q.bz,q.bB,q.bR,?_,?_,?_,h.tb,h.Mf⟩
 .intro i O l;have d:(σ.nodes++[nd])[i]?=some O:=l
  by_cases V:i < σ.nodes.length
  .rw[Nt V]at d;exact(q.tL i O d).ext U V (Loc.FK V) (Loc.OC V) (h.wfn d)
  grind
 .intro i j B;have G:(if i < σ.nodes.length then L.gS i else k+(i - σ.nodes.length))=(if j < σ.nodes.length then L.gS j else k+(j - σ.nodes.length)):=B
  by_cases l:i < σ.nodes.length
  .by_cases K:j < σ.nodes.length
   .rw[gJ l,gJ K]at G;exact h.inj i j G
   grind
  grind
 .intro i j g l K B A;rw[m]at l K
  by_cases d:i < σ.nodes.length
  .rw[Loc.OC d]at A
   by_cases D:j < σ.nodes.length
   .rw[Loc.OC D];exact h.BT i j g d D B A
   grind[Loc.new]
  grind[Loc.new]
 .intro i l z;rw[m]at l
  by_cases d:i < σ.nodes.length
  .rw[Loc.OC d];exact h.GM i d (by rw[<-Ab.vT d];exact z)
  grind[Loc.new]
 .intro i j e g l Y K B A;rw[m]at K;rcases Ab.Jf (nd:=nd) l with⟨d,z⟩|⟨rfl,rfl⟩
  .rw[Loc.FK d]at A
   by_cases D:j < σ.nodes.length
   .rw[Loc.FK D];exact h.uq i j e g z Y D B A
   grind[Loc.new]
  grind[Loc.new]
 .intro i l z;rw[m]at l
  by_cases d:i < σ.nodes.length
  .rw[Loc.FK d];exact h.Fk i d (by rw[<-Ab.vT d];exact z)
  .have e1:i=σ.nodes.length:=by omega
   subst e1;rw[Loc.BU];refine I λe N=>?_;rw[J,Ab.wy,N]at z;cases z
 .refine⟨λx H=>Ab.MM (h.wf.gG x H),λx H=>Ab.A8 (h.wf.act x H),Ab.A8 h.wf.head,Ab.A8 h.wf.form,?_,?_,?_⟩
  .intro i e l;rcases Ab.Jf (nd:=nd) l with⟨d,z⟩|⟨rfl,hn⟩
   .exact Ab.A8 (h.wf.jl i e z)
   grind[Ab.hH]
  .intro i e l x H;rcases Ab.Jf (nd:=nd) l with⟨d,z⟩|⟨rfl,hn⟩
   .exact Ab.FE (h.wf.kids i e z x H)
   grind
  .rw[J,Ab.vT F];exact h.wf.xX
 .show w'.ownsRow E.bs _ 1 L.ov σ.gG.length (σ.gG.map λx=>kI (iG (L.new σ.nodes.length k av kv).gS x));rw[U.list λx H=>Ab.wC (h.wf.gG x H)];exact q.pF
 .show w'.ownsRow E.bs _ 1 L.cv σ.act.length (σ.act.map λx=>kI (iG (L.new σ.nodes.length k av kv).gS x));rw[U.list h.wf.act];exact q.qu
 .intro i l;rw[m]at l
  by_cases d:i < σ.nodes.length
  .rw[Loc.Bf d];exact h.bN i d
  grind[Loc.new]
 .intro hf i g l A;rw[m]at l;have⟨f1,f2⟩:=W hf
  by_cases d:i < σ.nodes.length
  .rw[Loc.FK d];exact h.DH f1 i g d A
  grind[Loc.new]
 .intro i g l A;rw[m]at l
  by_cases d:i < σ.nodes.length
  .rw[Loc.FK d]at A;exact h.ab i g d A
  .have e1:i=σ.nodes.length:=by omega
   subst e1;rw[Loc.BU]at A;grind
def Rel.add (h:Rel E L σ w) (nd:Cf) (k:Nat) (av kv:gQ) (A:Bool) (I:Kept [] w w') (z:w.heap.size<=k)
  (G:lx E.bs (L.new σ.nodes.length k av kv) w' σ.nodes.length nd) (F:kv.ownBlock=none) (q:∀e,nd= .el e->e.jl=none/\e.kids=[])
  (l:∀i e g,σ.ij i=some e->nM e.name=true->av.ownBlock=some g->(L.av i).ownBlock≠some g)
  (m:∀e g j,nd= .el e->nM e.name=true->j < σ.nodes.length->av.ownBlock=some g->(L.av j).ownBlock≠some g)
  (d:(∀e,nd≠ .el e)->av.ownBlock=none)
  (D:A=true->σ.fresh=true/\∀g,E.tv.ownBlock=some g->av.ownBlock≠some g) (B:∀g,av.ownBlock=some g->E.bs<=g):
  Rel E (L.new σ.nodes.length k av kv) (σ.pN nd A) w':=
 h.ad2 nd k av kv A I (λ_ H=>mi (h.IV H) z) (j7 h.bw z) G F q l m d D B
end
end Go.Proofs.YtlhhgenpcjjajaaGreatDoor
