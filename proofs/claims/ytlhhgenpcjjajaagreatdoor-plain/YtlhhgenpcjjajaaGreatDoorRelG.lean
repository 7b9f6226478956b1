import Derived.Test.YtlhhgenpcjjajaaGreatDoorRelD
import Derived.Deep.QuietTactic
import Derived.BigQuiet
import Derived.Deep.CutRange
set_option linter.unusedSimpArgs false
set_option linter.unusedVariables false
namespace Go.Proofs.YtlhhgenpcjjajaaGreatDoor
open Go.RowKit
theorem Rel.newEl {E : Env} {L : Loc} {σ : Ab} {w : World} (h : Rel E L σ w) (name : ByteArray) : Rel E (L.new σ.nodes.length w.heap.size (.slice none 0 0) (.slice none 0 0)) (σ.add (.el { name := name, attrs := [], par := none, kids := [] })) (w.alloc (.cells #[.string name, .slice none 0 0, .pointer none, .slice none 0 0] 140 (0, 0))) := by
  have hk : Kept [] w (w.alloc (.cells #[.string name, .slice none 0 0, .pointer none, .slice none 0 0] 140 (0, 0))) := (Kept.refl _ _).alloc _
  refine h.add (.el { name := name, attrs := [], par := none, kids := [] }) w.heap.size (.slice none 0 0) (.slice none 0 0) σ.fresh hk (Nat.le_refl _) ?_ rfl (fun e he => by cases he; exact ⟨rfl, rfl⟩) (fun _ _ _ _ _ h1 => by cases h1) (fun _ _ _ _ _ _ h1 => by cases h1) (fun _ => rfl) (fun hf => ⟨hf, fun _ _ => by simp [Value.ownBlock]⟩)
  show El E.bs _ _ _ _ _ _ _ ∧ Atr _ _ _ ∧ _
  rw [Loc.new_self, Loc.new_avS, Loc.new_kvS]
  exact ⟨⟨heap_alloc_at w _, World.ownsRow_nil _ _ _ _, by simp, ⟨_, _, _, rfl⟩⟩, World.ownsRow_nil _ _ _ _, by simp⟩
theorem Rel.newTagEl {E : Env} {L : Loc} {σ : Ab} {w : World} (h : Rel E L σ w) (hf : σ.fresh = true) (name : ByteArray) : Rel E (L.new σ.nodes.length w.heap.size E.tv (.slice none 0 0)) (σ.addF (.el { name := name, attrs := E.ta, par := none, kids := [] }) false) (w.alloc (.cells #[.string name, E.tv, .pointer none, .slice none 0 0] 140 (0, 0))) := by
  have hk : Kept [] w (w.alloc (.cells #[.string name, E.tv, .pointer none, .slice none 0 0] 140 (0, 0))) := (Kept.refl _ _).alloc _
  refine h.add (.el { name := name, attrs := E.ta, par := none, kids := [] }) w.heap.size E.tv (.slice none 0 0) false hk (Nat.le_refl _) ?_ rfl (fun e he => by cases he; exact ⟨rfl, rfl⟩) (fun i e g hi _ h1 => h.frs hf i g (Ab.lt_of_el hi) h1) (fun e g j _ _ hj h1 => h.frs hf j g hj h1) (fun hne => absurd rfl (hne _)) (fun hf => by cases hf)
  show El E.bs _ _ _ _ _ _ _ ∧ Atr _ _ _ ∧ _
  rw [Loc.new_self, Loc.new_avS, Loc.new_kvS]
  obtain ⟨ao, cap, hv⟩ := owns_shape h.tok
  exact ⟨⟨heap_alloc_at w _, World.ownsRow_nil _ _ _ _, by simp, ⟨_, _, _, hv⟩⟩, hk.ownsRow h.tok (by simp), h.tle⟩
theorem Rel.newNd {E : Env} {L : Loc} {σ : Ab} {w : World} (h : Rel E L σ w) (nd : ANd) (s : ByteArray) (hnd : nd = .tx s ∨ nd = .cm s ∨ nd = .dt s) : Rel E (L.new σ.nodes.length w.heap.size (.slice none 0 0) (.slice none 0 0)) (σ.add nd) (w.alloc (.cells #[.string s] nd.typ (0, 0))) := by
  have hk : Kept [] w (w.alloc (.cells #[.string s] nd.typ (0, 0))) := (Kept.refl _ _).alloc _
  have hne : ∀ e, nd ≠ .el e := by rintro e rfl; rcases hnd with h | h | h <;> cases h
  refine h.add nd w.heap.size (.slice none 0 0) (.slice none 0 0) σ.fresh hk (Nat.le_refl _) ?_ rfl (fun e he => absurd he (hne e)) (fun _ _ _ _ _ h1 => by cases h1) (fun _ _ _ _ _ _ h1 => by cases h1) (fun _ => rfl) (fun hf => ⟨hf, fun _ _ => by simp [Value.ownBlock]⟩)
  rcases hnd with rfl | rfl | rfl
  · show _ = _; rw [Loc.new_self]; exact heap_alloc_at w _
  · show _ = _; rw [Loc.new_self]; exact heap_alloc_at w _
  · show _ = _; rw [Loc.new_self]; exact heap_alloc_at w _
def Too (E : Env) (L : Loc) (n : Nat) (σ' : Ab) (w w' : World) : Prop := ∃ L', Ext n L L' ∧ Rel E L' σ' w' ∧ Fr E.bs w w'
theorem To.too {E : Env} {L : Loc} {n : Nat} {σ' : Ab} {w w' : World} (h : To E L σ' w w') : Too E L n σ' w w' := by
  obtain ⟨L', e, hR, hf⟩ := h
  exact ⟨L', .of_eq e, hR, hf⟩
def Ab.setTx (σ : Ab) (t : Nat) (s : ByteArray) : Ab := { σ with nodes := σ.nodes.set t (.tx s) }
theorem Ab.setTx_el {σ : Ab} {t : Nat} {s old : ByteArray} (ht : σ.nodes[t]? = some (.tx old)) (i : Nat) : (σ.setTx t s).el? i = σ.el? i := by
  by_cases h : t = i
  · subst h
    have hl := (List.getElem?_eq_some_iff.1 ht).1
    have hs : (σ.setTx t s).nodes[t]? = some (.tx s) := by simp [Ab.setTx, hl]
    unfold Ab.el?
    rw [hs, ht]
  · simp [Ab.el?, Ab.setTx, h]
theorem Ab.setTx_isEl {σ : Ab} {t : Nat} {s old : ByteArray} (ht : σ.nodes[t]? = some (.tx old)) (x : Option Nat) : (σ.setTx t s).isEl x = σ.isEl x := by
  cases x with
  | none => rfl
  | some i => show ((σ.setTx t s).el? i).isSome = (σ.el? i).isSome; rw [Ab.setTx_el ht]
theorem Ab.setTx_isElS {σ : Ab} {t : Nat} {s old : ByteArray} (ht : σ.nodes[t]? = some (.tx old)) (x : Option Nat) : (σ.setTx t s).isElS x = σ.isElS x := by
  cases x with
  | none => rfl
  | some i => exact Ab.setTx_isEl ht (some i)
theorem Ab.setTx_isKid {σ : Ab} {t : Nat} {s old : ByteArray} (ht : σ.nodes[t]? = some (.tx old)) (k : Nd) : (σ.setTx t s).isKid k = σ.isKid k := by
  have hl := (List.getElem?_eq_some_iff.1 ht).1
  have hs : (σ.setTx t s).nodes[t]? = some (.tx s) := by simp [Ab.setTx, hl]
  have hn : ∀ j, j ≠ t → (σ.setTx t s).nodes[j]? = σ.nodes[j]? := fun j hj => by simp [Ab.setTx, Ne.symm hj]
  cases k with
  | el j => exact Ab.setTx_isEl ht (some j)
  | tx j => by_cases hj : j = t
            · subst hj; simp only [Ab.isKid, hs, ht]
            · simp only [Ab.isKid, hn j hj]
  | cm j => by_cases hj : j = t
            · subst hj; simp only [Ab.isKid, hs, ht]
            · simp only [Ab.isKid, hn j hj]
  | dt j => by_cases hj : j = t
            · subst hj; simp only [Ab.isKid, hs, ht]
            · simp only [Ab.isKid, hn j hj]
theorem kid_map_tx {f : Nat → Nat} {k : Nd} {t : Nat} (h : k = .tx t) : Nd.map f k = .tx (f t) := by rw [h]; rfl
theorem t_putChars_join {E : Env} {L : Loc} {σ : Ab} {w : World} (h : Rel E L σ w) {i m t : Nat} {ei : AEl} {old s : ByteArray} (hi : σ.el? i = some ei) (hm : m < ei.kids.length) (hx : ei.kids[m] = .tx t) (ht : σ.nodes[t]? = some (.tx old)) (hsz : old.size + s.size ≤ 1048576) :
    Calls Tryz.prog 182 #[place (L.at' i) (m + 1), .string s] w fun e w' => e = .returned (.tuple #[]) ∧ To E L (σ.setTx t (old ++ s)) w w' := by
  refine (putChars_join E.bs _ m (L.at' t) _ old s _ _ _ _ w (h.elAt hi) (by simpa using hm) (by simp [hx, Nd.map]) (h.nds t _ ht) hsz).mono ?_
  rintro e w' ⟨rfl, hb, hk⟩
  have htl := (List.getElem?_eq_some_iff.1 ht).1
  have hT := h.nds t _ ht
  have kt : KT E.bs [140, 142, 284] w w' := .of_kept hk (fun x hx _ => by simp at hx; subst hx; exact ⟨⟨_, _, _, hT, by simp⟩, h.bN t (List.getElem?_eq_some_iff.1 ht).1⟩)
  refine ⟨rfl, L, rfl, h.with' (σ' := σ.setTx t (old ++ s)) kt (fun _ _ => rfl) rfl rfl rfl ?_ h.inj ?_ ?_ ?_ ?_ ?_ ?_, kt.fr (by decide)⟩
  · intro x nd hx'
    by_cases hxt : t = x
    · subst hxt
      simp [Ab.setTx, htl] at hx'
      rw [← hx']; exact hb
    · have hx2 : σ.nodes[x]? = some nd := by simpa [Ab.setTx, hxt] using hx'
      have hxl := (List.getElem?_eq_some_iff.1 hx2).1
      refine (h.nds x nd hx2).kept hk ?_ ?_ ?_
      · simp; exact fun e => hxt (h.inj _ _ e.symm)
      · intro g hg hm'
        simp at hm'
        obtain ⟨c, m', h1⟩ := h.kv_typ hxl hg
        rw [hm'] at h1
        exact absurd (typ_ne hT h1) (by decide)
      · intro g hg hm'
        simp at hm'
        obtain ⟨c, m', h1⟩ := h.av_typ hxl hg
        rw [hm'] at h1
        exact absurd (typ_ne hT h1) (by decide)
  · simpa [Ab.setTx] using h.kne
  · intro x hxl hx'
    rw [Ab.setTx_el ht] at hx'
    exact h.kel x (by simpa [Ab.setTx] using hxl) hx'
  · intro a b e g ha hgv hb' hab hg
    rw [Ab.setTx_el ht] at ha
    exact h.uq a b e g ha hgv (by simpa [Ab.setTx] using hb') hab hg
  · intro x hxl hx'
    rw [Ab.setTx_el ht] at hx'
    exact h.ael x (by simpa [Ab.setTx] using hxl) hx'
  · refine ⟨fun x hx => by rw [Ab.setTx_isElS ht]; exact h.wf.opn x hx, fun x hx => by rw [Ab.setTx_isEl ht]; exact h.wf.act x hx, by rw [Ab.setTx_isEl ht]; exact h.wf.head, by rw [Ab.setTx_isEl ht]; exact h.wf.form, fun i e hi => by rw [Ab.setTx_el ht] at hi; rw [Ab.setTx_isEl ht]; exact h.wf.par i e hi, fun i e hi k hk => by rw [Ab.setTx_el ht] at hi; rw [Ab.setTx_isKid ht]; exact h.wf.kids i e hi k hk, by rw [Ab.setTx_el ht]; exact h.wf.doc⟩
  · intro hf x g hxl
    exact h.frs hf x g (by simpa [Ab.setTx] using hxl)
theorem t_putChars_new {E : Env} {L : Loc} {σ : Ab} {w : World} (h : Rel E L σ w) {i n : Nat} {ei : AEl} {s : ByteArray} (hi : σ.el? i = some ei) (hn : n ≤ ei.kids.length) (hl : ei.kids.length < 1048576) (hx : ∀ m, (hm : m < ei.kids.length) → n = m + 1 → ∀ t, ei.kids[m] ≠ .tx t) :
    Calls Tryz.prog 182 #[place (L.at' i) n, .string s] w fun e w' => e = .returned (.tuple #[]) ∧ Too E L σ.nodes.length ((σ.add (.tx s)).setEl i { ei with kids := ins ei.kids n (.tx σ.nodes.length) }) w w' := by
  have hil := Ab.lt_of_el hi
  refine putChars_new E.bs _ n _ s _ _ _ _ w (h.elAt hi) (by simpa using hn) _ ?_ ?_
  · intro w1 hk
    have h1 := (h.kept0 hk).newNd (.tx s) s (.inl rfl)
    have hE : Ext σ.nodes.length L (L.new σ.nodes.length w1.heap.size (.slice none 0 0) (.slice none 0 0)) := fun j hj => Loc.new_lt hj
    have hi1 : (σ.add (.tx s)).el? i = some ei := by rw [Ab.el_add hil]; exact hi
    have hkid : (σ.add (.tx s)).isKid (.tx σ.nodes.length) = true := by simp [Ab.isKid, Ab.add]
    have := t_put_nd h1 (n := n) (k := .tx σ.nodes.length) hi1 hkid (fun j e => by cases e) hn hl
    rw [hE i hil] at this
    simp only [Nd.map, Loc.new_self] at this
    refine this.mono ?_
    rintro e w' ⟨rfl, L2, e2, hR, hf⟩
    exact ⟨rfl, L2, fun j hj => by rw [e2]; exact hE j hj, hR, (Fr.of_kept0 (hk.alloc _)).trans hf⟩
  · intro m hm hnm t ht
    have hm' : m < ei.kids.length := by simpa using hm
    rw [List.getElem_map] at ht
    cases hq : ei.kids[m] with
    | tx t' => exact hx m hm' hnm t' hq
    | el _ => rw [hq] at ht; cases ht
    | cm _ => rw [hq] at ht; cases ht
    | dt _ => rw [hq] at ht; cases ht
end Go.Proofs.YtlhhgenpcjjajaaGreatDoor
namespace Go.Proofs.YtlhhgenpcjjajaaGreatDoor
open Go.RowKit
inductive TK
  | char (s : ByteArray)
  | start (name : ByteArray)
  | stop (name : ByteArray)
  | comment (s : ByteArray)
  | doctype (name : ByteArray) (q : Bool)
  | lost
  | textEnd
structure ATok where
  a : Nat
  b : Nat
  k : TK
  attrs : List (ByteArray × ByteArray) := []
def ATok.name (t : ATok) : ByteArray := match t.k with
  | .start n => n
  | .stop n => n
  | _ => ⟨#[]⟩
def ATok.tagAttrs (t : ATok) : List (ByteArray × ByteArray) := match t.k with
  | .start _ => t.attrs
  | .stop _ => t.attrs
  | _ => []
def ATok.chars (t : ATok) : ByteArray := match t.k with
  | .char s => s
  | _ => ⟨#[]⟩
def isNulS (s : ByteArray) : Bool := eqS s ⟨#[0]⟩
def isBlankS (s : ByteArray) : Bool := hasS [⟨#[32]⟩, ⟨#[9]⟩, ⟨#[10]⟩, ⟨#[12]⟩] s
namespace Ab
def nm (σ : Ab) (i : Nat) : ByteArray := match σ.el? i with
  | some e => e.name
  | none => ⟨#[]⟩
def nmO (σ : Ab) : Option Nat → ByteArray
  | some i => σ.nm i
  | none => ⟨#[]⟩
def last (σ : Ab) : Option Nat := getAt σ.opn ((σ.opn.length : Int) - 1)
def current (σ : Ab) (p : ByteArray → Bool) : Bool := match σ.last with
  | none => false
  | some i => p (σ.nm i)
def pop (σ : Ab) : Ab := { σ with opn := σ.opn.dropLast }
def popIf (σ : Ab) (p : ByteArray → Bool) : Ab := if σ.current p then σ.pop else σ
def upToL (σ : Ab) (p : ByteArray → Bool) : List (Option Nat) → List (Option Nat)
  | [] => []
  | x :: r => if p (σ.nmO x) then r else upToL σ p r
def upTo (σ : Ab) (p : ByteArray → Bool) : Ab := { σ with opn := (upToL σ p σ.opn.reverse).reverse }
def dropL (σ : Ab) (p : ByteArray → Bool) : List (Option Nat) → List (Option Nat)
  | [] => []
  | x :: r => if p (σ.nmO x) then dropL σ p r else x :: r
def clearTo (σ : Ab) (p : ByteArray → Bool) : Ab := { σ with opn := (dropL σ (fun s => !(p s || hasS [(⟨#[104, 116, 109, 108]⟩ : ByteArray)] s)) σ.opn.reverse).reverse }
def impliedEnds (σ : Ab) : Ab := { σ with opn := (dropL σ pImplied σ.opn.reverse).reverse }
def scopeL (σ : Ab) (p b : ByteArray → Bool) : List (Option Nat) → Bool
  | [] => false
  | x :: r => if p (σ.nmO x) then true else if b (σ.nmO x) then false else scopeL σ p b r
def inScope (σ : Ab) (p b : ByteArray → Bool) : Bool := scopeL σ p b σ.opn.reverse
def isScopeL (σ : Ab) (it : Nat) : List (Option Nat) → Bool
  | [] => false
  | x :: r => if x = some it then true else if pBounds (σ.nmO x) then false else isScopeL σ it r
def isInScope (σ : Ab) (it : Nat) : Bool := isScopeL σ it σ.opn.reverse
def close (σ : Ab) (p b : ByteArray → Bool) : Ab := if σ.inScope p b then σ.upTo p else σ
end Ab
def pIs (ks : List ByteArray) : ByteArray → Bool := hasS ks
def orP (p q : ByteArray → Bool) : ByteArray → Bool := fun s => p s || q s
def buttonB : ByteArray → Bool := fun s => pBounds s || hasS [(⟨#[98, 117, 116, 116, 111, 110]⟩ : ByteArray)] s
def itemB : ByteArray → Bool := fun s => pBounds s || hasS [(⟨#[117, 108]⟩ : ByteArray)] s
def tableB : ByteArray → Bool := hasS [(⟨#[104, 116, 109, 108]⟩ : ByteArray), (⟨#[116, 97, 98, 108, 101]⟩ : ByteArray)]
def tableP : ByteArray → Bool := hasS [(⟨#[116, 97, 98, 108, 101]⟩ : ByteArray), (⟨#[116, 98, 111, 100, 121]⟩ : ByteArray), (⟨#[116, 102, 111, 111, 116]⟩ : ByteArray), (⟨#[116, 104, 101, 97, 100]⟩ : ByteArray), (⟨#[116, 114]⟩ : ByteArray)]
def Ab.closeP (σ : Ab) : Ab := σ.close (hasS [(⟨#[112]⟩ : ByteArray)]) buttonB
def elOf (x : Option Nat) : M Nat := fun σ => match x with
  | some i => if (σ.el? i).isSome then .ok i σ else .stuck
  | none => .stuck
def endOf (i : Nat) : M (Nat × Nat) := fun σ => match σ.el? i with
  | some e => .ok (i, e.kids.length) σ
  | none => .stuck
def fosterL (σ : Ab) : List (Option Nat) → Option (Option Nat)
  | [] => none
  | x :: r => if !eqS (σ.nmO x) (⟨#[116, 97, 98, 108, 101]⟩ : ByteArray) || x = getAt σ.opn 0 then fosterL σ r else some x
def Res.isOk {α : Type} : Res α → Bool
  | .ok _ _ => true
  | _ => false
def fosterAt (i : Nat) : M (Nat × Nat) := fun σ => match σ.el? i with
  | some e => match e.par with
    | some p => match σ.el? p with
      | some ep => if 0 ≤ posN ep.kids (Nd.isEl i) then .ok (p, (posN ep.kids (Nd.isEl i)).toNat) σ else .stuck
      | none => .stuck
    | none => match getAt σ.opn (posOf σ.opn (some i) - 1) with
      | some q => endOf q σ
      | none => .stuck
  | none => .stuck
def Ab.tablesOk (σ : Ab) : Bool := σ.opn.all fun x => match x with
  | some i => !eqS (σ.nm i) (⟨#[116, 97, 98, 108, 101]⟩ : ByteArray) || decide (some i = getAt σ.opn 0) || (fosterAt i σ).isOk
  | none => false
def fosterPlace : M (Nat × Nat) := fun σ => if σ.tablesOk then (match fosterL σ σ.opn.reverse with
  | some (some i) => fosterAt i σ
  | some none => .stuck
  | none => match getAt σ.opn 0 with
    | some q => endOf q σ
    | none => .stuck) else .stuck
theorem endOf_same {i : Nat} {σ σ1 : Ab} {pl : Nat × Nat} (h : endOf i σ = .ok pl σ1) : σ1 = σ := by
  unfold endOf at h
  split at h
  · cases h; rfl
  · cases h
theorem fosterAt_same {i : Nat} {σ σ1 : Ab} {pl : Nat × Nat} (h : fosterAt i σ = .ok pl σ1) : σ1 = σ := by
  unfold fosterAt at h
  split at h
  · split at h
    · split at h
      · split at h
        · cases h; rfl
        · cases h
      · cases h
    · split at h
      · exact endOf_same h
      · cases h
  · cases h
theorem fosterPlace_same {σ σ1 : Ab} {pl : Nat × Nat} (h : fosterPlace σ = .ok pl σ1) : σ1 = σ := by
  unfold fosterPlace at h
  split at h
  · split at h
    · exact fosterAt_same h
    · cases h
    · split at h
      · exact endOf_same h
      · cases h
  · cases h
def placeFor (i : Nat) : M (Nat × Nat) := fun σ => if σ.fostering && tableP (σ.nm i) then fosterPlace σ else endOf i σ
def placeM : M (Nat × Nat) := fun σ => match σ.last with
  | some i => placeFor i σ
  | none => .stuck
def putEl (pl : Nat × Nat) (j : Nat) : M Unit := fun σ => match σ.el? pl.1, σ.el? j with
  | some ei, some ej => if j ≠ pl.1 ∧ pl.2 ≤ ei.kids.length ∧ ei.kids.length < 1048576 then .ok () ((σ.setEl pl.1 { ei with kids := ins ei.kids pl.2 (.el j) }).setEl j { ej with par := some pl.1 }) else .stuck
  | _, _ => .stuck
def putNd (pl : Nat × Nat) (k : Nd) : M Unit := fun σ => match σ.el? pl.1 with
  | some ei => if σ.isKid k = true ∧ pl.2 ≤ ei.kids.length ∧ ei.kids.length < 1048576 then .ok () (σ.setEl pl.1 { ei with kids := ins ei.kids pl.2 k }) else .stuck
  | none => .stuck
def putChars (pl : Nat × Nat) (s : ByteArray) : M Unit := fun σ => match σ.el? pl.1 with
  | some ei => if pl.2 ≤ ei.kids.length ∧ ei.kids.length < 1048576 then
      match (if pl.2 = 0 then none else ei.kids[pl.2 - 1]?) with
      | some (.tx t) => match σ.nodes[t]? with
        | some (.tx old) => if old.size + s.size ≤ 1048576 then .ok () (σ.setTx t (old ++ s)) else .stuck
        | _ => .stuck
      | _ => .ok () ((σ.add (.tx s)).setEl pl.1 { ei with kids := ins ei.kids pl.2 (.tx σ.nodes.length) })
    else .stuck
  | none => .stuck
def pushM (x : Option Nat) : M Unit := fun σ => if σ.dep ≤ σ.opn.length then .stop 5 σ.at' else if σ.isElS x then .ok () { σ with opn := σ.opn ++ [x] } else .stuck
def insertM (j : Nat) : M Unit := do
  let pl ← placeM
  putEl pl j
  pushM (some j)
  return ()
def newEl (name : ByteArray) : M Nat := fun σ => .ok σ.nodes.length (σ.add (.el { name := name, attrs := [], par := none, kids := [] }))
def ATok.isTag (t : ATok) : Bool := match t.k with
  | .start _ => true
  | .stop _ => true
  | _ => false
def newTagEl (t : ATok) : M Nat := fun σ => if σ.fresh && t.isTag then .ok σ.nodes.length (σ.addF (.el { name := t.name, attrs := t.tagAttrs, par := none, kids := [] }) false) else .stuck
def insertNamed (name : ByteArray) : M Unit := do
  let j ← newEl name
  insertM j
  return ()
def insertTag (t : ATok) : M Unit := do
  let j ← newTagEl t
  insertM j
  return ()
def pop' : M (Option Nat) := fun σ => .ok σ.last σ.pop
def insertVoid (t : ATok) : M Unit := do
  insertTag t
  let _ ← pop'
  return ()
def insertChar (t : ATok) : M Unit := do
  let pl ← placeM
  putChars pl t.chars
  return ()
end Go.Proofs.YtlhhgenpcjjajaaGreatDoor
namespace Go.Proofs.YtlhhgenpcjjajaaGreatDoor
open Go.RowKit
theorem Rel.drewN {E : Env} {L : Loc} {σ : Ab} {w : World} (h : Rel E L σ w) (q : Nat) : Rel E L σ (w.drewN q) := h.kept0 ((Kept.refl _ _).drewN q)
theorem Fr.drewN {bs : Nat} (w : World) (q : Nat) : Fr bs w (w.drewN q) := .of_kept0 ((Kept.refl _ _).drewN q)
def StopAt (w : World) (k c p : Nat) : Prop := w.heap[k]? = some (.cells #[.int .i64 (c : Int), .int .i64 (p : Int)] 83 (0, 0))
abbrev stopV (k : Nat) : Ending := .panicked [{ v := .iface 78 (.pointer (some ⟨k, 0, none⟩)), recovered := false }]
def Ends {α : Type} (E : Env) (L : Loc) (n : Nat) (w : World) (m : Res α) (val : Loc → α → Value) (e : Ending) (w' : World) : Prop := match m with
  | .ok a σ' => ∃ L', Ext n L L' ∧ n ≤ σ'.nodes.length ∧ e = .returned (val L' a) ∧ Rel E L' σ' w' ∧ Fr E.bs w w'
  | .stop c p => ∃ k, e = stopV k ∧ StopAt w' k c p ∧ Fr E.bs w w'
  | .stuck => False
abbrev uval (_ : Loc) (_ : Unit) : Value := .tuple #[]
abbrev bval (_ : Loc) (b : Bool) : Value := .bool b
theorem Ends.before {α : Type} {E : Env} {L L1 : Loc} {n m : Nat} {w w1 w' : World} {r : Res α} {val : Loc → α → Value} {e : Ending} (h : Ends E L1 m w1 r val e w') (hE : Ext n L L1) (hnm : n ≤ m) (hf : Fr E.bs w w1) : Ends E L n w r val e w' := by
  cases r with
  | ok a σ' => obtain ⟨L', h1, h2, h3, h4, h5⟩ := h; exact ⟨L', hE.trans h1 hnm, Nat.le_trans hnm h2, h3, h4, hf.trans h5⟩
  | stop c p => obtain ⟨k, h1, h2, h3⟩ := h; exact ⟨k, h1, h2, hf.trans h3⟩
  | stuck => exact h
abbrev Bp (E : Env) : Value := .pointer (some ⟨E.bB, 0, none⟩)
set_option maxHeartbeats 1000000 in
theorem stop_ok {E : Env} {L : Loc} {σ : Ab} {w : World} (h : Rel E L σ w) (c : Nat) :
    Calls Tryz.prog 270 #[Bp E, .int .i64 (c : Int)] w fun e w' => ∃ k, e = stopV k ∧ StopAt w' k c σ.at' ∧ Fr E.bs w w' := by
  have c1 := h.c197
  have hlt := h.lt
  have HK := hide (Fr.of_kept0 (bs := E.bs) ((Kept.refl [] w).alloc (.cells #[.int .i64 (c : Int), .int .i64 (σ.at' : Int)] 83 (0, 0))))
  have HG := hide (heap_alloc_at w (.cells #[.int .i64 (c : Int), .int .i64 (σ.at' : Int)] 83 (0, 0)))
  clear h
  go_enter Tryz.func270, Tryz.ntmps270
  go_wp2
  exact ⟨rfl, _, rfl, HG.out, HK.out⟩
set_option maxHeartbeats 1000000 in
theorem push_ok {E : Env} {L : Loc} {σ : Ab} {w : World} (h : Rel E L σ w) (x : Option Nat) (hm : pushM x σ ≠ .stuck) :
    Calls Tryz.prog 186 #[Bp E, enc (omap L.at' x)] w (Ends E L σ.nodes.length w (pushM x σ) uval) := by
  have c0 := h.low (j := 0) (by decide) h.lim.1
  obtain ⟨_, _, _, hd, _, _⟩ := h.lim
  have hol := h.ole
  have C1 := hide (fun q => o_len (h.drewN q))
  have H := hide h
  unfold pushM at hm ⊢
  by_cases hl : σ.dep ≤ σ.opn.length
  · rw [if_pos hl]
    have C2 := hide (fun q => stop_ok (h.drewN q) 5)
    clear h hm
    go_enter Tryz.func186, Tryz.ntmps186
    go_wp2_with fail
    go_quiet ((go_at_call 269; exact Calls.quiet_of_same (C1.out _)))
    go_wp2_with fail
    refine (C2.out nq).mono ?_
    rintro e w' ⟨k, rfl, h1, h2⟩
    have H1 := hide h1
    have H2 := hide ((Fr.drewN w nq).trans h2)
    clear h1 h2
    go_wp2
    exact ⟨rfl, k, rfl, H1.out, H2.out⟩
  · rw [if_neg hl] at hm ⊢
    have hx : σ.isElS x = true := by
      by_cases hx : σ.isElS x = true
      · exact hx
      · rw [if_neg hx] at hm; exact absurd rfl hm
    rw [if_pos hx]
    have C2 := hide (fun q => o_push (h.drewN q) x hx (by omega))
    clear h hm
    go_enter Tryz.func186, Tryz.ntmps186
    go_wp2_with fail
    go_quiet ((go_at_call 269; exact Calls.quiet_of_same (C1.out _)))
    go_wp2_with fail
    refine (C2.out nq).mono ?_
    rintro e w' ⟨rfl, L', e1, hR, hf⟩
    have HR := hide hR
    have HF := hide ((Fr.drewN w nq).trans hf)
    clear hR hf
    go_wp2
    go_end0
    exact ⟨L', .of_eq e1, Nat.le_refl _, rfl, HR.out, HF.out⟩
end Go.Proofs.YtlhhgenpcjjajaaGreatDoor
namespace Go.Proofs.YtlhhgenpcjjajaaGreatDoor
open Go.RowKit
theorem Rel.lenO {E : Env} {L : Loc} {σ : Ab} {w : World} (h : Rel E L σ w) : lenAt ⟨E.bB, 188, none⟩ w = σ.opn.length := by
  obtain ⟨C, hL, _⟩ := h.lstO
  rw [hL.lenAt, List.length_map]
theorem last_snoc (xs : List (Option Nat)) (y : Option Nat) : getAt (xs ++ [y]) (((xs ++ [y]).length : Int) - 1) = y := getAt_last xs y
theorem last_nil : getAt ([] : List (Option Nat)) ((([] : List (Option Nat)).length : Int) - 1) = none := rfl
theorem snoc_cases (xs : List (Option Nat)) : xs = [] ∨ ∃ ys y, xs = ys ++ [y] := by
  rcases List.eq_nil_or_concat xs with h | ⟨zs, y, h⟩
  · exact .inl h
  · exact .inr ⟨zs, y, by rw [h, List.concat_eq_append]⟩
theorem Rel.opn_some {E : Env} {L : Loc} {σ : Ab} {w : World} (h : Rel E L σ w) {x : Option Nat} (hx : x ∈ σ.opn) : ∃ i e, x = some i ∧ σ.el? i = some e := by
  have := h.wf.opn x hx
  cases x with
  | none => cases this
  | some i =>
    obtain ⟨e, he⟩ := Option.isSome_iff_exists.1 (show (σ.el? i).isSome = true from this)
    exact ⟨i, e, rfl, he⟩
theorem Rel.nameAt {E : Env} {L : Loc} {σ : Ab} {w : World} (h : Rel E L σ w) {i : Nat} {e : AEl} (hi : σ.el? i = some e) : w.cell? ⟨L.at' i, 0, none⟩ = some (.string (σ.nm i)) := by
  have : σ.nm i = e.name := by unfold Ab.nm; rw [hi]
  rw [this, cell_at (h.elAt hi).blk]; rfl
theorem Ask.fr' {bm bs : Nat} {v : Value} {p : ByteArray → Bool} {w w' : World} (h : Ask bm v p w) (hf : Fr bs w w') : Ask bm v p w' := h.fr (hf.n bm)
set_option maxHeartbeats 1000000 in
theorem current_ok {E : Env} {L : Loc} {σ : Ab} {w : World} (h : Rel E L σ w) (v : Value) (p : ByteArray → Bool) (ha : Ask E.bm v p w) :
    Calls Tryz.prog 220 #[Bp E, v] w fun e w' => e = .returned (.bool (σ.current p)) ∧ w' = w := by
  obtain ⟨k, lb, rfl, he, hc⟩ := ha.call
  have C1 := o_last h
  rcases snoc_cases σ.opn with ho | ⟨ys, y, ho⟩
  · have hcur : σ.current p = false := by unfold Ab.current Ab.last; rw [ho]; rfl
    rw [hcur]
    rw [ho, last_nil] at C1
    have HC := hide C1
    clear h ha hc C1 ho hcur
    go_enter Tryz.func220, Tryz.ntmps220
    go_wp2_with fail
    refine HC.out.mono ?_
    rintro e w' ⟨rfl, rfl⟩
    go_wp2
    go_ret
    exact ⟨rfl, rfl⟩
  · obtain ⟨i, e0, rfl, hi⟩ := h.opn_some (x := y) (by rw [ho]; simp)
    have hcur : σ.current p = p (σ.nm i) := by unfold Ab.current Ab.last; rw [ho, last_snoc]
    rw [hcur]
    rw [ho, last_snoc] at C1
    have c0 := h.nameAt hi
    have HC := hide (show Calls Tryz.prog 179 #[.pointer (some ⟨E.bB, 188, none⟩)] w (fun e w' => e = .returned (.pointer (some ⟨L.at' i, 0, none⟩)) ∧ w' = w) from C1)
    have HA := hide (hc w (FrN.refl _ _) (σ.nm i))
    generalize p (σ.nm i) = r at HA ⊢
    clear h ha hc C1 ho hcur
    go_enter Tryz.func220, Tryz.ntmps220
    go_wp2_with fail
    refine HC.out.mono ?_
    rintro e w' ⟨rfl, rfl⟩
    go_wp2_with fail
    refine HA.out.mono ?_
    rintro e w' ⟨rfl, rfl⟩
    go_wp2
    go_ret
    exact ⟨rfl, rfl⟩
set_option maxHeartbeats 1000000 in
theorem popIf_ok {E : Env} {L : Loc} {σ : Ab} {w : World} (h : Rel E L σ w) (v : Value) (p : ByteArray → Bool) (ha : Ask E.bm v p w) :
    Calls Tryz.prog 241 #[Bp E, v] w fun e w' => e = .returned (.tuple #[]) ∧ To E L (σ.popIf p) w w' := by
  have C1 := hide (current_ok h v p ha)
  have C2 := hide (o_pop h)
  have HT := hide (h.to (Fr.refl w))
  obtain ⟨k, lb, rfl, _, _⟩ := ha.call
  unfold Ab.popIf
  clear h ha
  cases hcur : σ.current p with
  | false =>
    rw [hcur] at C1
    go_enter Tryz.func241, Tryz.ntmps241
    go_wp2_with fail
    refine C1.out.mono ?_
    rintro e w' ⟨rfl, rfl⟩
    go_wp2
    go_end0
    exact ⟨rfl, HT.out⟩
  | true =>
    rw [hcur] at C1
    go_enter Tryz.func241, Tryz.ntmps241
    go_wp2_with fail
    refine C1.out.mono ?_
    rintro e w' ⟨rfl, rfl⟩
    go_wp2_with fail
    refine C2.out.mono ?_
    rintro e w' ⟨rfl, ht⟩
    have HT2 := hide ht
    clear ht
    go_wp2
    go_end0
    exact ⟨rfl, HT2.out⟩
structure Pops (E : Env) (L : Loc) (σ : Ab) (w : World) (ys : List (Option Nat)) (wr : World) : Prop where
  ex : ∃ L1, L1.at' = L.at' ∧ Rel E L1 { σ with opn := ys } wr ∧ Fr E.bs w wr
set_option maxHeartbeats 2000000 in
theorem upTo_ok {E : Env} {L : Loc} {σ : Ab} {w : World} (h : Rel E L σ w) (v : Value) (p : ByteArray → Bool) (ha : Ask E.bm v p w) :
    Calls Tryz.prog 293 #[Bp E, v] w fun e w' => e = .returned (.tuple #[]) ∧ To E L (σ.upTo p) w w' := by
  obtain ⟨k, lb, rfl, he, hc⟩ := ha.call
  have HC := hide hc
  have H0 : Hid (Pops E L σ w σ.opn w) := hide ⟨L, rfl, h, Fr.refl w⟩
  clear h ha hc
  go_enter Tryz.func293, Tryz.ntmps293
  go_wp2
  go_loopw [] (fun wr => ∃ ys, σ.upToL p ys.reverse = σ.upToL p σ.opn.reverse ∧ Pops E L σ w ys wr) (fun wr => lenAt ⟨E.bB, 188, none⟩ wr)
  case atStart => exact ⟨_, rfl, H0.out⟩
  case round =>
    obtain ⟨ys, hu, ⟨L1, e1, hR, hf⟩⟩ := hrel
    have E1 := hide e1
    clear e1
    have HZ := hide hR.lenO
    have C1 := hide (o_len hR)
    have C2 := o_pop hR
    rcases snoc_cases ys with rfl | ⟨zs, y, rfl⟩
    · have HT : Hid (To E L (σ.upTo p) w wr) := by
        refine ⟨L1, E1.out, ?_, hf⟩
        have : (σ.upToL p σ.opn.reverse).reverse = [] := by rw [← hu]; rfl
        unfold Ab.upTo
        rw [this]; exact hR
      clear hR hf hu C2
      go_wp2_with fail
      refine C1.out.mono ?_
      rintro e w' ⟨rfl, rfl⟩
      go_wp2
      go_end0
      exact ⟨rfl, HT.out⟩
    · obtain ⟨i, e0, rfl, hi⟩ := hR.opn_some (x := y) (by simp)
      have hu' : σ.upToL p ((zs ++ [some i]).reverse) = if p (σ.nm i) then zs.reverse else σ.upToL p zs.reverse := by rw [List.reverse_append]; rfl
      rw [hu'] at hu
      have hlen : 0 < (zs ++ [some i]).length := by simp
      dsimp only at C1 C2
      rw [last_snoc] at C2
      have HC2 := hide (show Calls Tryz.prog 184 #[.pointer (some ⟨E.bB, 188, none⟩)] wr (fun e w' => e = .returned (.pointer (some ⟨L1.at' i, 0, none⟩)) ∧ To E L1 { σ with opn := (zs ++ [some i]).dropLast } wr w') from C2)
      have HU := hide hu
      have HFR := hide hf
      have hpos : (0 : Int) < ((zs ++ [some i]).length : Int) := by omega
      obtain ⟨m, hm⟩ : ∃ m, m = (zs ++ [some i]).length := ⟨_, rfl⟩
      have HM := hide (show m = zs.length + 1 by rw [hm]; simp)
      dsimp only at HZ
      rw [← hm] at C1 hpos HZ
      have hi' := hide hi
      clear hR hf hu hu' C2 hi hlen hm
      go_wp2_with fail
      refine C1.out.mono ?_
      rintro e w' ⟨rfl, rfl⟩
      go_wp2_with fail
      refine HC2.out.mono ?_
      rintro e w2 ⟨rfl, L2, e2, hR2, hf2⟩
      rw [List.dropLast_concat] at hR2
      have hi2 : Ab.el? { σ with opn := zs } i = some e0 := hi'.out
      have c0 : w2.cell? ⟨L1.at' i, 0, none⟩ = some (.string (σ.nm i)) := by rw [← e2]; exact hR2.nameAt hi2
      have HA := hide (HC.out w2 ((HFR.out.trans hf2).n _) (σ.nm i))
      have HZ2 := hide hR2.lenO
      have HP : Hid (Pops E L σ w zs w2) := ⟨L2, e2.trans E1.out, hR2, HFR.out.trans hf2⟩
      clear hR2 hf2 hi2 e2
      cases hq : p (σ.nm i) with
      | true =>
        rw [hq] at HA HU
        have HT : Hid (To E L (σ.upTo p) w w2) := by
          obtain ⟨L3, e3, hR3, hf3⟩ := HP.out.ex
          refine ⟨L3, e3, ?_, hf3⟩
          have : (σ.upToL p σ.opn.reverse).reverse = zs := by rw [← HU.out, if_pos rfl, List.reverse_reverse]
          unfold Ab.upTo
          rw [this]; exact hR3
        clear hq
        go_wp2_with fail
        refine HA.out.mono ?_
        rintro e w' ⟨rfl, rfl⟩
        go_wp2
        (try simp only [Exit.inBlock, Exit.then])
        refine bodyPost_ret (results_none rfl _ _ _) rfl ?_
        exact ⟨rfl, HT.out⟩
      | false =>
        rw [hq] at HA HU
        clear hq
        go_wp2_with fail
        refine HA.out.mono ?_
        rintro e w' ⟨rfl, rfl⟩
        go_wp2
        go_roundw
        case rel => exact ⟨zs, by rw [← HU.out]; rfl, HP.out⟩
        case measure => rw [HZ2.out, HZ.out, HM.out]; simp
end Go.Proofs.YtlhhgenpcjjajaaGreatDoor
namespace Go.Proofs.YtlhhgenpcjjajaaGreatDoor
open Go.RowKit
theorem is_at (bm : Nat) (ss : List ByteArray) (w : World) (hle : ss.length ≤ 4096) :
    Calls Tryz.prog 225 #[.slice (some ⟨w.heap.size, 0, none⟩) ss.length ss.length] (w.alloc (.cells (ss.map Value.string).toArray 9 (0, 0))) fun e w' => ∃ f a l, e = .returned (.func f a l) ∧ Ask bm (.func f a l) (hasS ss) w' ∧ Kept [] w w' := by
  refine (is_Ask bm w.heap.size ss.length ss _ (heap_alloc_at w _) hle).mono ?_
  rintro e w' ⟨⟨v, rfl, ha⟩, hk⟩
  obtain ⟨k, lb, rfl, _, _⟩ := ha.call
  exact ⟨_, _, _, rfl, ha, (((Kept.refl [] w).alloc _).trans hk)⟩
theorem or_at (bm : Nat) (v1 v2 : Value) (p q : ByteArray → Bool) (w : World) (hp : Ask bm v1 p w) (hq : Ask bm v2 q w) :
    Calls Tryz.prog 245 #[v1, v2] w fun e w' => ∃ f a l, e = .returned (.func f a l) ∧ Ask bm (.func f a l) (fun s => p s || q s) w' ∧ Kept [] w w' := by
  refine (or_Ask bm v1 v2 p q w hp hq).mono ?_
  rintro e w' ⟨⟨v, rfl, ha⟩, hk⟩
  obtain ⟨k, lb, rfl, _, _⟩ := ha.call
  exact ⟨_, _, _, rfl, ha, hk⟩
theorem Ask.k0 {bm : Nat} {v : Value} {p : ByteArray → Bool} {w w' : World} (h : Ask bm v p w) (hk : Kept [] w w') : Ask bm v p w' := h.fr (.of_kept0 hk)
set_option maxHeartbeats 2000000 in
theorem clearTo_ok {E : Env} {L : Loc} {σ : Ab} {w : World} (h : Rel E L σ w) (f : Fn) (a l : Array Value) (p : ByteArray → Bool) (ha : Ask E.bm (.func f a l) p w) :
    Calls Tryz.prog 222 #[Bp E, .func f a l] w fun e w' => e = .returned (.tuple #[]) ∧ To E L (σ.clearTo p) w w' := by
  have H := hide h
  have HA := hide ha
  have CI := hide (is_at E.bm [(⟨#[104, 116, 109, 108]⟩ : ByteArray)] w (by decide))
  clear h ha
  go_enter Tryz.func222, Tryz.ntmps222
  go_wp2_with fail
  refine CI.out.mono ?_
  rintro e w1 ⟨f1, a1, l1, rfl, ha1, hk1⟩
  have CO := hide (or_at E.bm _ _ _ _ w1 (HA.out.k0 hk1) ha1)
  have HK1 := hide hk1
  clear ha1 hk1
  go_wp2_with fail
  refine CO.out.mono ?_
  rintro e w2 ⟨f2, a2, l2, rfl, ha2, hk2⟩
  have HK2 := hide (HK1.out.trans hk2)
  have HA2 := hide ha2
  have H2 := hide (H.out.kept0 HK2.out)
  obtain ⟨q, hq⟩ : ∃ q, q = (fun s => p s || hasS [(⟨#[104, 116, 109, 108]⟩ : ByteArray)] s) := ⟨_, rfl⟩
  rw [← hq] at HA2
  have HT0 : Hid (∀ wr, (∃ L1, L1.at' = L.at' ∧ Rel E L1 { σ with opn := (σ.dropL (fun s => !q s) σ.opn.reverse).reverse } wr ∧ Fr E.bs w wr) → To E L (σ.clearTo p) w wr) := by
    rintro wr ⟨L1, e1, hR, hf⟩
    refine ⟨L1, e1, ?_, hf⟩
    unfold Ab.clearTo
    rw [hq] at hR
    exact hR
  clear ha2 hk2 hq
  have H0 : Hid (Pops E L σ w σ.opn w2) := hide ⟨L, rfl, H2.out, .of_kept0 HK2.out⟩
  go_wp2
  go_loopw [] (fun wr => ∃ ys, σ.dropL (fun s => !q s) ys.reverse = σ.dropL (fun s => !q s) σ.opn.reverse ∧ Fr E.bs w2 wr ∧ Pops E L σ w ys wr) (fun wr => lenAt ⟨E.bB, 188, none⟩ wr)
  case atStart => exact ⟨_, rfl, Fr.refl _, H0.out⟩
  case round =>
    obtain ⟨ys, hu, hf2, ⟨L1, e1, hR, hf⟩⟩ := hrel
    have E1 := hide e1
    clear e1
    have HZ := hide hR.lenO
    have C1 := hide (o_len hR)
    have CC := current_ok hR _ _ (HA2.out.fr' hf2)
    rcases snoc_cases ys with rfl | ⟨zs, y, rfl⟩
    · have HT : Hid (To E L (σ.clearTo p) w wr) := by
        refine HT0.out wr ⟨L1, E1.out, ?_, hf⟩
        have : (σ.dropL (fun s => !q s) σ.opn.reverse).reverse = [] := by rw [← hu]; rfl
        rw [this]; exact hR
      clear hR hf hu CC hf2
      go_wp2_with fail
      refine C1.out.mono ?_
      rintro e w' ⟨rfl, rfl⟩
      go_wp2
      go_end0
      exact ⟨rfl, HT.out⟩
    · obtain ⟨i, e0, rfl, hi⟩ := hR.opn_some (x := y) (by simp)
      have hu' : σ.dropL (fun s => !q s) ((zs ++ [some i]).reverse) = if (!q (σ.nm i)) = true then σ.dropL (fun s => !q s) zs.reverse else some i :: zs.reverse := by rw [List.reverse_append]; rfl
      rw [hu'] at hu
      have hcur : Ab.current { σ with opn := zs ++ [some i] } q = q (σ.nm i) := by unfold Ab.current Ab.last; rw [last_snoc]; rfl
      rw [hcur] at CC
      have HCC := hide CC
      have HU := hide hu
      have HFR := hide hf
      have HF2 := hide hf2
      have CP := hide (o_pop hR)
      obtain ⟨m, hm⟩ : ∃ m, m = (zs ++ [some i]).length := ⟨_, rfl⟩
      have hpos : (0 : Int) < (m : Int) := by rw [hm]; simp
      have HM := hide (show m = zs.length + 1 by rw [hm]; simp)
      dsimp only at HZ C1
      rw [← hm] at C1 HZ
      cases hqq : q (σ.nm i) with
      | true =>
        rw [hqq] at HCC HU
        have HT : Hid (To E L (σ.clearTo p) w wr) := by
          refine HT0.out wr ⟨L1, E1.out, ?_, hf⟩
          have : (σ.dropL (fun s => !q s) σ.opn.reverse).reverse = zs ++ [some i] := by rw [← HU.out]; simp
          rw [this]; exact hR
        clear hR hf hf2 hu hu' CC hi hm hcur hqq
        go_wp2_with fail
        refine C1.out.mono ?_
        rintro e w' ⟨rfl, rfl⟩
        go_wp2_with fail
        refine HCC.out.mono ?_
        rintro e w' ⟨rfl, rfl⟩
        go_wp2
        go_end0
        exact ⟨rfl, HT.out⟩
      | false =>
        rw [hqq] at HCC HU
        clear hR hf hf2 hu hu' CC hi hm hcur hqq
        go_wp2_with fail
        refine C1.out.mono ?_
        rintro e w' ⟨rfl, rfl⟩
        go_wp2_with fail
        refine HCC.out.mono ?_
        rintro e w' ⟨rfl, rfl⟩
        go_wp2_with fail
        refine CP.out.mono ?_
        rintro e w3 ⟨rfl, L2, e2, hR2, hf3⟩
        try dsimp only at hR2
        rw [List.dropLast_concat] at hR2
        have HZ2 := hide hR2.lenO
        have HP : Hid (Pops E L σ w zs w3) := ⟨L2, e2.trans E1.out, hR2, HFR.out.trans hf3⟩
        have HF3 := hide (HF2.out.trans hf3)
        clear hR2 hf3 e2
        go_wp2
        go_roundw
        case rel => exact ⟨zs, by rw [← HU.out]; rfl, HF3.out, HP.out⟩
        case measure => rw [HZ2.out, HZ.out, HM.out]; simp
theorem Rel.implied {E : Env} {L : Loc} {σ : Ab} {w : World} (h : Rel E L σ w) : ∃ f a l, w.cell? ⟨E.bB, 185, none⟩ = some (.func f a l) ∧ Ask E.bm (.func f a l) pImplied w := by
  obtain ⟨v, hv, ha⟩ := h.env.impl
  obtain ⟨k, lb, rfl, _, _⟩ := ha.call
  exact ⟨_, _, _, h.low (by decide) hv, ha.fr' h.fr⟩
theorem Rel.special {E : Env} {L : Loc} {σ : Ab} {w : World} (h : Rel E L σ w) : ∃ f a l, w.cell? ⟨E.bB, 184, none⟩ = some (.func f a l) ∧ Ask E.bm (.func f a l) pSpecial w := by
  obtain ⟨v, hv, ha⟩ := h.env.spec
  obtain ⟨k, lb, rfl, _, _⟩ := ha.call
  exact ⟨_, _, _, h.low (by decide) hv, ha.fr' h.fr⟩
theorem Rel.bounds {E : Env} {L : Loc} {σ : Ab} {w : World} (h : Rel E L σ w) : ∃ f a l, w.cell? ⟨E.bB, 186, none⟩ = some (.func f a l) ∧ Ask E.bm (.func f a l) pBounds w := by
  obtain ⟨v, hv, ha⟩ := h.env.bnds
  obtain ⟨k, lb, rfl, _, _⟩ := ha.call
  exact ⟨_, _, _, h.low (by decide) hv, ha.fr' h.fr⟩
set_option maxHeartbeats 2000000 in
theorem impliedEnds_ok {E : Env} {L : Loc} {σ : Ab} {w : World} (h : Rel E L σ w) :
    Calls Tryz.prog 288 #[Bp E] w fun e w' => e = .returned (.tuple #[]) ∧ To E L σ.impliedEnds w w' := by
  have H0 : Hid (Pops E L σ w σ.opn w) := hide ⟨L, rfl, h, Fr.refl w⟩
  have HT0 : Hid (∀ wr, (∃ L1, L1.at' = L.at' ∧ Rel E L1 { σ with opn := (σ.dropL pImplied σ.opn.reverse).reverse } wr ∧ Fr E.bs w wr) → To E L σ.impliedEnds w wr) := by
    rintro wr ⟨L1, e1, hR, hf⟩
    exact ⟨L1, e1, hR, hf⟩
  clear h
  generalize hq : pImplied = q at HT0
  have HQ := hide hq
  clear hq
  go_enter Tryz.func288, Tryz.ntmps288
  go_wp2
  go_loopw [] (fun wr => ∃ ys, σ.dropL q ys.reverse = σ.dropL q σ.opn.reverse ∧ Pops E L σ w ys wr) (fun wr => lenAt ⟨E.bB, 188, none⟩ wr)
  case atStart => exact ⟨_, rfl, H0.out⟩
  case round =>
    obtain ⟨ys, hu, ⟨L1, e1, hR, hf⟩⟩ := hrel
    have E1 := hide e1
    clear e1
    have HZ := hide hR.lenO
    obtain ⟨f1, a1, l1, c1, ha1⟩ := hR.implied
    rw [HQ.out] at ha1
    have CC := current_ok hR _ _ ha1
    rcases snoc_cases ys with rfl | ⟨zs, y, rfl⟩
    · have HT : Hid (To E L σ.impliedEnds w wr) := by
        refine HT0.out wr ⟨L1, E1.out, ?_, hf⟩
        have : (σ.dropL q σ.opn.reverse).reverse = [] := by rw [← hu]; rfl
        rw [this]; exact hR
      have hcur : Ab.current { σ with opn := [] } q = false := rfl
      rw [hcur] at CC
      have HCC := hide CC
      clear hR hf hu CC ha1
      go_wp2_with fail
      refine HCC.out.mono ?_
      rintro e w' ⟨rfl, rfl⟩
      go_wp2
      go_end0
      exact ⟨rfl, HT.out⟩
    · obtain ⟨i, e0, rfl, hi⟩ := hR.opn_some (x := y) (by simp)
      have hu' : σ.dropL q ((zs ++ [some i]).reverse) = if q (σ.nm i) = true then σ.dropL q zs.reverse else some i :: zs.reverse := by rw [List.reverse_append]; rfl
      rw [hu'] at hu
      have hcur : Ab.current { σ with opn := zs ++ [some i] } q = q (σ.nm i) := by unfold Ab.current Ab.last; rw [last_snoc]; rfl
      rw [hcur] at CC
      have HCC := hide CC
      have HU := hide hu
      have HFR := hide hf
      have CP := hide (o_pop hR)
      obtain ⟨m, hm⟩ : ∃ m, m = (zs ++ [some i]).length := ⟨_, rfl⟩
      have HM := hide (show m = zs.length + 1 by rw [hm]; simp)
      dsimp only at HZ
      rw [← hm] at HZ
      cases hqq : q (σ.nm i) with
      | false =>
        rw [hqq] at HCC HU
        have HT : Hid (To E L σ.impliedEnds w wr) := by
          refine HT0.out wr ⟨L1, E1.out, ?_, hf⟩
          have : (σ.dropL q σ.opn.reverse).reverse = zs ++ [some i] := by rw [← HU.out]; simp
          rw [this]; exact hR
        clear hR hf hu hu' CC hi hm hcur hqq ha1
        go_wp2_with fail
        refine HCC.out.mono ?_
        rintro e w' ⟨rfl, rfl⟩
        go_wp2
        go_end0
        exact ⟨rfl, HT.out⟩
      | true =>
        rw [hqq] at HCC HU
        clear hR hf hu hu' CC hi hm hcur hqq ha1
        go_wp2_with fail
        refine HCC.out.mono ?_
        rintro e w' ⟨rfl, rfl⟩
        go_wp2_with fail
        refine CP.out.mono ?_
        rintro e w3 ⟨rfl, L2, e2, hR2, hf3⟩
        try dsimp only at hR2
        rw [List.dropLast_concat] at hR2
        have HZ2 := hide hR2.lenO
        have HP : Hid (Pops E L σ w zs w3) := ⟨L2, e2.trans E1.out, hR2, HFR.out.trans hf3⟩
        clear hR2 hf3 e2
        go_wp2
        go_roundw
        case rel => exact ⟨zs, by rw [← HU.out]; rfl, HP.out⟩
        case measure => rw [HZ2.out, HZ.out, HM.out]; simp
end Go.Proofs.YtlhhgenpcjjajaaGreatDoor
