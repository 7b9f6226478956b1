import Derived.Test.YtlhhgenpcjjajaaGreatDoorNwA
set_option linter.unusedSimpArgs false
set_option linter.unusedVariables false
namespace Go.Proofs.YtlhhgenpcjjajaaGreatDoor
open Go.RowKit
theorem BCells.set_opn {E : Env} {L : Loc} {σ : Ab} {C : Array Value} (h : BCells E L σ C) (v : Value) (zs : List (Option Nat)) : BCells E { L with ov := v } { σ with opn := zs } (C.setIfInBounds 188 v) := by
  refine ⟨by simp [h.size], fun i hi => (Array.getElem?_setIfInBounds_ne (by omega)).trans (h.low i hi), Array.getElem?_setIfInBounds_self_of_lt (by rw [h.size]; decide), (Array.getElem?_setIfInBounds_ne (by decide)).trans h.act, (Array.getElem?_setIfInBounds_ne (by decide)).trans h.head, (Array.getElem?_setIfInBounds_ne (by decide)).trans h.form, (Array.getElem?_setIfInBounds_ne (by decide)).trans h.mode, (Array.getElem?_setIfInBounds_ne (by decide)).trans h.kept, (Array.getElem?_setIfInBounds_ne (by decide)).trans h.wait, (Array.getElem?_setIfInBounds_ne (by decide)).trans h.fost, (Array.getElem?_setIfInBounds_ne (by decide)).trans h.quirks, (Array.getElem?_setIfInBounds_ne (by decide)).trans h.at', (Array.getElem?_setIfInBounds_ne (by decide)).trans h.behind⟩
theorem BCells.set_act {E : Env} {L : Loc} {σ : Ab} {C : Array Value} (h : BCells E L σ C) (v : Value) (zs : List (Option Nat)) : BCells E { L with cv := v } { σ with act := zs } (C.setIfInBounds 189 v) := by
  refine ⟨by simp [h.size], fun i hi => (Array.getElem?_setIfInBounds_ne (by omega)).trans (h.low i hi), (Array.getElem?_setIfInBounds_ne (by decide)).trans h.opn, Array.getElem?_setIfInBounds_self_of_lt (by rw [h.size]; decide), (Array.getElem?_setIfInBounds_ne (by decide)).trans h.head, (Array.getElem?_setIfInBounds_ne (by decide)).trans h.form, (Array.getElem?_setIfInBounds_ne (by decide)).trans h.mode, (Array.getElem?_setIfInBounds_ne (by decide)).trans h.kept, (Array.getElem?_setIfInBounds_ne (by decide)).trans h.wait, (Array.getElem?_setIfInBounds_ne (by decide)).trans h.fost, (Array.getElem?_setIfInBounds_ne (by decide)).trans h.quirks, (Array.getElem?_setIfInBounds_ne (by decide)).trans h.at', (Array.getElem?_setIfInBounds_ne (by decide)).trans h.behind⟩
theorem BCells.set_head {E : Env} {L : Loc} {σ : Ab} {C : Array Value} (h : BCells E L σ C) (x : Option Nat) : BCells E L { σ with head := x } (C.setIfInBounds 190 (enc (omap L.at' x))) := by
  refine ⟨by simp [h.size], fun i hi => (Array.getElem?_setIfInBounds_ne (by omega)).trans (h.low i hi), (Array.getElem?_setIfInBounds_ne (by decide)).trans h.opn, (Array.getElem?_setIfInBounds_ne (by decide)).trans h.act, Array.getElem?_setIfInBounds_self_of_lt (by rw [h.size]; decide), (Array.getElem?_setIfInBounds_ne (by decide)).trans h.form, (Array.getElem?_setIfInBounds_ne (by decide)).trans h.mode, (Array.getElem?_setIfInBounds_ne (by decide)).trans h.kept, (Array.getElem?_setIfInBounds_ne (by decide)).trans h.wait, (Array.getElem?_setIfInBounds_ne (by decide)).trans h.fost, (Array.getElem?_setIfInBounds_ne (by decide)).trans h.quirks, (Array.getElem?_setIfInBounds_ne (by decide)).trans h.at', (Array.getElem?_setIfInBounds_ne (by decide)).trans h.behind⟩
theorem BCells.set_mode {E : Env} {L : Loc} {σ : Ab} {C : Array Value} (h : BCells E L σ C) (x : Nat) : BCells E L { σ with mode := x } (C.setIfInBounds 192 (.int .i64 (x : Int))) := by
  refine ⟨by simp [h.size], fun i hi => (Array.getElem?_setIfInBounds_ne (by omega)).trans (h.low i hi), (Array.getElem?_setIfInBounds_ne (by decide)).trans h.opn, (Array.getElem?_setIfInBounds_ne (by decide)).trans h.act, (Array.getElem?_setIfInBounds_ne (by decide)).trans h.head, (Array.getElem?_setIfInBounds_ne (by decide)).trans h.form, Array.getElem?_setIfInBounds_self_of_lt (by rw [h.size]; decide), (Array.getElem?_setIfInBounds_ne (by decide)).trans h.kept, (Array.getElem?_setIfInBounds_ne (by decide)).trans h.wait, (Array.getElem?_setIfInBounds_ne (by decide)).trans h.fost, (Array.getElem?_setIfInBounds_ne (by decide)).trans h.quirks, (Array.getElem?_setIfInBounds_ne (by decide)).trans h.at', (Array.getElem?_setIfInBounds_ne (by decide)).trans h.behind⟩
theorem BCells.set_quirks {E : Env} {L : Loc} {σ : Ab} {C : Array Value} (h : BCells E L σ C) (x : Bool) : BCells E L { σ with quirks := x } (C.setIfInBounds 196 (.bool x)) := by
  refine ⟨by simp [h.size], fun i hi => (Array.getElem?_setIfInBounds_ne (by omega)).trans (h.low i hi), (Array.getElem?_setIfInBounds_ne (by decide)).trans h.opn, (Array.getElem?_setIfInBounds_ne (by decide)).trans h.act, (Array.getElem?_setIfInBounds_ne (by decide)).trans h.head, (Array.getElem?_setIfInBounds_ne (by decide)).trans h.form, (Array.getElem?_setIfInBounds_ne (by decide)).trans h.mode, (Array.getElem?_setIfInBounds_ne (by decide)).trans h.kept, (Array.getElem?_setIfInBounds_ne (by decide)).trans h.wait, (Array.getElem?_setIfInBounds_ne (by decide)).trans h.fost, Array.getElem?_setIfInBounds_self_of_lt (by rw [h.size]; decide), (Array.getElem?_setIfInBounds_ne (by decide)).trans h.at', (Array.getElem?_setIfInBounds_ne (by decide)).trans h.behind⟩
theorem BCells.set_at {E : Env} {L : Loc} {σ : Ab} {C : Array Value} (h : BCells E L σ C) (x : Nat) : BCells E L { σ with at' := x } (C.setIfInBounds 197 (.int .i64 (x : Int))) := by
  refine ⟨by simp [h.size], fun i hi => (Array.getElem?_setIfInBounds_ne (by omega)).trans (h.low i hi), (Array.getElem?_setIfInBounds_ne (by decide)).trans h.opn, (Array.getElem?_setIfInBounds_ne (by decide)).trans h.act, (Array.getElem?_setIfInBounds_ne (by decide)).trans h.head, (Array.getElem?_setIfInBounds_ne (by decide)).trans h.form, (Array.getElem?_setIfInBounds_ne (by decide)).trans h.mode, (Array.getElem?_setIfInBounds_ne (by decide)).trans h.kept, (Array.getElem?_setIfInBounds_ne (by decide)).trans h.wait, (Array.getElem?_setIfInBounds_ne (by decide)).trans h.fost, (Array.getElem?_setIfInBounds_ne (by decide)).trans h.quirks, Array.getElem?_setIfInBounds_self_of_lt (by rw [h.size]; decide), (Array.getElem?_setIfInBounds_ne (by decide)).trans h.behind⟩
theorem BCells.set_behind {E : Env} {L : Loc} {σ : Ab} {C : Array Value} (h : BCells E L σ C) (x : Bool) : BCells E L { σ with behind := x } (C.setIfInBounds 198 (.bool x)) := by
  refine ⟨by simp [h.size], fun i hi => (Array.getElem?_setIfInBounds_ne (by omega)).trans (h.low i hi), (Array.getElem?_setIfInBounds_ne (by decide)).trans h.opn, (Array.getElem?_setIfInBounds_ne (by decide)).trans h.act, (Array.getElem?_setIfInBounds_ne (by decide)).trans h.head, (Array.getElem?_setIfInBounds_ne (by decide)).trans h.form, (Array.getElem?_setIfInBounds_ne (by decide)).trans h.mode, (Array.getElem?_setIfInBounds_ne (by decide)).trans h.kept, (Array.getElem?_setIfInBounds_ne (by decide)).trans h.wait, (Array.getElem?_setIfInBounds_ne (by decide)).trans h.fost, (Array.getElem?_setIfInBounds_ne (by decide)).trans h.quirks, (Array.getElem?_setIfInBounds_ne (by decide)).trans h.at', Array.getElem?_setIfInBounds_self_of_lt (by rw [h.size]; decide)⟩
theorem NodeAt.loc {bs : Nat} {L L' : Loc} {w : World} {i : Nat} {nd : ANd} (h : NodeAt bs L w i nd) (e1 : L'.at' = L.at') (e2 : L'.av = L.av) (e3 : L'.kv = L.kv) : NodeAt bs L' w i nd := by
  cases nd <;> (unfold NodeAt at h ⊢; simp only [e1, e2, e3]; exact h)
theorem Rel.bcell {E : Env} {L : Loc} {σ : Ab} {w : World} (h : Rel E L σ w) : ∃ C, w.heap[E.bB]? = some (.cells C 180 (0, 0)) := by
  obtain ⟨C, hb, _⟩ := h.blk; exact ⟨C, hb⟩
theorem Rel.free {E : Env} {L : Loc} {σ : Ab} {w : World} (h : Rel E L σ w) (j : Nat) : w.frozen? ⟨E.bB, j, none⟩ = false := by
  obtain ⟨C, hb⟩ := h.bcell; exact free_at hb j
theorem Rel.lt {E : Env} {L : Loc} {σ : Ab} {w : World} (h : Rel E L σ w) : E.bB < w.heap.size := by
  obtain ⟨C, hb⟩ := h.bcell; exact lt_of_block hb
theorem Rel.low {E : Env} {L : Loc} {σ : Ab} {w : World} (h : Rel E L σ w) {j : Nat} {v : Value} (hj : j < 188) (hv : E.C0[j]? = some v) : w.cell? ⟨E.bB, j, none⟩ = some v := by
  obtain ⟨C, hb, hC⟩ := h.blk; rw [cell_at hb]; exact (hC.low j hj).trans hv
theorem Rel.c190 {E : Env} {L : Loc} {σ : Ab} {w : World} (h : Rel E L σ w) : w.cell? ⟨E.bB, 190, none⟩ = some (enc (omap L.at' σ.head)) := by
  obtain ⟨C, hb, hC⟩ := h.blk; rw [cell_at hb]; exact hC.head
theorem Rel.c192 {E : Env} {L : Loc} {σ : Ab} {w : World} (h : Rel E L σ w) : w.cell? ⟨E.bB, 192, none⟩ = some (.int .i64 (σ.mode : Int)) := by
  obtain ⟨C, hb, hC⟩ := h.blk; rw [cell_at hb]; exact hC.mode
theorem Rel.c195 {E : Env} {L : Loc} {σ : Ab} {w : World} (h : Rel E L σ w) : w.cell? ⟨E.bB, 195, none⟩ = some (.bool σ.fostering) := by
  obtain ⟨C, hb, hC⟩ := h.blk; rw [cell_at hb]; exact hC.fost
theorem Rel.c196 {E : Env} {L : Loc} {σ : Ab} {w : World} (h : Rel E L σ w) : w.cell? ⟨E.bB, 196, none⟩ = some (.bool σ.quirks) := by
  obtain ⟨C, hb, hC⟩ := h.blk; rw [cell_at hb]; exact hC.quirks
theorem Rel.c197 {E : Env} {L : Loc} {σ : Ab} {w : World} (h : Rel E L σ w) : w.cell? ⟨E.bB, 197, none⟩ = some (.int .i64 (σ.at' : Int)) := by
  obtain ⟨C, hb, hC⟩ := h.blk; rw [cell_at hb]; exact hC.at'
theorem Rel.c198 {E : Env} {L : Loc} {σ : Ab} {w : World} (h : Rel E L σ w) : w.cell? ⟨E.bB, 198, none⟩ = some (.bool σ.behind) := by
  obtain ⟨C, hb, hC⟩ := h.blk; rw [cell_at hb]; exact hC.behind
theorem Rel.kept0 {E : Env} {L : Loc} {σ : Ab} {w w' : World} (h : Rel E L σ w) (hk : Kept [] w w') : Rel E L σ w' := by
  have kt : KT E.bs [] w w' := .of_kept0 hk
  obtain ⟨C, hb, hC⟩ := h.blk
  exact { h with
    fr := h.fr.trans (.of_kept0 hk)
    nds := fun i nd hi => (h.nds i nd hi).kt kt (by simp)
    blk := ⟨C, kt.at hb (by simp), hC⟩
    orow := kt.row h.orow (by simp)
    crow := kt.row h.crow (by simp)
    wrow := kt.row h.wrow (by simp)
    rd := kt.at h.rd (by simp)
    tok := kt.row h.tok (by simp) }
theorem Rel.drew {E : Env} {L : Loc} {σ : Ab} {w : World} (h : Rel E L σ w) : Rel E L σ w.drew := h.kept0 (Kept.refl _ _).drew
theorem Rel.bw {E : Env} {L : Loc} {σ : Ab} {w : World} (h : Rel E L σ w) : E.bs ≤ w.heap.size := Nat.le_trans h.bz h.fr.size
def To (E : Env) (L : Loc) (σ' : Ab) (w w' : World) : Prop := ∃ L', L'.at' = L.at' ∧ Rel E L' σ' w' ∧ Fr E.bs w w'
theorem Rel.to {E : Env} {L : Loc} {σ : Ab} {w w' : World} (h : Rel E L σ w') (hf : Fr E.bs w w') : To E L σ w w' := ⟨L, rfl, h, hf⟩
theorem Rel.store {E : Env} {L : Loc} {σ σ' : Ab} {w : World} (h : Rel E L σ w) (j : Nat) (u : Value) (hB : ∀ C, BCells E L σ C → BCells E L σ' (C.setIfInBounds j u)) (hn : σ'.nodes = σ.nodes) (ho : σ'.opn = σ.opn) (ha : σ'.act = σ.act) (hw : σ'.waiting = σ.waiting) (h1 : σ'.ofT = σ.ofT) (h2 : σ'.plainT = σ.plainT) (h3 : σ'.fresh = σ.fresh) (hl1 : σ'.dep = σ.dep) (hl2 : σ'.frm = σ.frm) (hl3 : σ'.atl = σ.atl) (hwf : Wf σ') : Rel E L σ' (w.setCell ⟨E.bB, j, none⟩ u) := by
  obtain ⟨C, hb, hC⟩ := h.blk
  have hk : Kept [E.bB] w (w.setCell ⟨E.bB, j, none⟩ u) := (Kept.refl _ w).setCell (.inl (by simp)) u
  have kt : KT E.bs [180] w (w.setCell ⟨E.bB, j, none⟩ u) := .of_kept hk (fun k hk _ => by simp at hk; subst hk; exact ⟨⟨_, _, _, hb, by simp⟩, h.bB⟩)
  have he : ∀ i, σ'.el? i = σ.el? i := fun i => by unfold Ab.el?; rw [hn]
  exact {
    fr := h.fr.trans (kt.fr (by decide))
    env := h.env
    lim := by rw [hl1, hl2, hl3]; exact h.lim
    nds := fun i nd hi => (h.nds i nd (by rw [← hn]; exact hi)).kt kt (by decide)
    inj := h.inj
    bz := h.bz
    bB := h.bB
    bR := h.bR
    bN := by rw [hn]; exact h.bN
    kne := by rw [hn]; exact h.kne
    kel := fun i hi he' => h.kel i (by rw [← hn]; exact hi) (by rw [← he]; exact he')
    uq := fun i j e g hi hg hj => h.uq i j e g (by rw [← he]; exact hi) hg (by rw [← hn]; exact hj)
    ael := fun i hi he' => h.ael i (by rw [← hn]; exact hi) (by rw [← he]; exact he')
    wf := hwf
    blk := ⟨_, block_setCell hb j u, hB C hC⟩
    orow := by rw [ho]; exact kt.row h.orow (by decide)
    crow := by rw [ha]; exact kt.row h.crow (by decide)
    ocn := h.ocn
    ole := by rw [ho]; exact h.ole
    cle := by rw [ha]; exact h.cle
    wrow := by rw [hw]; exact kt.row h.wrow (by decide)
    wle := by rw [hw]; exact h.wle
    rd := by rw [h1, h2]; exact kt.at h.rd (by decide)
    rsz := h.rsz
    tok := kt.row h.tok (by decide)
    tle := h.tle
    frs := by rw [h3, hn]; exact h.frs }
theorem Rel.set_head {E : Env} {L : Loc} {σ : Ab} {w : World} (h : Rel E L σ w) (x : Option Nat) (hx : σ.isEl x = true) : Rel E L { σ with head := x } (w.setCell ⟨E.bB, 190, none⟩ (enc (omap L.at' x))) :=
  h.store 190 _ (fun C hC => hC.set_head x) rfl rfl rfl rfl rfl rfl rfl rfl rfl rfl ⟨h.wf.opn, h.wf.act, hx, h.wf.form, h.wf.par, h.wf.kids, h.wf.doc⟩
theorem Rel.set_mode {E : Env} {L : Loc} {σ : Ab} {w : World} (h : Rel E L σ w) (x : Nat) : Rel E L { σ with mode := x } (w.setCell ⟨E.bB, 192, none⟩ (.int .i64 (x : Int))) :=
  h.store 192 _ (fun C hC => hC.set_mode x) rfl rfl rfl rfl rfl rfl rfl rfl rfl rfl ⟨h.wf.opn, h.wf.act, h.wf.head, h.wf.form, h.wf.par, h.wf.kids, h.wf.doc⟩
theorem Rel.set_quirks {E : Env} {L : Loc} {σ : Ab} {w : World} (h : Rel E L σ w) (x : Bool) : Rel E L { σ with quirks := x } (w.setCell ⟨E.bB, 196, none⟩ (.bool x)) :=
  h.store 196 _ (fun C hC => hC.set_quirks x) rfl rfl rfl rfl rfl rfl rfl rfl rfl rfl ⟨h.wf.opn, h.wf.act, h.wf.head, h.wf.form, h.wf.par, h.wf.kids, h.wf.doc⟩
theorem Rel.set_at {E : Env} {L : Loc} {σ : Ab} {w : World} (h : Rel E L σ w) (x : Nat) : Rel E L { σ with at' := x } (w.setCell ⟨E.bB, 197, none⟩ (.int .i64 (x : Int))) :=
  h.store 197 _ (fun C hC => hC.set_at x) rfl rfl rfl rfl rfl rfl rfl rfl rfl rfl ⟨h.wf.opn, h.wf.act, h.wf.head, h.wf.form, h.wf.par, h.wf.kids, h.wf.doc⟩
theorem Rel.set_behind {E : Env} {L : Loc} {σ : Ab} {w : World} (h : Rel E L σ w) (x : Bool) : Rel E L { σ with behind := x } (w.setCell ⟨E.bB, 198, none⟩ (.bool x)) :=
  h.store 198 _ (fun C hC => hC.set_behind x) rfl rfl rfl rfl rfl rfl rfl rfl rfl rfl ⟨h.wf.opn, h.wf.act, h.wf.head, h.wf.form, h.wf.par, h.wf.kids, h.wf.doc⟩
theorem Rel.isEl {E : Env} {L : Loc} {σ : Ab} {w : World} (h : Rel E L σ w) {x : Option Nat} (hx : σ.isEl x = true) : IsEl w (omap L.at' x) := by
  intro k hk
  cases x with
  | none => cases hk
  | some i =>
    obtain rfl := Option.some.inj hk
    unfold Ab.isEl at hx
    obtain ⟨e, he⟩ := Option.isSome_iff_exists.1 hx
    exact ⟨_, (h.nds i _ (Ab.node_of_el he)).1.blk⟩
theorem repl_sub {xs : List (Option Nat)} {x y z : Option Nat} (h : z ∈ repl xs x y) : z ∈ xs ∨ z = y := by
  unfold repl at h
  split at h
  · rcases List.mem_or_eq_of_mem_set h with h | h
    · exact .inl h
    · exact .inr h
  · exact .inl h
theorem Rel.lstO {E : Env} {L : Loc} {σ : Ab} {w : World} (h : Rel E L σ w) : ∃ C, Lst E.bs E.bB 188 180 C L.ov (σ.opn.map (omap L.at')) w ∧ BCells E L σ C := by
  obtain ⟨C, hb, hC⟩ := h.blk
  refine ⟨C, ⟨hb, hC.opn, ?_, by decide, by simpa using h.ole⟩, hC⟩
  simpa [List.map_map, Function.comp_def] using h.orow
theorem Rel.elO {E : Env} {L : Loc} {σ : Ab} {w : World} (h : Rel E L σ w) : ∀ x ∈ σ.opn.map (omap L.at'), IsEl w x := by
  intro x hx
  obtain ⟨y, hy, rfl⟩ := List.mem_map.1 hx
  exact h.isEl (Ab.isEl_of (h.wf.opn y hy))
theorem Rel.turnsO {E : Env} {L : Loc} {σ : Ab} {w w' : World} (h : Rel E L σ w) {C : Array Value} (hL : Lst E.bs E.bB 188 180 C L.ov (σ.opn.map (omap L.at')) w) (hC : BCells E L σ C) {zs : List (Option Nat)} (ht : Turns E.bs E.bB 188 180 C L.ov (zs.map (omap L.at')) w w') (hz : ∀ x ∈ zs, σ.isElS x = true) : To E L { σ with opn := zs } w w' := by
  obtain ⟨v', L1, k1, f1⟩ := ht
  have kt : KT E.bs [180, 72] w w' := .of_kept k1 (fun k hk _ => by
    rcases List.mem_cons.1 hk with rfl | hk
    · exact ⟨⟨_, _, _, hL.blk, by simp⟩, h.bB⟩
    · obtain ⟨c, m, hc⟩ := row_typ hL.row (by simpa using hk)
      exact ⟨⟨_, _, _, hc, by simp⟩, (hL.row.lt k (by simpa using hk)).1⟩)
  have hcv : ∀ g, L.cv.ownBlock = some g → g ∉ E.bB :: L.ov.ownBlock.toList := by
    intro g hg hm
    rcases List.mem_cons.1 hm with rfl | hm
    · exact row_ne h.crow hL.blk (by decide) hg
    · exact (h.ocn : ∀ g, L.ov.ownBlock = some g → L.cv.ownBlock ≠ some g) g (by simpa using hm) hg
  refine ⟨{ L with ov := v' }, rfl, ?_, kt.fr (by decide)⟩
  exact {
    fr := h.fr.trans (kt.fr (by decide))
    env := h.env
    lim := h.lim
    nds := fun i nd hi => ((h.nds i nd hi).kt kt (by decide)).loc rfl rfl rfl
    inj := h.inj
    bz := h.bz
    bB := h.bB
    bR := h.bR
    bN := h.bN
    kne := h.kne
    kel := h.kel
    uq := h.uq
    ael := h.ael
    wf := { h.wf with opn := hz }
    blk := ⟨_, L1.blk, hC.set_opn v' zs⟩
    orow := by simpa [List.map_map, Function.comp_def] using L1.row
    crow := k1.ownsRow h.crow hcv
    ocn := by
      intro g h1 h2
      have hlt := row_lt h.crow (g := g) h2
      rcases f1 with e | e
      · exact h.ocn g (by rw [← e]; exact h1) h2
      · have := e g h1; omega
    ole := by simpa using L1.le
    cle := h.cle
    wrow := kt.row h.wrow (by decide)
    wle := h.wle
    rd := kt.at h.rd (by decide)
    rsz := h.rsz
    tok := kt.row h.tok (by decide)
    tle := h.tle
    frs := h.frs }
theorem o_len {E : Env} {L : Loc} {σ : Ab} {w : World} (h : Rel E L σ w) :
    Calls Tryz.prog 269 #[.pointer (some ⟨E.bB, 188, none⟩)] w fun e w' => e = .returned (.int .i64 σ.opn.length) ∧ w' = w := by
  obtain ⟨C, hL, hC⟩ := h.lstO
  have := l_len E.bs E.bB 188 _ C _ _ w hL
  rwa [List.length_map] at this
theorem o_at {E : Env} {L : Loc} {σ : Ab} {w : World} (h : Rel E L σ w) (n : Int) :
    Calls Tryz.prog 248 #[.pointer (some ⟨E.bB, 188, none⟩), .int .i64 n] w fun e w' => e = .returned (enc (omap L.at' (getAt σ.opn n))) ∧ w' = w := by
  obtain ⟨C, hL, hC⟩ := h.lstO
  have := l_at E.bs E.bB 188 _ C _ _ n w hL
  rwa [getAt_map] at this
theorem o_last {E : Env} {L : Loc} {σ : Ab} {w : World} (h : Rel E L σ w) :
    Calls Tryz.prog 179 #[.pointer (some ⟨E.bB, 188, none⟩)] w fun e w' => e = .returned (enc (omap L.at' (getAt σ.opn ((σ.opn.length : Int) - 1)))) ∧ w' = w := by
  obtain ⟨C, hL, hC⟩ := h.lstO
  have := l_last E.bs E.bB 188 _ C _ _ w hL
  rwa [getAt_map, List.length_map] at this
theorem o_has {E : Env} {L : Loc} {σ : Ab} {w : World} (h : Rel E L σ w) (x : Option Nat) (hx : σ.isEl x = true) :
    Calls Tryz.prog 322 #[.pointer (some ⟨E.bB, 188, none⟩), enc (omap L.at' x)] w fun e w' => e = .returned (.bool (decide (x ∈ σ.opn))) ∧ w' = w := by
  obtain ⟨C, hL, hC⟩ := h.lstO
  have := l_has E.bs E.bB 188 _ C _ _ (omap L.at' x) w hL h.elO (h.isEl hx)
  rwa [decide_eq_decide.2 (mem_map h.inj σ.opn x)] at this
theorem o_rightAhead {E : Env} {L : Loc} {σ : Ab} {w : World} (h : Rel E L σ w) (x : Option Nat) (hx : σ.isEl x = true) :
    Calls Tryz.prog 246 #[.pointer (some ⟨E.bB, 188, none⟩), enc (omap L.at' x)] w fun e w' => e = .returned (enc (omap L.at' (getAt σ.opn (posOf σ.opn x - 1)))) ∧ w' = w := by
  obtain ⟨C, hL, hC⟩ := h.lstO
  have := l_rightAhead E.bs E.bB 188 _ C _ _ (omap L.at' x) w hL h.elO (h.isEl hx)
  rwa [posOf_map h.inj, getAt_map] at this
theorem o_push {E : Env} {L : Loc} {σ : Ab} {w : World} (h : Rel E L σ w) (x : Option Nat) (hx : σ.isElS x = true) (hl : σ.opn.length < 4096) :
    Calls Tryz.prog 271 #[.pointer (some ⟨E.bB, 188, none⟩), enc (omap L.at' x)] w fun e w' => e = .returned (.tuple #[]) ∧ To E L { σ with opn := σ.opn ++ [x] } w w' := by
  obtain ⟨C, hL, hC⟩ := h.lstO
  refine (l_push E.bs E.bB 188 _ C _ _ (omap L.at' x) w hL (by simpa using hl) h.bw).mono ?_
  rintro e w' ⟨rfl, ht⟩
  refine ⟨rfl, h.turnsO hL hC (by simpa using ht) fun y hy => ?_⟩
  rcases List.mem_append.1 hy with hy | hy
  · exact h.wf.opn y hy
  · rw [List.mem_singleton.1 hy]; exact hx
theorem o_pop {E : Env} {L : Loc} {σ : Ab} {w : World} (h : Rel E L σ w) :
    Calls Tryz.prog 184 #[.pointer (some ⟨E.bB, 188, none⟩)] w fun e w' => e = .returned (enc (omap L.at' (getAt σ.opn ((σ.opn.length : Int) - 1)))) ∧ To E L { σ with opn := σ.opn.dropLast } w w' := by
  obtain ⟨C, hL, hC⟩ := h.lstO
  refine (l_pop E.bs E.bB 188 _ C _ _ w hL).mono ?_
  rintro e w' ⟨rfl, ht⟩
  refine ⟨by rw [getAt_map, List.length_map], h.turnsO hL hC (by rw [List.map_dropLast]; exact ht) fun y hy => h.wf.opn y (List.dropLast_subset _ hy)⟩
theorem Rel.lstA {E : Env} {L : Loc} {σ : Ab} {w : World} (h : Rel E L σ w) : ∃ C, Lst E.bs E.bB 189 180 C L.cv (σ.act.map (omap L.at')) w ∧ BCells E L σ C := by
  obtain ⟨C, hb, hC⟩ := h.blk
  refine ⟨C, ⟨hb, hC.act, ?_, by decide, by simpa using h.cle⟩, hC⟩
  simpa [List.map_map, Function.comp_def] using h.crow
theorem Rel.elA {E : Env} {L : Loc} {σ : Ab} {w : World} (h : Rel E L σ w) : ∀ x ∈ σ.act.map (omap L.at'), IsEl w x := by
  intro x hx
  obtain ⟨y, hy, rfl⟩ := List.mem_map.1 hx
  exact h.isEl (h.wf.act y hy)
theorem Rel.turnsA {E : Env} {L : Loc} {σ : Ab} {w w' : World} (h : Rel E L σ w) {C : Array Value} (hL : Lst E.bs E.bB 189 180 C L.cv (σ.act.map (omap L.at')) w) (hC : BCells E L σ C) {zs : List (Option Nat)} (ht : Turns E.bs E.bB 189 180 C L.cv (zs.map (omap L.at')) w w') (hz : ∀ x ∈ zs, σ.isEl x = true) : To E L { σ with act := zs } w w' := by
  obtain ⟨v', L1, k1, f1⟩ := ht
  have kt : KT E.bs [180, 72] w w' := .of_kept k1 (fun k hk _ => by
    rcases List.mem_cons.1 hk with rfl | hk
    · exact ⟨⟨_, _, _, hL.blk, by simp⟩, h.bB⟩
    · obtain ⟨c, m, hc⟩ := row_typ hL.row (by simpa using hk)
      exact ⟨⟨_, _, _, hc, by simp⟩, (hL.row.lt k (by simpa using hk)).1⟩)
  have hcv : ∀ g, L.ov.ownBlock = some g → g ∉ E.bB :: L.cv.ownBlock.toList := by
    intro g hg hm
    rcases List.mem_cons.1 hm with rfl | hm
    · exact row_ne h.orow hL.blk (by decide) hg
    · exact ((fun g h1 h2 => h.ocn g h2 h1) : ∀ g, L.cv.ownBlock = some g → L.ov.ownBlock ≠ some g) g (by simpa using hm) hg
  refine ⟨{ L with cv := v' }, rfl, ?_, kt.fr (by decide)⟩
  exact {
    fr := h.fr.trans (kt.fr (by decide))
    env := h.env
    lim := h.lim
    nds := fun i nd hi => ((h.nds i nd hi).kt kt (by decide)).loc rfl rfl rfl
    inj := h.inj
    bz := h.bz
    bB := h.bB
    bR := h.bR
    bN := h.bN
    kne := h.kne
    kel := h.kel
    uq := h.uq
    ael := h.ael
    wf := { h.wf with act := hz }
    blk := ⟨_, L1.blk, hC.set_act v' zs⟩
    crow := by simpa [List.map_map, Function.comp_def] using L1.row
    orow := k1.ownsRow h.orow hcv
    ocn := by
      intro g h1 h2
      have hlt := row_lt h.orow (g := g) h1
      rcases f1 with e | e
      · exact h.ocn g h1 (by rw [← e]; exact h2)
      · have := e g h2; omega
    cle := by simpa using L1.le
    ole := h.ole
    wrow := kt.row h.wrow (by decide)
    wle := h.wle
    rd := kt.at h.rd (by decide)
    rsz := h.rsz
    tok := kt.row h.tok (by decide)
    tle := h.tle
    frs := h.frs }
theorem a_len {E : Env} {L : Loc} {σ : Ab} {w : World} (h : Rel E L σ w) :
    Calls Tryz.prog 269 #[.pointer (some ⟨E.bB, 189, none⟩)] w fun e w' => e = .returned (.int .i64 σ.act.length) ∧ w' = w := by
  obtain ⟨C, hL, hC⟩ := h.lstA
  have := l_len E.bs E.bB 189 _ C _ _ w hL
  rwa [List.length_map] at this
theorem a_at {E : Env} {L : Loc} {σ : Ab} {w : World} (h : Rel E L σ w) (n : Int) :
    Calls Tryz.prog 248 #[.pointer (some ⟨E.bB, 189, none⟩), .int .i64 n] w fun e w' => e = .returned (enc (omap L.at' (getAt σ.act n))) ∧ w' = w := by
  obtain ⟨C, hL, hC⟩ := h.lstA
  have := l_at E.bs E.bB 189 _ C _ _ n w hL
  rwa [getAt_map] at this
theorem a_replace {E : Env} {L : Loc} {σ : Ab} {w : World} (h : Rel E L σ w) (x y : Option Nat) (hx : σ.isEl x = true) (hy : σ.isEl y = true) :
    Calls Tryz.prog 276 #[.pointer (some ⟨E.bB, 189, none⟩), enc (omap L.at' x), enc (omap L.at' y)] w fun e w' => e = .returned (.tuple #[]) ∧ To E L { σ with act := repl σ.act x y } w w' := by
  obtain ⟨C, hL, hC⟩ := h.lstA
  refine (l_replace E.bs E.bB 189 _ C _ _ (omap L.at' x) (omap L.at' y) w hL h.elA (h.isEl hx)).mono ?_
  rintro e w' ⟨rfl, ht⟩
  exact ⟨rfl, h.turnsA hL hC (by rw [← repl_map h.inj]; exact ht) fun z hz => by rcases repl_sub hz with hz | rfl; exact h.wf.act z hz; exact hy⟩
end Go.Proofs.YtlhhgenpcjjajaaGreatDoor
namespace Go.Proofs.YtlhhgenpcjjajaaGreatDoor
open Go.RowKit
def Loc.new (L : Loc) (n k : Nat) (av kv : Value) : Loc := { L with at' := fun i => if i < n then L.at' i else k + (i - n), av := fun i => if i = n then av else L.av i, kv := fun i => if i = n then kv else L.kv i }
theorem Loc.new_lt {L : Loc} {n k : Nat} {av kv : Value} {i : Nat} (h : i < n) : (L.new n k av kv).at' i = L.at' i := if_pos h
theorem Loc.new_self {L : Loc} {n k : Nat} {av kv : Value} : (L.new n k av kv).at' n = k := by show (if n < n then _ else _) = _; rw [if_neg (by omega)]; omega
theorem Loc.new_av {L : Loc} {n k : Nat} {av kv : Value} {i : Nat} (h : i < n) : (L.new n k av kv).av i = L.av i := if_neg (by omega)
theorem Loc.new_kv {L : Loc} {n k : Nat} {av kv : Value} {i : Nat} (h : i < n) : (L.new n k av kv).kv i = L.kv i := if_neg (by omega)
theorem Loc.new_avS {L : Loc} {n k : Nat} {av kv : Value} : (L.new n k av kv).av n = av := if_pos rfl
theorem Loc.new_kvS {L : Loc} {n k : Nat} {av kv : Value} : (L.new n k av kv).kv n = kv := if_pos rfl
def Ext (n : Nat) (L L' : Loc) : Prop := ∀ i, i < n → L'.at' i = L.at' i
theorem Ext.refl (n : Nat) (L : Loc) : Ext n L L := fun _ _ => rfl
theorem Ext.trans {n m : Nat} {A B C : Loc} (h : Ext n A B) (k : Ext m B C) (hnm : n ≤ m) : Ext n A C := fun i hi => (k i (by omega)).trans (h i hi)
theorem Ab.isEl_lt {σ : Ab} {i : Nat} (h : σ.isEl (some i) = true) : i < σ.nodes.length := by
  obtain ⟨e, he⟩ := Option.isSome_iff_exists.1 h
  exact Ab.lt_of_el he
theorem Ab.isKid_lt {σ : Ab} {k : Nd} (h : σ.isKid k = true) : k.blk < σ.nodes.length := by
  by_cases hi : k.blk < σ.nodes.length
  · exact hi
  · exfalso
    have hn : σ.nodes[k.blk]? = none := List.getElem?_eq_none (by omega)
    cases k with
    | el i => simp only [Nd.blk] at hn; simp [Ab.isKid, Ab.el?, hn] at h
    | tx i => simp only [Nd.blk] at hn; simp [Ab.isKid, hn] at h
    | cm i => simp only [Nd.blk] at hn; simp [Ab.isKid, hn] at h
    | dt i => simp only [Nd.blk] at hn; simp [Ab.isKid, hn] at h
theorem Ext.om {σ : Ab} {L L' : Loc} (h : Ext σ.nodes.length L L') {x : Option Nat} (hx : σ.isEl x = true) : omap L'.at' x = omap L.at' x := by
  cases x with
  | none => rfl
  | some i => show some _ = some _; rw [h i (Ab.isEl_lt hx)]
theorem Ext.kid {σ : Ab} {L L' : Loc} (h : Ext σ.nodes.length L L') {k : Nd} (hk : σ.isKid k = true) : Nd.map L'.at' k = Nd.map L.at' k := by
  have := h _ (Ab.isKid_lt hk)
  cases k <;> (simp only [Nd.map, Nd.blk] at this ⊢; rw [this])
theorem Ext.list {σ : Ab} {L L' : Loc} (h : Ext σ.nodes.length L L') {xs : List (Option Nat)} (hx : ∀ x ∈ xs, σ.isEl x = true) : (xs.map fun x => enc (omap L'.at' x)) = xs.map fun x => enc (omap L.at' x) :=
  List.map_congr_left fun x hm => by rw [h.om (hx x hm)]
theorem Ext.kids {σ : Ab} {L L' : Loc} (h : Ext σ.nodes.length L L') {ks : List Nd} (hx : ∀ x ∈ ks, σ.isKid x = true) : ks.map (Nd.map L'.at') = ks.map (Nd.map L.at') :=
  List.map_congr_left fun x hm => h.kid (hx x hm)
theorem Ab.el_add {σ : Ab} {nd : ANd} {i : Nat} (hi : i < σ.nodes.length) : (σ.add nd).el? i = σ.el? i := by
  show (match (σ.nodes ++ [nd])[i]? with | some (.el e) => some e | _ => none) = _
  rw [List.getElem?_append_left hi]; rfl
theorem Ab.el_addS {σ : Ab} {nd : ANd} : (σ.add nd).el? σ.nodes.length = (match nd with | .el e => some e | _ => none) := by
  show (match (σ.nodes ++ [nd])[σ.nodes.length]? with | some (.el e) => some e | _ => none) = _
  simp
  cases nd <;> rfl
theorem Ab.isEl_add {σ : Ab} {nd : ANd} {x : Option Nat} (h : σ.isEl x = true) : (σ.add nd).isEl x = true := by
  cases x with
  | none => rfl
  | some i => show ((σ.add nd).el? i).isSome = true; rw [Ab.el_add (Ab.isEl_lt h)]; exact h
theorem Ab.isElS_add {σ : Ab} {nd : ANd} {x : Option Nat} (h : σ.isElS x = true) : (σ.add nd).isElS x = true := by
  cases x with
  | none => exact h
  | some i => show ((σ.add nd).el? i).isSome = true; rw [Ab.el_add (Ab.isEl_lt h)]; exact h
theorem Ab.isKid_add {σ : Ab} {nd : ANd} {k : Nd} (h : σ.isKid k = true) : (σ.add nd).isKid k = true := by
  have hl := Ab.isKid_lt h
  have e : (σ.nodes ++ [nd])[k.blk]? = σ.nodes[k.blk]? := List.getElem?_append_left hl
  cases k with
  | el i => show ((σ.add nd).el? i).isSome = true; rw [Ab.el_add (i := i) hl]; exact h
  | tx i => simp only [Nd.blk] at e; simp only [Ab.isKid, Ab.add, e] at h ⊢; exact h
  | cm i => simp only [Nd.blk] at e; simp only [Ab.isKid, Ab.add, e] at h ⊢; exact h
  | dt i => simp only [Nd.blk] at e; simp only [Ab.isKid, Ab.add, e] at h ⊢; exact h
theorem Ab.el_new {σ : Ab} {nd : ANd} {i : Nat} {e : AEl} (h : (σ.add nd).el? i = some e) : (i < σ.nodes.length ∧ σ.el? i = some e) ∨ (i = σ.nodes.length ∧ nd = .el e) := by
  have hl := Ab.lt_of_el h
  have hl' : i < σ.nodes.length + 1 := by simpa [Ab.add] using hl
  by_cases hi : i < σ.nodes.length
  · exact .inl ⟨hi, by rw [← Ab.el_add hi]; exact h⟩
  · have e1 : i = σ.nodes.length := by omega
    subst e1
    rw [Ab.el_addS] at h
    refine .inr ⟨rfl, ?_⟩
    cases nd <;> simp_all
theorem NodeAt.ext {bs : Nat} {σ : Ab} {L L' : Loc} {w : World} {i : Nat} {nd : ANd} (h : NodeAt bs L w i nd) (hE : Ext σ.nodes.length L L') (hi : i < σ.nodes.length) (ha : L'.av i = L.av i) (hk : L'.kv i = L.kv i) (hp : ∀ e, nd = .el e → σ.isEl e.par = true ∧ ∀ k ∈ e.kids, σ.isKid k = true) : NodeAt bs L' w i nd := by
  cases nd with
  | el e =>
    obtain ⟨h1, h2⟩ := hp e rfl
    show El bs w (L'.at' i) e.name (L'.av i) (omap L'.at' e.par) (L'.kv i) (e.kids.map (Nd.map L'.at')) ∧ Atr w (L'.av i) e.attrs ∧ e.attrs.length ≤ 4096
    rw [hE i hi, ha, hk, hE.om h1, hE.kids h2]
    exact h
  | tx s => show w.heap[L'.at' i]? = _; rw [hE i hi]; exact h
  | cm s => show w.heap[L'.at' i]? = _; rw [hE i hi]; exact h
  | dt s => show w.heap[L'.at' i]? = _; rw [hE i hi]; exact h
theorem Rel.at_lt {E : Env} {L : Loc} {σ : Ab} {w : World} (h : Rel E L σ w) {i : Nat} (hi : i < σ.nodes.length) : L.at' i < w.heap.size := by
  obtain ⟨c, hc⟩ := (h.nds i σ.nodes[i] (List.getElem?_eq_getElem hi)).typ
  exact lt_of_block hc
theorem Rel.wfn {E : Env} {L : Loc} {σ : Ab} {w : World} (h : Rel E L σ w) {i : Nat} {nd : ANd} (hi : σ.nodes[i]? = some nd) : ∀ e, nd = .el e → σ.isEl e.par = true ∧ ∀ k ∈ e.kids, σ.isKid k = true := by
  rintro e rfl
  have he := Ab.el_of_node hi
  exact ⟨h.wf.par i e he, h.wf.kids i e he⟩
theorem BCells.ext {E : Env} {L L' : Loc} {σ σ' : Ab} {C : Array Value} (h : BCells E L σ C) (hE : Ext σ.nodes.length L L') (hwf : Wf σ) (e1 : L'.ov = L.ov) (e2 : L'.cv = L.cv) (e3 : L'.wv = L.wv) (s1 : σ'.head = σ.head) (s2 : σ'.form = σ.form) (s3 : σ'.mode = σ.mode) (s4 : σ'.kept = σ.kept) (s5 : σ'.fostering = σ.fostering) (s6 : σ'.quirks = σ.quirks) (s7 : σ'.at' = σ.at') (s8 : σ'.behind = σ.behind) : BCells E L' σ' C :=
  ⟨h.size, h.low, by rw [e1]; exact h.opn, by rw [e2]; exact h.act, by rw [s1, hE.om hwf.head]; exact h.head, by rw [s2, hE.om hwf.form]; exact h.form, by rw [s3]; exact h.mode, by rw [s4]; exact h.kept, by rw [e3]; exact h.wait, by rw [s5]; exact h.fost, by rw [s6]; exact h.quirks, by rw [s7]; exact h.at', by rw [s8]; exact h.behind⟩
theorem Rel.add {E : Env} {L : Loc} {σ : Ab} {w w' : World} (h : Rel E L σ w) (nd : ANd) (k : Nat) (av kv : Value) (fr : Bool) (hk : Kept [] w w') (hsz : w.heap.size ≤ k)
    (hnd : NodeAt E.bs (L.new σ.nodes.length k av kv) w' σ.nodes.length nd) (hkv : kv.ownBlock = none) (hnew : ∀ e, nd = .el e → e.par = none ∧ e.kids = [])
    (hav1 : ∀ i e g, σ.el? i = some e → givable e.name = true → av.ownBlock = some g → (L.av i).ownBlock ≠ some g)
    (hav2 : ∀ e g j, nd = .el e → givable e.name = true → j < σ.nodes.length → av.ownBlock = some g → (L.av j).ownBlock ≠ some g)
    (hael : (∀ e, nd ≠ .el e) → av.ownBlock = none)
    (hfr : fr = true → σ.fresh = true ∧ ∀ g, E.tv.ownBlock = some g → av.ownBlock ≠ some g) :
    Rel E (L.new σ.nodes.length k av kv) (σ.addF nd fr) w' := by
  have h1 := h.kept0 hk
  have hE : Ext σ.nodes.length L (L.new σ.nodes.length k av kv) := fun i hi => Loc.new_lt hi
  have hdoc := Ab.isEl_lt (σ := σ) (i := 0) h.wf.doc
  have hlen : (σ.addF nd fr).nodes.length = σ.nodes.length + 1 := by simp [Ab.addF]
  have hel : ∀ i, (σ.addF nd fr).el? i = (σ.add nd).el? i := fun i => rfl
  obtain ⟨C, hb, hC⟩ := h1.blk
  refine ⟨h1.fr, by rw [Loc.new_lt hdoc]; exact h1.env, h1.lim, ?_, ?_, ?_, ?_, ?_, ?_, ?_, ⟨C, hb, hC.ext hE h.wf rfl rfl rfl rfl rfl rfl rfl rfl rfl rfl rfl⟩, ?_, ?_, h1.ocn, h1.ole, h1.cle, h1.wrow, h1.wle, h1.rd, h1.rsz, h1.tok, h1.tle, h1.bz, h1.bB, h1.bR, ?_, ?_⟩
  · intro i nd' hi
    have hi' : (σ.nodes ++ [nd])[i]? = some nd' := hi
    by_cases hl : i < σ.nodes.length
    · rw [List.getElem?_append_left hl] at hi'
      exact (h1.nds i nd' hi').ext hE hl (Loc.new_av hl) (Loc.new_kv hl) (h.wfn hi')
    · have hlt : i < σ.nodes.length + 1 := by
        have := (List.getElem?_eq_some_iff.1 hi').1; simpa using this
      have e1 : i = σ.nodes.length := by omega
      subst e1
      simp at hi'
      rw [← hi']; exact hnd
  · intro i j hij
    have hlt : ∀ i, i < σ.nodes.length → L.at' i < k := fun i hi => Nat.lt_of_lt_of_le (h.at_lt hi) hsz
    have hij' : (if i < σ.nodes.length then L.at' i else k + (i - σ.nodes.length)) = (if j < σ.nodes.length then L.at' j else k + (j - σ.nodes.length)) := hij
    by_cases hi : i < σ.nodes.length
    · by_cases hj : j < σ.nodes.length
      · rw [if_pos hi, if_pos hj] at hij'; exact h.inj i j hij'
      · rw [if_pos hi, if_neg hj] at hij'; have := hlt i hi; omega
    · by_cases hj : j < σ.nodes.length
      · rw [if_neg hi, if_pos hj] at hij'; have := hlt j hj; omega
      · rw [if_neg hi, if_neg hj] at hij'; omega
  · intro i j g hi hj hij hg
    rw [hlen] at hi hj
    by_cases hi' : i < σ.nodes.length
    · rw [Loc.new_kv hi'] at hg
      by_cases hj' : j < σ.nodes.length
      · rw [Loc.new_kv hj']; exact h.kne i j g hi' hj' hij hg
      · have e1 : j = σ.nodes.length := by omega
        subst e1; rw [Loc.new_kvS, hkv]; simp
    · have e1 : i = σ.nodes.length := by omega
      subst e1; rw [Loc.new_kvS, hkv] at hg; cases hg
  · intro i hi he
    rw [hlen] at hi
    by_cases hi' : i < σ.nodes.length
    · rw [Loc.new_kv hi']; exact h.kel i hi' (by rw [← Ab.el_add hi']; exact he)
    · have e1 : i = σ.nodes.length := by omega
      subst e1; rw [Loc.new_kvS]; exact hkv
  · intro i j e g hi hgv hj hij hg
    rw [hlen] at hj
    rcases Ab.el_new (nd := nd) hi with ⟨hi', he⟩ | ⟨rfl, rfl⟩
    · rw [Loc.new_av hi'] at hg
      by_cases hj' : j < σ.nodes.length
      · rw [Loc.new_av hj']; exact h.uq i j e g he hgv hj' hij hg
      · have e1 : j = σ.nodes.length := by omega
        subst e1; rw [Loc.new_avS]
        exact fun hh => hav1 i e g he hgv hh hg
    · rw [Loc.new_avS] at hg
      have hj' : j < σ.nodes.length := by omega
      rw [Loc.new_av hj']
      exact hav2 e g j rfl hgv hj' hg
  · intro i hi he
    rw [hlen] at hi
    by_cases hi' : i < σ.nodes.length
    · rw [Loc.new_av hi']; exact h.ael i hi' (by rw [← Ab.el_add hi']; exact he)
    · have e1 : i = σ.nodes.length := by omega
      subst e1
      rw [Loc.new_avS]
      refine hael fun e hnd' => ?_
      rw [hel, Ab.el_addS, hnd'] at he
      cases he
  · refine ⟨fun x hx => Ab.isElS_add (h.wf.opn x hx), fun x hx => Ab.isEl_add (h.wf.act x hx), Ab.isEl_add h.wf.head, Ab.isEl_add h.wf.form, ?_, ?_, ?_⟩
    · intro i e hi
      rcases Ab.el_new (nd := nd) hi with ⟨hi', he⟩ | ⟨rfl, hn⟩
      · exact Ab.isEl_add (h.wf.par i e he)
      · rw [(hnew e hn).1]; rfl
    · intro i e hi x hx
      rcases Ab.el_new (nd := nd) hi with ⟨hi', he⟩ | ⟨rfl, hn⟩
      · exact Ab.isKid_add (h.wf.kids i e he x hx)
      · rw [(hnew e hn).2] at hx; cases hx
    · rw [hel, Ab.el_add hdoc]; exact h.wf.doc
  · show w'.ownsRow E.bs _ 1 L.ov σ.opn.length (σ.opn.map fun x => enc (omap (L.new σ.nodes.length k av kv).at' x))
    rw [hE.list fun x hx => Ab.isEl_of (h.wf.opn x hx)]; exact h1.orow
  · show w'.ownsRow E.bs _ 1 L.cv σ.act.length (σ.act.map fun x => enc (omap (L.new σ.nodes.length k av kv).at' x))
    rw [hE.list h.wf.act]; exact h1.crow
  · intro i hi
    rw [hlen] at hi
    by_cases hi' : i < σ.nodes.length
    · rw [Loc.new_lt hi']; exact h.bN i hi'
    · have e1 : i = σ.nodes.length := by omega
      subst e1; rw [Loc.new_self]; exact Nat.le_trans h.bw hsz
  · intro hf i g hi hg
    rw [hlen] at hi
    obtain ⟨f1, f2⟩ := hfr hf
    by_cases hi' : i < σ.nodes.length
    · rw [Loc.new_av hi']; exact h.frs f1 i g hi' hg
    · have e1 : i = σ.nodes.length := by omega
      subst e1; rw [Loc.new_avS]; exact f2 g hg
end Go.Proofs.YtlhhgenpcjjajaaGreatDoor
