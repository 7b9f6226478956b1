import Derived.Test.YtlhhgenpcjjajaaGreatDoorNwA
set_option linter.unusedSimpArgs false
set_option linter.unusedVariables false
namespace Go.Proofs.YtlhhgenpcjjajaaGreatDoor
open Go.RowKit
theorem BCells.set_opn {E : Env} {L : Loc} {σ : Ab} {C : Array Value} (h : BCells E L σ C) (v : Value) (zs : List (Option Nat)) : BCells E { L with ov := v } { σ with opn := zs } (C.setIfInBounds 188 v) := by
  refine ⟨by simp [h.size], fun i hi => (Array.getElem?_setIfInBounds_ne (by omega)).trans (h.low i hi), Array.getElem?_setIfInBounds_self_of_lt (by rw [h.size]; decide), (Array.getElem?_setIfInBounds_ne (by decide)).trans h.act, (Array.getElem?_setIfInBounds_ne (by decide)).trans h.head, (Array.getElem?_setIfInBounds_ne (by decide)).trans h.form, (Array.getElem?_setIfInBounds_ne (by decide)).trans h.mode, (Array.getElem?_setIfInBounds_ne (by decide)).trans h.kept, (Array.getElem?_setIfInBounds_ne (by decide)).trans h.wait, (Array.getElem?_setIfInBounds_ne (by decide)).trans h.fost, (Array.getElem?_setIfInBounds_ne (by decide)).trans h.quirks, (Array.getElem?_setIfInBounds_ne (by decide)).trans h.at', (Array.getElem?_setIfInBounds_ne (by decide)).trans h.behind⟩
theorem BCells.set_act {E : Env} {L : Loc} {σ : Ab} {C : Array Value} (h : BCells E L σ C) (v : Value) (zs : List (Option Nat)) : BCells E { L with cv := v } { σ with act := zs } (C.setIfInBounds 189 v) := by
  refine ⟨by simp [h.size], fun i hi => (Array.getElem?_setIfInBounds_ne (by omega)).trans (h.low i hi), (Array.getElem?_setIfInBounds_ne (by decide)).trans h.opn, Array.getElem?_setIfInBounds_self_of_lt (by rw [h.size]; decide), (Array.getElem?_setIfInBounds_ne (by decide)).trans h.head, (Array.getElem?_setIfInBounds_ne (by decide)).trans h.form, (Array.getElem?_setIfInBounds_ne (by decide)).trans h.mode, (Array.getElem?_setIfInBounds_ne (by decide)).trans h.kept, (Array.getElem?_setIfInBounds_ne (by decide)).trans h.wait, (Array.getElem?_setIfInBounds_ne (by decide)).trans h.fost, (Array.getElem?_setIfInBounds_ne (by decide)).trans h.quirks, (Array.getElem?_setIfInBounds_ne (by decide)).trans h.at', (Array.getElem?_setIfInBounds_ne (by decide)).trans h.behind⟩
theorem BCells.set_head {E : Env} {L : Loc} {σ : Ab} {C : Array Value} (h : BCells E L σ C) (x : Option Nat) : BCells E L { σ with head := x } (C.setIfInBounds 190 (enc (omap L.at' x))) := by
  refine ⟨by simp [h.size], fun i hi => (Array.getElem?_setIfInBounds_ne (by omega)).trans (h.low i hi), (Array.getElem?_setIfInBounds_ne (by decide)).trans h.opn, (Array.getElem?_setIfInBounds_ne (by decide)).trans h.act, Array.getElem?_setIfInBounds_self_of_lt (by rw [h.size]; decide), (Array.getElem?_setIfInBounds_ne (by decide)).trans h.form, (Array.getElem?_setIfInBounds_ne (by decide)).trans h.mode, (Array.getElem?_setIfInBounds_ne (by decide)).trans h.kept, (Array.getElem?_setIfInBounds_ne (by decide)).trans h.wait, (Array.getElem?_setIfInBounds_ne (by decide)).trans h.fost, (Array.getElem?_setIfInBounds_ne (by decide)).trans h.quirks, (Array.getElem?_setIfInBounds_ne (by decide)).trans h.at', (Array.getElem?_setIfInBounds_ne (by decide)).trans h.behind⟩
theorem BCells.set_form {E : Env} {L : Loc} {σ : Ab} {C : Array Value} (h : BCells E L σ C) (x : Option Nat) : BCells E L { σ with form := x } (C.setIfInBounds 191 (enc (omap L.at' x))) := by
  refine ⟨by simp [h.size], fun i hi => (Array.getElem?_setIfInBounds_ne (by omega)).trans (h.low i hi), (Array.getElem?_setIfInBounds_ne (by decide)).trans h.opn, (Array.getElem?_setIfInBounds_ne (by decide)).trans h.act, (Array.getElem?_setIfInBounds_ne (by decide)).trans h.head, Array.getElem?_setIfInBounds_self_of_lt (by rw [h.size]; decide), (Array.getElem?_setIfInBounds_ne (by decide)).trans h.mode, (Array.getElem?_setIfInBounds_ne (by decide)).trans h.kept, (Array.getElem?_setIfInBounds_ne (by decide)).trans h.wait, (Array.getElem?_setIfInBounds_ne (by decide)).trans h.fost, (Array.getElem?_setIfInBounds_ne (by decide)).trans h.quirks, (Array.getElem?_setIfInBounds_ne (by decide)).trans h.at', (Array.getElem?_setIfInBounds_ne (by decide)).trans h.behind⟩
theorem BCells.set_mode {E : Env} {L : Loc} {σ : Ab} {C : Array Value} (h : BCells E L σ C) (x : Nat) : BCells E L { σ with mode := x } (C.setIfInBounds 192 (.int .i64 (x : Int))) := by
  refine ⟨by simp [h.size], fun i hi => (Array.getElem?_setIfInBounds_ne (by omega)).trans (h.low i hi), (Array.getElem?_setIfInBounds_ne (by decide)).trans h.opn, (Array.getElem?_setIfInBounds_ne (by decide)).trans h.act, (Array.getElem?_setIfInBounds_ne (by decide)).trans h.head, (Array.getElem?_setIfInBounds_ne (by decide)).trans h.form, Array.getElem?_setIfInBounds_self_of_lt (by rw [h.size]; decide), (Array.getElem?_setIfInBounds_ne (by decide)).trans h.kept, (Array.getElem?_setIfInBounds_ne (by decide)).trans h.wait, (Array.getElem?_setIfInBounds_ne (by decide)).trans h.fost, (Array.getElem?_setIfInBounds_ne (by decide)).trans h.quirks, (Array.getElem?_setIfInBounds_ne (by decide)).trans h.at', (Array.getElem?_setIfInBounds_ne (by decide)).trans h.behind⟩
theorem BCells.set_kept {E : Env} {L : Loc} {σ : Ab} {C : Array Value} (h : BCells E L σ C) (x : Nat) : BCells E L { σ with kept := x } (C.setIfInBounds 193 (.int .i64 (x : Int))) := by
  refine ⟨by simp [h.size], fun i hi => (Array.getElem?_setIfInBounds_ne (by omega)).trans (h.low i hi), (Array.getElem?_setIfInBounds_ne (by decide)).trans h.opn, (Array.getElem?_setIfInBounds_ne (by decide)).trans h.act, (Array.getElem?_setIfInBounds_ne (by decide)).trans h.head, (Array.getElem?_setIfInBounds_ne (by decide)).trans h.form, (Array.getElem?_setIfInBounds_ne (by decide)).trans h.mode, Array.getElem?_setIfInBounds_self_of_lt (by rw [h.size]; decide), (Array.getElem?_setIfInBounds_ne (by decide)).trans h.wait, (Array.getElem?_setIfInBounds_ne (by decide)).trans h.fost, (Array.getElem?_setIfInBounds_ne (by decide)).trans h.quirks, (Array.getElem?_setIfInBounds_ne (by decide)).trans h.at', (Array.getElem?_setIfInBounds_ne (by decide)).trans h.behind⟩
theorem BCells.set_wait {E : Env} {L : Loc} {σ : Ab} {C : Array Value} (h : BCells E L σ C) (v : Value) (ws : List (Nat × Nat × ByteArray)) : BCells E { L with wv := v } { σ with waiting := ws } (C.setIfInBounds 194 v) := by
  refine ⟨by simp [h.size], fun i hi => (Array.getElem?_setIfInBounds_ne (by omega)).trans (h.low i hi), (Array.getElem?_setIfInBounds_ne (by decide)).trans h.opn, (Array.getElem?_setIfInBounds_ne (by decide)).trans h.act, (Array.getElem?_setIfInBounds_ne (by decide)).trans h.head, (Array.getElem?_setIfInBounds_ne (by decide)).trans h.form, (Array.getElem?_setIfInBounds_ne (by decide)).trans h.mode, (Array.getElem?_setIfInBounds_ne (by decide)).trans h.kept, Array.getElem?_setIfInBounds_self_of_lt (by rw [h.size]; decide), (Array.getElem?_setIfInBounds_ne (by decide)).trans h.fost, (Array.getElem?_setIfInBounds_ne (by decide)).trans h.quirks, (Array.getElem?_setIfInBounds_ne (by decide)).trans h.at', (Array.getElem?_setIfInBounds_ne (by decide)).trans h.behind⟩
theorem BCells.set_fost {E : Env} {L : Loc} {σ : Ab} {C : Array Value} (h : BCells E L σ C) (x : Bool) : BCells E L { σ with fostering := x } (C.setIfInBounds 195 (.bool x)) := by
  refine ⟨by simp [h.size], fun i hi => (Array.getElem?_setIfInBounds_ne (by omega)).trans (h.low i hi), (Array.getElem?_setIfInBounds_ne (by decide)).trans h.opn, (Array.getElem?_setIfInBounds_ne (by decide)).trans h.act, (Array.getElem?_setIfInBounds_ne (by decide)).trans h.head, (Array.getElem?_setIfInBounds_ne (by decide)).trans h.form, (Array.getElem?_setIfInBounds_ne (by decide)).trans h.mode, (Array.getElem?_setIfInBounds_ne (by decide)).trans h.kept, (Array.getElem?_setIfInBounds_ne (by decide)).trans h.wait, Array.getElem?_setIfInBounds_self_of_lt (by rw [h.size]; decide), (Array.getElem?_setIfInBounds_ne (by decide)).trans h.quirks, (Array.getElem?_setIfInBounds_ne (by decide)).trans h.at', (Array.getElem?_setIfInBounds_ne (by decide)).trans h.behind⟩
theorem BCells.set_quirks {E : Env} {L : Loc} {σ : Ab} {C : Array Value} (h : BCells E L σ C) (x : Bool) : BCells E L { σ with quirks := x } (C.setIfInBounds 196 (.bool x)) := by
  refine ⟨by simp [h.size], fun i hi => (Array.getElem?_setIfInBounds_ne (by omega)).trans (h.low i hi), (Array.getElem?_setIfInBounds_ne (by decide)).trans h.opn, (Array.getElem?_setIfInBounds_ne (by decide)).trans h.act, (Array.getElem?_setIfInBounds_ne (by decide)).trans h.head, (Array.getElem?_setIfInBounds_ne (by decide)).trans h.form, (Array.getElem?_setIfInBounds_ne (by decide)).trans h.mode, (Array.getElem?_setIfInBounds_ne (by decide)).trans h.kept, (Array.getElem?_setIfInBounds_ne (by decide)).trans h.wait, (Array.getElem?_setIfInBounds_ne (by decide)).trans h.fost, Array.getElem?_setIfInBounds_self_of_lt (by rw [h.size]; decide), (Array.getElem?_setIfInBounds_ne (by decide)).trans h.at', (Array.getElem?_setIfInBounds_ne (by decide)).trans h.behind⟩
theorem BCells.set_at {E : Env} {L : Loc} {σ : Ab} {C : Array Value} (h : BCells E L σ C) (x : Nat) : BCells E L { σ with at' := x } (C.setIfInBounds 197 (.int .i64 (x : Int))) := by
  refine ⟨by simp [h.size], fun i hi => (Array.getElem?_setIfInBounds_ne (by omega)).trans (h.low i hi), (Array.getElem?_setIfInBounds_ne (by decide)).trans h.opn, (Array.getElem?_setIfInBounds_ne (by decide)).trans h.act, (Array.getElem?_setIfInBounds_ne (by decide)).trans h.head, (Array.getElem?_setIfInBounds_ne (by decide)).trans h.form, (Array.getElem?_setIfInBounds_ne (by decide)).trans h.mode, (Array.getElem?_setIfInBounds_ne (by decide)).trans h.kept, (Array.getElem?_setIfInBounds_ne (by decide)).trans h.wait, (Array.getElem?_setIfInBounds_ne (by decide)).trans h.fost, (Array.getElem?_setIfInBounds_ne (by decide)).trans h.quirks, Array.getElem?_setIfInBounds_self_of_lt (by rw [h.size]; decide), (Array.getElem?_setIfInBounds_ne (by decide)).trans h.behind⟩
theorem BCells.set_behind {E : Env} {L : Loc} {σ : Ab} {C : Array Value} (h : BCells E L σ C) (x : Bool) : BCells E L { σ with behind := x } (C.setIfInBounds 198 (.bool x)) := by
  refine ⟨by simp [h.size], fun i hi => (Array.getElem?_setIfInBounds_ne (by omega)).trans (h.low i hi), (Array.getElem?_setIfInBounds_ne (by decide)).trans h.opn, (Array.getElem?_setIfInBounds_ne (by decide)).trans h.act, (Array.getElem?_setIfInBounds_ne (by decide)).trans h.head, (Array.getElem?_setIfInBounds_ne (by decide)).trans h.form, (Array.getElem?_setIfInBounds_ne (by decide)).trans h.mode, (Array.getElem?_setIfInBounds_ne (by decide)).trans h.kept, (Array.getElem?_setIfInBounds_ne (by decide)).trans h.wait, (Array.getElem?_setIfInBounds_ne (by decide)).trans h.fost, (Array.getElem?_setIfInBounds_ne (by decide)).trans h.quirks, (Array.getElem?_setIfInBounds_ne (by decide)).trans h.at', Array.getElem?_setIfInBounds_self_of_lt (by rw [h.size]; decide)⟩
theorem NodeAt.loc {bs : Nat} {L L' : Loc} {w : World} {i : Nat} {nd : ANd} (h : NodeAt bs L w i nd) (e1 : L'.at' = L.at') (e2 : L'.av = L.av) (e3 : L'.kv = L.kv) : NodeAt bs L' w i nd := by
  cases nd <;> (unfold NodeAt at h ⊢; simp only [e1, e2, e3]; exact h)
theorem Rel.bcell {E : Env} {L : Loc} {σ : Ab} {w : World} (h : Rel E L σ w) : ∃ C, w.heap[E.bB]? = some (.cells C 180 (0, 0)) := by
  obtain ⟨C, hb, _⟩ := h.blk; exact ⟨C, hb⟩
theorem Rel.free {E : Env} {L : Loc} {σ : Ab} {w : World} (h : Rel E L σ w) (j : Nat) : w.frozen? ⟨E.bB, j, none⟩ = false := by
  obtain ⟨C, hb⟩ := h.bcell; exact free_at hb j
theorem Rel.lt {E : Env} {L : Loc} {σ : Ab} {w : World} (h : Rel E L σ w) : E.bB < w.heap.size := by
  obtain ⟨C, hb⟩ := h.bcell; exact lt_of_block hb
theorem Rel.low {E : Env} {L : Loc} {σ : Ab} {w : World} (h : Rel E L σ w) {j : Nat} {v : Value} (hj : j < 188) (hv : E.C0[j]? = some v) : w.cell? ⟨E.bB, j, none⟩ = some v := by
  obtain ⟨C, hb, hC⟩ := h.blk; rw [cell_at hb]; exact (hC.low j hj).trans hv
theorem Rel.c188 {E : Env} {L : Loc} {σ : Ab} {w : World} (h : Rel E L σ w) : w.cell? ⟨E.bB, 188, none⟩ = some L.ov := by
  obtain ⟨C, hb, hC⟩ := h.blk; rw [cell_at hb]; exact hC.opn
theorem Rel.c189 {E : Env} {L : Loc} {σ : Ab} {w : World} (h : Rel E L σ w) : w.cell? ⟨E.bB, 189, none⟩ = some L.cv := by
  obtain ⟨C, hb, hC⟩ := h.blk; rw [cell_at hb]; exact hC.act
theorem Rel.c190 {E : Env} {L : Loc} {σ : Ab} {w : World} (h : Rel E L σ w) : w.cell? ⟨E.bB, 190, none⟩ = some (enc (omap L.at' σ.head)) := by
  obtain ⟨C, hb, hC⟩ := h.blk; rw [cell_at hb]; exact hC.head
theorem Rel.c191 {E : Env} {L : Loc} {σ : Ab} {w : World} (h : Rel E L σ w) : w.cell? ⟨E.bB, 191, none⟩ = some (enc (omap L.at' σ.form)) := by
  obtain ⟨C, hb, hC⟩ := h.blk; rw [cell_at hb]; exact hC.form
theorem Rel.c192 {E : Env} {L : Loc} {σ : Ab} {w : World} (h : Rel E L σ w) : w.cell? ⟨E.bB, 192, none⟩ = some (.int .i64 (σ.mode : Int)) := by
  obtain ⟨C, hb, hC⟩ := h.blk; rw [cell_at hb]; exact hC.mode
theorem Rel.c193 {E : Env} {L : Loc} {σ : Ab} {w : World} (h : Rel E L σ w) : w.cell? ⟨E.bB, 193, none⟩ = some (.int .i64 (σ.kept : Int)) := by
  obtain ⟨C, hb, hC⟩ := h.blk; rw [cell_at hb]; exact hC.kept
theorem Rel.c194 {E : Env} {L : Loc} {σ : Ab} {w : World} (h : Rel E L σ w) : w.cell? ⟨E.bB, 194, none⟩ = some L.wv := by
  obtain ⟨C, hb, hC⟩ := h.blk; rw [cell_at hb]; exact hC.wait
theorem Rel.c195 {E : Env} {L : Loc} {σ : Ab} {w : World} (h : Rel E L σ w) : w.cell? ⟨E.bB, 195, none⟩ = some (.bool σ.fostering) := by
  obtain ⟨C, hb, hC⟩ := h.blk; rw [cell_at hb]; exact hC.fost
theorem Rel.c196 {E : Env} {L : Loc} {σ : Ab} {w : World} (h : Rel E L σ w) : w.cell? ⟨E.bB, 196, none⟩ = some (.bool σ.quirks) := by
  obtain ⟨C, hb, hC⟩ := h.blk; rw [cell_at hb]; exact hC.quirks
theorem Rel.c197 {E : Env} {L : Loc} {σ : Ab} {w : World} (h : Rel E L σ w) : w.cell? ⟨E.bB, 197, none⟩ = some (.int .i64 (σ.at' : Int)) := by
  obtain ⟨C, hb, hC⟩ := h.blk; rw [cell_at hb]; exact hC.at'
theorem Rel.c198 {E : Env} {L : Loc} {σ : Ab} {w : World} (h : Rel E L σ w) : w.cell? ⟨E.bB, 198, none⟩ = some (.bool σ.behind) := by
  obtain ⟨C, hb, hC⟩ := h.blk; rw [cell_at hb]; exact hC.behind
theorem Rel.kept0 {E : Env} {L : Loc} {σ : Ab} {w w' : World} (h : Rel E L σ w) (hk : Kept [] w w') : Rel E L σ w' := by
  have kt : KT E.bs [] w w' := .of_kept0 hk
  obtain ⟨C, hb, hC⟩ := h.blk
  exact { h with
    fr := h.fr.trans (.of_kept0 hk)
    nds := fun i nd hi => (h.nds i nd hi).kt kt (by simp)
    blk := ⟨C, kt.at hb (by simp), hC⟩
    orow := kt.row h.orow (by simp)
    crow := kt.row h.crow (by simp)
    wrow := kt.row h.wrow (by simp)
    rd := kt.at h.rd (by simp)
    tok := kt.row h.tok (by simp) }
theorem Rel.drew {E : Env} {L : Loc} {σ : Ab} {w : World} (h : Rel E L σ w) : Rel E L σ w.drew := h.kept0 (Kept.refl _ _).drew
theorem Rel.bw {E : Env} {L : Loc} {σ : Ab} {w : World} (h : Rel E L σ w) : E.bs ≤ w.heap.size := Nat.le_trans h.bz h.fr.size
def To (E : Env) (L : Loc) (σ' : Ab) (w w' : World) : Prop := ∃ L', L'.at' = L.at' ∧ Rel E L' σ' w' ∧ Fr E.bs w w'
theorem Rel.to {E : Env} {L : Loc} {σ : Ab} {w w' : World} (h : Rel E L σ w') (hf : Fr E.bs w w') : To E L σ w w' := ⟨L, rfl, h, hf⟩
theorem Rel.store {E : Env} {L : Loc} {σ σ' : Ab} {w : World} (h : Rel E L σ w) (j : Nat) (u : Value) (hB : ∀ C, BCells E L σ C → BCells E L σ' (C.setIfInBounds j u)) (hn : σ'.nodes = σ.nodes) (ho : σ'.opn = σ.opn) (ha : σ'.act = σ.act) (hw : σ'.waiting = σ.waiting) (h1 : σ'.ofT = σ.ofT) (h2 : σ'.plainT = σ.plainT) (h3 : σ'.fresh = σ.fresh) (hl1 : σ'.dep = σ.dep) (hl2 : σ'.frm = σ.frm) (hl3 : σ'.atl = σ.atl) (hwf : Wf σ') : Rel E L σ' (w.setCell ⟨E.bB, j, none⟩ u) := by
  obtain ⟨C, hb, hC⟩ := h.blk
  have hk : Kept [E.bB] w (w.setCell ⟨E.bB, j, none⟩ u) := (Kept.refl _ w).setCell (.inl (by simp)) u
  have kt : KT E.bs [180] w (w.setCell ⟨E.bB, j, none⟩ u) := .of_kept hk (fun k hk _ => by simp at hk; subst hk; exact ⟨⟨_, _, _, hb, by simp⟩, h.bB⟩)
  have he : ∀ i, σ'.el? i = σ.el? i := fun i => by unfold Ab.el?; rw [hn]
  exact {
    fr := h.fr.trans (kt.fr (by decide))
    env := h.env
    lim := by rw [hl1, hl2, hl3]; exact h.lim
    nds := fun i nd hi => (h.nds i nd (by rw [← hn]; exact hi)).kt kt (by decide)
    inj := h.inj
    bz := h.bz
    bB := h.bB
    bR := h.bR
    bN := by rw [hn]; exact h.bN
    kne := by rw [hn]; exact h.kne
    kel := fun i hi he' => h.kel i (by rw [← hn]; exact hi) (by rw [← he]; exact he')
    uq := fun i j e g hi hg hj => h.uq i j e g (by rw [← he]; exact hi) hg (by rw [← hn]; exact hj)
    ael := fun i hi he' => h.ael i (by rw [← hn]; exact hi) (by rw [← he]; exact he')
    wf := hwf
    blk := ⟨_, block_setCell hb j u, hB C hC⟩
    orow := by rw [ho]; exact kt.row h.orow (by decide)
    crow := by rw [ha]; exact kt.row h.crow (by decide)
    ocn := h.ocn
    ole := by rw [ho]; exact h.ole
    cle := by rw [ha]; exact h.cle
    wrow := by rw [hw]; exact kt.row h.wrow (by decide)
    wle := by rw [hw]; exact h.wle
    rd := by rw [h1, h2]; exact kt.at h.rd (by decide)
    rsz := h.rsz
    tok := kt.row h.tok (by decide)
    tle := h.tle
    frs := by rw [h3, hn]; exact h.frs }
theorem Rel.set_head {E : Env} {L : Loc} {σ : Ab} {w : World} (h : Rel E L σ w) (x : Option Nat) (hx : σ.isEl x = true) : Rel E L { σ with head := x } (w.setCell ⟨E.bB, 190, none⟩ (enc (omap L.at' x))) :=
  h.store 190 _ (fun C hC => hC.set_head x) rfl rfl rfl rfl rfl rfl rfl rfl rfl rfl ⟨h.wf.opn, h.wf.act, hx, h.wf.form, h.wf.par, h.wf.kids, h.wf.doc⟩
theorem Rel.set_form {E : Env} {L : Loc} {σ : Ab} {w : World} (h : Rel E L σ w) (x : Option Nat) (hx : σ.isEl x = true) : Rel E L { σ with form := x } (w.setCell ⟨E.bB, 191, none⟩ (enc (omap L.at' x))) :=
  h.store 191 _ (fun C hC => hC.set_form x) rfl rfl rfl rfl rfl rfl rfl rfl rfl rfl ⟨h.wf.opn, h.wf.act, h.wf.head, hx, h.wf.par, h.wf.kids, h.wf.doc⟩
theorem Rel.set_mode {E : Env} {L : Loc} {σ : Ab} {w : World} (h : Rel E L σ w) (x : Nat) : Rel E L { σ with mode := x } (w.setCell ⟨E.bB, 192, none⟩ (.int .i64 (x : Int))) :=
  h.store 192 _ (fun C hC => hC.set_mode x) rfl rfl rfl rfl rfl rfl rfl rfl rfl rfl ⟨h.wf.opn, h.wf.act, h.wf.head, h.wf.form, h.wf.par, h.wf.kids, h.wf.doc⟩
theorem Rel.set_kept {E : Env} {L : Loc} {σ : Ab} {w : World} (h : Rel E L σ w) (x : Nat) : Rel E L { σ with kept := x } (w.setCell ⟨E.bB, 193, none⟩ (.int .i64 (x : Int))) :=
  h.store 193 _ (fun C hC => hC.set_kept x) rfl rfl rfl rfl rfl rfl rfl rfl rfl rfl ⟨h.wf.opn, h.wf.act, h.wf.head, h.wf.form, h.wf.par, h.wf.kids, h.wf.doc⟩
theorem Rel.set_fost {E : Env} {L : Loc} {σ : Ab} {w : World} (h : Rel E L σ w) (x : Bool) : Rel E L { σ with fostering := x } (w.setCell ⟨E.bB, 195, none⟩ (.bool x)) :=
  h.store 195 _ (fun C hC => hC.set_fost x) rfl rfl rfl rfl rfl rfl rfl rfl rfl rfl ⟨h.wf.opn, h.wf.act, h.wf.head, h.wf.form, h.wf.par, h.wf.kids, h.wf.doc⟩
theorem Rel.set_quirks {E : Env} {L : Loc} {σ : Ab} {w : World} (h : Rel E L σ w) (x : Bool) : Rel E L { σ with quirks := x } (w.setCell ⟨E.bB, 196, none⟩ (.bool x)) :=
  h.store 196 _ (fun C hC => hC.set_quirks x) rfl rfl rfl rfl rfl rfl rfl rfl rfl rfl ⟨h.wf.opn, h.wf.act, h.wf.head, h.wf.form, h.wf.par, h.wf.kids, h.wf.doc⟩
theorem Rel.set_at {E : Env} {L : Loc} {σ : Ab} {w : World} (h : Rel E L σ w) (x : Nat) : Rel E L { σ with at' := x } (w.setCell ⟨E.bB, 197, none⟩ (.int .i64 (x : Int))) :=
  h.store 197 _ (fun C hC => hC.set_at x) rfl rfl rfl rfl rfl rfl rfl rfl rfl rfl ⟨h.wf.opn, h.wf.act, h.wf.head, h.wf.form, h.wf.par, h.wf.kids, h.wf.doc⟩
theorem Rel.set_behind {E : Env} {L : Loc} {σ : Ab} {w : World} (h : Rel E L σ w) (x : Bool) : Rel E L { σ with behind := x } (w.setCell ⟨E.bB, 198, none⟩ (.bool x)) :=
  h.store 198 _ (fun C hC => hC.set_behind x) rfl rfl rfl rfl rfl rfl rfl rfl rfl rfl ⟨h.wf.opn, h.wf.act, h.wf.head, h.wf.form, h.wf.par, h.wf.kids, h.wf.doc⟩
theorem Rel.isEl {E : Env} {L : Loc} {σ : Ab} {w : World} (h : Rel E L σ w) {x : Option Nat} (hx : σ.isEl x = true) : IsEl w (omap L.at' x) := by
  intro k hk
  cases x with
  | none => cases hk
  | some i =>
    obtain rfl := Option.some.inj hk
    unfold Ab.isEl at hx
    obtain ⟨e, he⟩ := Option.isSome_iff_exists.1 hx
    exact ⟨_, (h.nds i _ (Ab.node_of_el he)).1.blk⟩
theorem Rel.ne_of_typ {E : Env} {L : Loc} {σ : Ab} {w : World} (h : Rel E L σ w) {S : List Nat} {w' : World} (_ : Kept S w w') : True := trivial
theorem popTo_sub {xs : List (Option Nat)} {x y : Option Nat} (h : y ∈ popTo xs x) : y ∈ xs := by
  unfold popTo at h
  rw [List.mem_reverse] at h
  exact List.mem_reverse.1 ((List.dropWhile_sublist _).subset (List.mem_of_mem_tail h))
theorem repl_sub {xs : List (Option Nat)} {x y z : Option Nat} (h : z ∈ repl xs x y) : z ∈ xs ∨ z = y := by
  unfold repl at h
  split at h
  · rcases List.mem_or_eq_of_mem_set h with h | h
    · exact .inl h
    · exact .inr h
  · exact .inl h
theorem putBehind_sub {xs : List (Option Nat)} {x y z : Option Nat} (h : z ∈ putBehind xs x y) : z ∈ xs ∨ z = y := by
  unfold putBehind at h
  split at h
  · rcases List.mem_append.1 h with h | h
    · rcases List.mem_append.1 h with h | h
      · exact .inl (List.mem_of_mem_take h)
      · exact .inr (List.mem_singleton.1 h)
    · exact .inl (List.mem_of_mem_drop h)
  · exact .inl h
theorem Rel.lstO {E : Env} {L : Loc} {σ : Ab} {w : World} (h : Rel E L σ w) : ∃ C, Lst E.bs E.bB 188 180 C L.ov (σ.opn.map (omap L.at')) w ∧ BCells E L σ C := by
  obtain ⟨C, hb, hC⟩ := h.blk
  refine ⟨C, ⟨hb, hC.opn, ?_, by decide, by simpa using h.ole⟩, hC⟩
  simpa [List.map_map, Function.comp_def] using h.orow
theorem Rel.elO {E : Env} {L : Loc} {σ : Ab} {w : World} (h : Rel E L σ w) : ∀ x ∈ σ.opn.map (omap L.at'), IsEl w x := by
  intro x hx
  obtain ⟨y, hy, rfl⟩ := List.mem_map.1 hx
  exact h.isEl (Ab.isEl_of (h.wf.opn y hy))
theorem Rel.turnsO {E : Env} {L : Loc} {σ : Ab} {w w' : World} (h : Rel E L σ w) {C : Array Value} (hL : Lst E.bs E.bB 188 180 C L.ov (σ.opn.map (omap L.at')) w) (hC : BCells E L σ C) {zs : List (Option Nat)} (ht : Turns E.bs E.bB 188 180 C L.ov (zs.map (omap L.at')) w w') (hz : ∀ x ∈ zs, σ.isElS x = true) : To E L { σ with opn := zs } w w' := by
  obtain ⟨v', L1, k1, f1⟩ := ht
  have kt : KT E.bs [180, 72] w w' := .of_kept k1 (fun k hk _ => by
    rcases List.mem_cons.1 hk with rfl | hk
    · exact ⟨⟨_, _, _, hL.blk, by simp⟩, h.bB⟩
    · obtain ⟨c, m, hc⟩ := row_typ hL.row (by simpa using hk)
      exact ⟨⟨_, _, _, hc, by simp⟩, (hL.row.lt k (by simpa using hk)).1⟩)
  have hcv : ∀ g, L.cv.ownBlock = some g → g ∉ E.bB :: L.ov.ownBlock.toList := by
    intro g hg hm
    rcases List.mem_cons.1 hm with rfl | hm
    · exact row_ne h.crow hL.blk (by decide) hg
    · exact (h.ocn : ∀ g, L.ov.ownBlock = some g → L.cv.ownBlock ≠ some g) g (by simpa using hm) hg
  refine ⟨{ L with ov := v' }, rfl, ?_, kt.fr (by decide)⟩
  exact {
    fr := h.fr.trans (kt.fr (by decide))
    env := h.env
    lim := h.lim
    nds := fun i nd hi => ((h.nds i nd hi).kt kt (by decide)).loc rfl rfl rfl
    inj := h.inj
    bz := h.bz
    bB := h.bB
    bR := h.bR
    bN := h.bN
    kne := h.kne
    kel := h.kel
    uq := h.uq
    ael := h.ael
    wf := { h.wf with opn := hz }
    blk := ⟨_, L1.blk, hC.set_opn v' zs⟩
    orow := by simpa [List.map_map, Function.comp_def] using L1.row
    crow := k1.ownsRow h.crow hcv
    ocn := by
      intro g h1 h2
      have hlt := row_lt h.crow (g := g) h2
      rcases f1 with e | e
      · exact h.ocn g (by rw [← e]; exact h1) h2
      · have := e g h1; omega
    ole := by simpa using L1.le
    cle := h.cle
    wrow := kt.row h.wrow (by decide)
    wle := h.wle
    rd := kt.at h.rd (by decide)
    rsz := h.rsz
    tok := kt.row h.tok (by decide)
    tle := h.tle
    frs := h.frs }
theorem o_len {E : Env} {L : Loc} {σ : Ab} {w : World} (h : Rel E L σ w) :
    Calls Tryz.prog 269 #[.pointer (some ⟨E.bB, 188, none⟩)] w fun e w' => e = .returned (.int .i64 σ.opn.length) ∧ w' = w := by
  obtain ⟨C, hL, hC⟩ := h.lstO
  have := l_len E.bs E.bB 188 _ C _ _ w hL
  rwa [List.length_map] at this
theorem o_at {E : Env} {L : Loc} {σ : Ab} {w : World} (h : Rel E L σ w) (n : Int) :
    Calls Tryz.prog 248 #[.pointer (some ⟨E.bB, 188, none⟩), .int .i64 n] w fun e w' => e = .returned (enc (omap L.at' (getAt σ.opn n))) ∧ w' = w := by
  obtain ⟨C, hL, hC⟩ := h.lstO
  have := l_at E.bs E.bB 188 _ C _ _ n w hL
  rwa [getAt_map] at this
theorem o_last {E : Env} {L : Loc} {σ : Ab} {w : World} (h : Rel E L σ w) :
    Calls Tryz.prog 179 #[.pointer (some ⟨E.bB, 188, none⟩)] w fun e w' => e = .returned (enc (omap L.at' (getAt σ.opn ((σ.opn.length : Int) - 1)))) ∧ w' = w := by
  obtain ⟨C, hL, hC⟩ := h.lstO
  have := l_last E.bs E.bB 188 _ C _ _ w hL
  rwa [getAt_map, List.length_map] at this
theorem o_has {E : Env} {L : Loc} {σ : Ab} {w : World} (h : Rel E L σ w) (x : Option Nat) (hx : σ.isEl x = true) :
    Calls Tryz.prog 322 #[.pointer (some ⟨E.bB, 188, none⟩), enc (omap L.at' x)] w fun e w' => e = .returned (.bool (decide (x ∈ σ.opn))) ∧ w' = w := by
  obtain ⟨C, hL, hC⟩ := h.lstO
  have := l_has E.bs E.bB 188 _ C _ _ (omap L.at' x) w hL h.elO (h.isEl hx)
  rwa [decide_eq_decide.2 (mem_map h.inj σ.opn x)] at this
theorem o_rightAhead {E : Env} {L : Loc} {σ : Ab} {w : World} (h : Rel E L σ w) (x : Option Nat) (hx : σ.isEl x = true) :
    Calls Tryz.prog 246 #[.pointer (some ⟨E.bB, 188, none⟩), enc (omap L.at' x)] w fun e w' => e = .returned (enc (omap L.at' (getAt σ.opn (posOf σ.opn x - 1)))) ∧ w' = w := by
  obtain ⟨C, hL, hC⟩ := h.lstO
  have := l_rightAhead E.bs E.bB 188 _ C _ _ (omap L.at' x) w hL h.elO (h.isEl hx)
  rwa [posOf_map h.inj, getAt_map] at this
theorem o_push {E : Env} {L : Loc} {σ : Ab} {w : World} (h : Rel E L σ w) (x : Option Nat) (hx : σ.isElS x = true) (hl : σ.opn.length < 4096) :
    Calls Tryz.prog 271 #[.pointer (some ⟨E.bB, 188, none⟩), enc (omap L.at' x)] w fun e w' => e = .returned (.tuple #[]) ∧ To E L { σ with opn := σ.opn ++ [x] } w w' := by
  obtain ⟨C, hL, hC⟩ := h.lstO
  refine (l_push E.bs E.bB 188 _ C _ _ (omap L.at' x) w hL (by simpa using hl) h.bw).mono ?_
  rintro e w' ⟨rfl, ht⟩
  refine ⟨rfl, h.turnsO hL hC (by simpa using ht) fun y hy => ?_⟩
  rcases List.mem_append.1 hy with hy | hy
  · exact h.wf.opn y hy
  · rw [List.mem_singleton.1 hy]; exact hx
theorem o_pop {E : Env} {L : Loc} {σ : Ab} {w : World} (h : Rel E L σ w) :
    Calls Tryz.prog 184 #[.pointer (some ⟨E.bB, 188, none⟩)] w fun e w' => e = .returned (enc (omap L.at' (getAt σ.opn ((σ.opn.length : Int) - 1)))) ∧ To E L { σ with opn := σ.opn.dropLast } w w' := by
  obtain ⟨C, hL, hC⟩ := h.lstO
  refine (l_pop E.bs E.bB 188 _ C _ _ w hL).mono ?_
  rintro e w' ⟨rfl, ht⟩
  refine ⟨by rw [getAt_map, List.length_map], h.turnsO hL hC (by rw [List.map_dropLast]; exact ht) fun y hy => h.wf.opn y (List.dropLast_subset _ hy)⟩
theorem o_popTo {E : Env} {L : Loc} {σ : Ab} {w : World} (h : Rel E L σ w) (x : Option Nat) (hx : σ.isEl x = true) :
    Calls Tryz.prog 328 #[.pointer (some ⟨E.bB, 188, none⟩), enc (omap L.at' x)] w fun e w' => e = .returned (.tuple #[]) ∧ To E L { σ with opn := popTo σ.opn x } w w' := by
  obtain ⟨C, hL, hC⟩ := h.lstO
  refine (l_popTo E.bs E.bB 188 _ C _ _ (omap L.at' x) w hL (by decide) h.elO (h.isEl hx)).mono ?_
  rintro e w' ⟨rfl, ht⟩
  exact ⟨rfl, h.turnsO hL hC (by rw [← popTo_map h.inj]; exact ht) fun y hy => h.wf.opn y (popTo_sub hy)⟩
theorem o_remove {E : Env} {L : Loc} {σ : Ab} {w : World} (h : Rel E L σ w) (x : Option Nat) (hx : σ.isEl x = true) :
    Calls Tryz.prog 187 #[.pointer (some ⟨E.bB, 188, none⟩), enc (omap L.at' x)] w fun e w' => e = .returned (.tuple #[]) ∧ To E L { σ with opn := σ.opn.erase x } w w' := by
  obtain ⟨C, hL, hC⟩ := h.lstO
  refine (l_remove E.bs E.bB 188 _ C _ _ (omap L.at' x) w hL h.elO (h.isEl hx)).mono ?_
  rintro e w' ⟨rfl, ht⟩
  exact ⟨rfl, h.turnsO hL hC (by rw [← erase_map h.inj]; exact ht) fun y hy => h.wf.opn y (List.mem_of_mem_erase hy)⟩
theorem o_replace {E : Env} {L : Loc} {σ : Ab} {w : World} (h : Rel E L σ w) (x y : Option Nat) (hx : σ.isEl x = true) (hy : σ.isElS y = true) :
    Calls Tryz.prog 276 #[.pointer (some ⟨E.bB, 188, none⟩), enc (omap L.at' x), enc (omap L.at' y)] w fun e w' => e = .returned (.tuple #[]) ∧ To E L { σ with opn := repl σ.opn x y } w w' := by
  obtain ⟨C, hL, hC⟩ := h.lstO
  refine (l_replace E.bs E.bB 188 _ C _ _ (omap L.at' x) (omap L.at' y) w hL h.elO (h.isEl hx)).mono ?_
  rintro e w' ⟨rfl, ht⟩
  exact ⟨rfl, h.turnsO hL hC (by rw [← repl_map h.inj]; exact ht) fun z hz => by rcases repl_sub hz with hz | rfl; exact h.wf.opn z hz; exact hy⟩
theorem o_putBehind {E : Env} {L : Loc} {σ : Ab} {w : World} (h : Rel E L σ w) (x y : Option Nat) (hx : σ.isEl x = true) (hy : σ.isElS y = true) (hl : σ.opn.length < 4096) :
    Calls Tryz.prog 376 #[.pointer (some ⟨E.bB, 188, none⟩), enc (omap L.at' x), enc (omap L.at' y)] w fun e w' => e = .returned (.tuple #[]) ∧ To E L { σ with opn := putBehind σ.opn x y } w w' := by
  obtain ⟨C, hL, hC⟩ := h.lstO
  refine (l_putBehind E.bs E.bB 188 _ C _ _ (omap L.at' x) (omap L.at' y) w hL h.elO (h.isEl hx) (by simpa using hl) h.bw).mono ?_
  rintro e w' ⟨rfl, ht⟩
  exact ⟨rfl, h.turnsO hL hC (by rw [← putBehind_map h.inj]; exact ht) fun z hz => by rcases putBehind_sub hz with hz | rfl; exact h.wf.opn z hz; exact hy⟩
theorem Rel.lstA {E : Env} {L : Loc} {σ : Ab} {w : World} (h : Rel E L σ w) : ∃ C, Lst E.bs E.bB 189 180 C L.cv (σ.act.map (omap L.at')) w ∧ BCells E L σ C := by
  obtain ⟨C, hb, hC⟩ := h.blk
  refine ⟨C, ⟨hb, hC.act, ?_, by decide, by simpa using h.cle⟩, hC⟩
  simpa [List.map_map, Function.comp_def] using h.crow
theorem Rel.elA {E : Env} {L : Loc} {σ : Ab} {w : World} (h : Rel E L σ w) : ∀ x ∈ σ.act.map (omap L.at'), IsEl w x := by
  intro x hx
  obtain ⟨y, hy, rfl⟩ := List.mem_map.1 hx
  exact h.isEl (h.wf.act y hy)
theorem Rel.turnsA {E : Env} {L : Loc} {σ : Ab} {w w' : World} (h : Rel E L σ w) {C : Array Value} (hL : Lst E.bs E.bB 189 180 C L.cv (σ.act.map (omap L.at')) w) (hC : BCells E L σ C) {zs : List (Option Nat)} (ht : Turns E.bs E.bB 189 180 C L.cv (zs.map (omap L.at')) w w') (hz : ∀ x ∈ zs, σ.isEl x = true) : To E L { σ with act := zs } w w' := by
  obtain ⟨v', L1, k1, f1⟩ := ht
  have kt : KT E.bs [180, 72] w w' := .of_kept k1 (fun k hk _ => by
    rcases List.mem_cons.1 hk with rfl | hk
    · exact ⟨⟨_, _, _, hL.blk, by simp⟩, h.bB⟩
    · obtain ⟨c, m, hc⟩ := row_typ hL.row (by simpa using hk)
      exact ⟨⟨_, _, _, hc, by simp⟩, (hL.row.lt k (by simpa using hk)).1⟩)
  have hcv : ∀ g, L.ov.ownBlock = some g → g ∉ E.bB :: L.cv.ownBlock.toList := by
    intro g hg hm
    rcases List.mem_cons.1 hm with rfl | hm
    · exact row_ne h.orow hL.blk (by decide) hg
    · exact ((fun g h1 h2 => h.ocn g h2 h1) : ∀ g, L.cv.ownBlock = some g → L.ov.ownBlock ≠ some g) g (by simpa using hm) hg
  refine ⟨{ L with cv := v' }, rfl, ?_, kt.fr (by decide)⟩
  exact {
    fr := h.fr.trans (kt.fr (by decide))
    env := h.env
    lim := h.lim
    nds := fun i nd hi => ((h.nds i nd hi).kt kt (by decide)).loc rfl rfl rfl
    inj := h.inj
    bz := h.bz
    bB := h.bB
    bR := h.bR
    bN := h.bN
    kne := h.kne
    kel := h.kel
    uq := h.uq
    ael := h.ael
    wf := { h.wf with act := hz }
    blk := ⟨_, L1.blk, hC.set_act v' zs⟩
    crow := by simpa [List.map_map, Function.comp_def] using L1.row
    orow := k1.ownsRow h.orow hcv
    ocn := by
      intro g h1 h2
      have hlt := row_lt h.orow (g := g) h1
      rcases f1 with e | e
      · exact h.ocn g h1 (by rw [← e]; exact h2)
      · have := e g h2; omega
    cle := by simpa using L1.le
    ole := h.ole
    wrow := kt.row h.wrow (by decide)
    wle := h.wle
    rd := kt.at h.rd (by decide)
    rsz := h.rsz
    tok := kt.row h.tok (by decide)
    tle := h.tle
    frs := h.frs }
theorem a_len {E : Env} {L : Loc} {σ : Ab} {w : World} (h : Rel E L σ w) :
    Calls Tryz.prog 269 #[.pointer (some ⟨E.bB, 189, none⟩)] w fun e w' => e = .returned (.int .i64 σ.act.length) ∧ w' = w := by
  obtain ⟨C, hL, hC⟩ := h.lstA
  have := l_len E.bs E.bB 189 _ C _ _ w hL
  rwa [List.length_map] at this
theorem a_at {E : Env} {L : Loc} {σ : Ab} {w : World} (h : Rel E L σ w) (n : Int) :
    Calls Tryz.prog 248 #[.pointer (some ⟨E.bB, 189, none⟩), .int .i64 n] w fun e w' => e = .returned (enc (omap L.at' (getAt σ.act n))) ∧ w' = w := by
  obtain ⟨C, hL, hC⟩ := h.lstA
  have := l_at E.bs E.bB 189 _ C _ _ n w hL
  rwa [getAt_map] at this
theorem a_last {E : Env} {L : Loc} {σ : Ab} {w : World} (h : Rel E L σ w) :
    Calls Tryz.prog 179 #[.pointer (some ⟨E.bB, 189, none⟩)] w fun e w' => e = .returned (enc (omap L.at' (getAt σ.act ((σ.act.length : Int) - 1)))) ∧ w' = w := by
  obtain ⟨C, hL, hC⟩ := h.lstA
  have := l_last E.bs E.bB 189 _ C _ _ w hL
  rwa [getAt_map, List.length_map] at this
theorem a_has {E : Env} {L : Loc} {σ : Ab} {w : World} (h : Rel E L σ w) (x : Option Nat) (hx : σ.isEl x = true) :
    Calls Tryz.prog 322 #[.pointer (some ⟨E.bB, 189, none⟩), enc (omap L.at' x)] w fun e w' => e = .returned (.bool (decide (x ∈ σ.act))) ∧ w' = w := by
  obtain ⟨C, hL, hC⟩ := h.lstA
  have := l_has E.bs E.bB 189 _ C _ _ (omap L.at' x) w hL h.elA (h.isEl hx)
  rwa [decide_eq_decide.2 (mem_map h.inj σ.act x)] at this
theorem a_rightAhead {E : Env} {L : Loc} {σ : Ab} {w : World} (h : Rel E L σ w) (x : Option Nat) (hx : σ.isEl x = true) :
    Calls Tryz.prog 246 #[.pointer (some ⟨E.bB, 189, none⟩), enc (omap L.at' x)] w fun e w' => e = .returned (enc (omap L.at' (getAt σ.act (posOf σ.act x - 1)))) ∧ w' = w := by
  obtain ⟨C, hL, hC⟩ := h.lstA
  have := l_rightAhead E.bs E.bB 189 _ C _ _ (omap L.at' x) w hL h.elA (h.isEl hx)
  rwa [posOf_map h.inj, getAt_map] at this
theorem a_push {E : Env} {L : Loc} {σ : Ab} {w : World} (h : Rel E L σ w) (x : Option Nat) (hx : σ.isEl x = true) (hl : σ.act.length < 4096) :
    Calls Tryz.prog 271 #[.pointer (some ⟨E.bB, 189, none⟩), enc (omap L.at' x)] w fun e w' => e = .returned (.tuple #[]) ∧ To E L { σ with act := σ.act ++ [x] } w w' := by
  obtain ⟨C, hL, hC⟩ := h.lstA
  refine (l_push E.bs E.bB 189 _ C _ _ (omap L.at' x) w hL (by simpa using hl) h.bw).mono ?_
  rintro e w' ⟨rfl, ht⟩
  refine ⟨rfl, h.turnsA hL hC (by simpa using ht) fun y hy => ?_⟩
  rcases List.mem_append.1 hy with hy | hy
  · exact h.wf.act y hy
  · rw [List.mem_singleton.1 hy]; exact hx
theorem a_pop {E : Env} {L : Loc} {σ : Ab} {w : World} (h : Rel E L σ w) :
    Calls Tryz.prog 184 #[.pointer (some ⟨E.bB, 189, none⟩)] w fun e w' => e = .returned (enc (omap L.at' (getAt σ.act ((σ.act.length : Int) - 1)))) ∧ To E L { σ with act := σ.act.dropLast } w w' := by
  obtain ⟨C, hL, hC⟩ := h.lstA
  refine (l_pop E.bs E.bB 189 _ C _ _ w hL).mono ?_
  rintro e w' ⟨rfl, ht⟩
  refine ⟨by rw [getAt_map, List.length_map], h.turnsA hL hC (by rw [List.map_dropLast]; exact ht) fun y hy => h.wf.act y (List.dropLast_subset _ hy)⟩
theorem a_popTo {E : Env} {L : Loc} {σ : Ab} {w : World} (h : Rel E L σ w) (x : Option Nat) (hx : σ.isEl x = true) :
    Calls Tryz.prog 328 #[.pointer (some ⟨E.bB, 189, none⟩), enc (omap L.at' x)] w fun e w' => e = .returned (.tuple #[]) ∧ To E L { σ with act := popTo σ.act x } w w' := by
  obtain ⟨C, hL, hC⟩ := h.lstA
  refine (l_popTo E.bs E.bB 189 _ C _ _ (omap L.at' x) w hL (by decide) h.elA (h.isEl hx)).mono ?_
  rintro e w' ⟨rfl, ht⟩
  exact ⟨rfl, h.turnsA hL hC (by rw [← popTo_map h.inj]; exact ht) fun y hy => h.wf.act y (popTo_sub hy)⟩
theorem a_remove {E : Env} {L : Loc} {σ : Ab} {w : World} (h : Rel E L σ w) (x : Option Nat) (hx : σ.isEl x = true) :
    Calls Tryz.prog 187 #[.pointer (some ⟨E.bB, 189, none⟩), enc (omap L.at' x)] w fun e w' => e = .returned (.tuple #[]) ∧ To E L { σ with act := σ.act.erase x } w w' := by
  obtain ⟨C, hL, hC⟩ := h.lstA
  refine (l_remove E.bs E.bB 189 _ C _ _ (omap L.at' x) w hL h.elA (h.isEl hx)).mono ?_
  rintro e w' ⟨rfl, ht⟩
  exact ⟨rfl, h.turnsA hL hC (by rw [← erase_map h.inj]; exact ht) fun y hy => h.wf.act y (List.mem_of_mem_erase hy)⟩
theorem a_replace {E : Env} {L : Loc} {σ : Ab} {w : World} (h : Rel E L σ w) (x y : Option Nat) (hx : σ.isEl x = true) (hy : σ.isEl y = true) :
    Calls Tryz.prog 276 #[.pointer (some ⟨E.bB, 189, none⟩), enc (omap L.at' x), enc (omap L.at' y)] w fun e w' => e = .returned (.tuple #[]) ∧ To E L { σ with act := repl σ.act x y } w w' := by
  obtain ⟨C, hL, hC⟩ := h.lstA
  refine (l_replace E.bs E.bB 189 _ C _ _ (omap L.at' x) (omap L.at' y) w hL h.elA (h.isEl hx)).mono ?_
  rintro e w' ⟨rfl, ht⟩
  exact ⟨rfl, h.turnsA hL hC (by rw [← repl_map h.inj]; exact ht) fun z hz => by rcases repl_sub hz with hz | rfl; exact h.wf.act z hz; exact hy⟩
theorem a_putBehind {E : Env} {L : Loc} {σ : Ab} {w : World} (h : Rel E L σ w) (x y : Option Nat) (hx : σ.isEl x = true) (hy : σ.isEl y = true) (hl : σ.act.length < 4096) :
    Calls Tryz.prog 376 #[.pointer (some ⟨E.bB, 189, none⟩), enc (omap L.at' x), enc (omap L.at' y)] w fun e w' => e = .returned (.tuple #[]) ∧ To E L { σ with act := putBehind σ.act x y } w w' := by
  obtain ⟨C, hL, hC⟩ := h.lstA
  refine (l_putBehind E.bs E.bB 189 _ C _ _ (omap L.at' x) (omap L.at' y) w hL h.elA (h.isEl hx) (by simpa using hl) h.bw).mono ?_
  rintro e w' ⟨rfl, ht⟩
  exact ⟨rfl, h.turnsA hL hC (by rw [← putBehind_map h.inj]; exact ht) fun z hz => by rcases putBehind_sub hz with hz | rfl; exact h.wf.act z hz; exact hy⟩
end Go.Proofs.YtlhhgenpcjjajaaGreatDoor
