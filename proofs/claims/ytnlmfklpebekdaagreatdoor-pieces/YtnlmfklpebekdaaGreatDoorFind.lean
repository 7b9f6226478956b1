import Derived.Test.YtnlmfklpebekdaaGreatDoorErrsD
import Derived.Test.YtnlmfklpebekdaaGreatDoorKept
import Derived.Defers
import Derived.Recover
import Derived.Laws.Pointers
import Derived.Outline
import Derived.Deep.RegionWith
set_option linter.unusedSimpArgs false
set_option linter.unusedVariables false
namespace Go.Proofs.YtnlmfklpebekdaaGreatDoor
open Go.RowKit Go.Extern.Stop Go.Stop Go.Extern

/-- what errors.errorType holds. -/
def errorType (w : World) : Prop := w.cell? ⟨0, 0, none⟩ = some (.iface 106 (.agg #[.pointer (some ⟨4, 54, none⟩)]))

theorem as_hitK (n : Int) (t : Nat) (old : Value) (w : World) (hg : errorType w) (ht : w.heap[t]? = some (.cells #[old] 24 (0, 0))) :
    Calls Tryz.prog 25 #[.iface 24 (.int .i64 n), .iface 75 (.pointer (some ⟨t, 0, none⟩))] w fun ev w' => ev = .returned (.bool true) ∧ w'.heap[t]? = some (.cells #[.int .i64 n] 24 (0, 0)) ∧ Kept [t] w w' := by
  refine (as_hit n ⟨t, 0, none⟩ old w hg (cell_of_one ht) (free_of_one ht)).mono ?_
  rintro e w' ⟨rfl, rfl⟩
  refine ⟨rfl, one_setCell (v := old) ?_, ?_⟩
  · have hl := lt_of_block ht
    rw [Below.heap_alloc _ _ _ (by simp; omega), Below.heap_alloc _ _ _ (by simp; omega), Below.heap_alloc _ _ _ (by simp; omega), Below.heap_alloc _ _ _ hl]
    exact ht
  · exact Kept.setCell ((((Kept.refl _ _).alloc _).alloc _).alloc _ |>.alloc _) (.inl (by simp)) _

theorem as_missK (n : Int) (t : Addr) (w : World) (hg : errorType w) :
    Calls Tryz.prog 25 #[.iface 24 (.int .i64 n), .iface 70 (.pointer (some t))] w fun ev w' => ev = .returned (.bool false) ∧ Kept [] w w' := by
  refine (as_miss n t w hg).mono ?_
  rintro e w' ⟨rfl, rfl⟩
  exact ⟨rfl, (((Kept.refl _ _).alloc _).alloc _).alloc _⟩

theorem catch_idle (p q : Addr) (w : World) :
    CallsD Tryz.prog 45 #[.pointer (some p), .pointer (some q)] .returning w fun e u' w' => e = .returned (.tuple #[]) ∧ u' = .returning ∧ w' = w := by
  refine callsD_of_wpS Tryz.func45 rfl fun c₀ cs hu => ?_
  apply wpS_seq
  apply wpS_region
  simp [wpOpsS, go_sem, recoverD, hu, Tryz.ntmps45, Exit.thenS]
  refine wpS_cond (t := false) (by simp [Act.eval, Array.replicate]) ?_
  simp only [Bool.false_eq_true, if_false]
  refine wpS_of_wp (wp_skip ?_)
  cases c₀
  simp_all [bodyPostS, results, Tryz.results45]

theorem errorType_alloc {w : World} (h : errorType w) (o : Obj) : errorType (w.alloc o) := by
  have : 0 < w.heap.size := by
    rcases Nat.eq_zero_or_pos w.heap.size with h0 | h'
    · simp [errorType, World.cell?, h0] at h
    · exact h'
  show (w.alloc o).cell? _ = _
  rw [World.cell?_alloc_lt _ _ _ this]; exact h

set_option maxHeartbeats 1000000 in
theorem find_errno (n : Int) (w : World) (hg : errorType w) :
    Calls Tryz.prog 36 #[.iface 24 (.int .i64 n)] w fun e w' => e = .returned (.tuple #[.int .i64 n, .bool true]) ∧ Kept [] w w' := by
  have hmf : ∀ (fn : Fn) (first cap : Array Value) (w : World), (Instr.makeFunc fn first cap).run Tryz.prog w = .ok (.func fn first cap) w := fun _ _ _ _ => rfl
  have hg2 := errorType_alloc (errorType_alloc hg (.cells #[.int .i64 0] 24)) (.cells #[.bool false] 4)
  go_enter_defers Tryz.func36, Tryz.ntmps36
  go_wp2_with fail
  refine (as_hitK n w.heap.size _ _ hg2 (by rw [Below.heap_alloc _ _ _ (by simp)]; exact heap_alloc_at _ _)).mono ?_
  rintro e w1 ⟨rfl, h1, hk⟩
  have h2 : w1.heap[w.heap.size + 1]? = some (.cells #[.bool false] 4 (0, 0)) := by
    refine hk.at ?_ (by simp)
    have := heap_alloc_at (w.alloc (.cells #[.int .i64 0] 24)) (.cells #[.bool false] 4)
    simpa using this
  have c1 := cell_of_one h1
  have c2 := cell_of_one h2
  have f1 := free_of_one h1
  have f2 := free_of_one h2
  have K1 : Kept [] w w1 := ((((Kept.refl _ _).alloc _).alloc _).trans (S := [w.heap.size]) hk).mono (by intro k hm hl; simp at hm; omega)
  clear hk
  have z1 := lt_of_block h1
  have z2 := lt_of_block h2
  have H1 : Hid _ := h1
  have H2 : Hid _ := h2
  clear h1 h2 hg hg2
  go_wp2_with fail
  go_region
  all_goals go_wp2
  refine leaves_cons (f := 45) (args := #[.pointer (some ⟨w.heap.size, 0, none⟩), .pointer (some ⟨w.heap.size + 1, 0, none⟩)]) (by simp) (by simp [go_sem]) ?_
  refine (catch_idle ⟨w.heap.size, 0, none⟩ ⟨w.heap.size + 1, 0, none⟩ _).mono ?_
  rintro e u' w'' ⟨rfl, rfl, rfl⟩
  have K2 : Kept [] w (((w1.setCell ⟨w.heap.size + 1, 0, none⟩ (.bool true)).setCell ⟨w.heap.size, 0, none⟩ (.int .i64 n)).setCell ⟨w.heap.size + 1, 0, none⟩ (.bool true)).drew :=
    (((K1.setCell (.inr (by simp)) _).setCell (.inr (by simp)) _).setCell (.inr (by simp)) _).drew
  simp [Leaves, settle, results, Tryz.results36, go_sem, c1, c2]
  exact K2
end Go.Proofs.YtnlmfklpebekdaaGreatDoor

namespace Go.Proofs.YtnlmfklpebekdaaGreatDoor
open Go.RowKit

/-! A region that draws its order, taken operation by operation in an order of one's own -/
section
variable {P : Program} {ops : Array Oper} {Q : Exit → Act → World → Prop} {md : Region.Mode}
theorem take_run {i : Nat} {oi : Oper} {fuel : Nat} {listed : Array Bool} {a : Act} {w : World} (d : Option Tmp) (v : Value) (hi : ops[i]? = some oi) (hd : oi.dst = d)
    (hs : Region.noSelect ops = true) (hf : Region.free md ops listed i = true) (hr : (Region.ready md ops listed).contains i = true)
    (hQ : ∀ c a w, Q (.panic c) (a.put d v) w → Q (.panic c) a w) (hw : Region.wanted oi (yielded ops a.tmps) = true) (hv : ∀ w, (execOp a.eval oi).run P w = .ok (.value v) w)
    (h : wpAny P md ops Q fuel (listed.setIfInBounds i true) (a.put d v) w) : wpAny P md ops Q (fuel + 1) listed a w := by
  subst hd
  exact wpAny_take hi hs hf hr hQ (Or.inl ⟨hw, hv⟩) h
theorem take_skip {i : Nat} {oi : Oper} {fuel : Nat} {listed : Array Bool} {a : Act} {w : World} (d : Option Tmp) (hi : ops[i]? = some oi) (hd : oi.dst = d)
    (hs : Region.noSelect ops = true) (hf : Region.free md ops listed i = true) (hr : (Region.ready md ops listed).contains i = true)
    (hQ : ∀ c a w, Q (.panic c) (a.put d undef) w → Q (.panic c) a w) (hw : Region.wanted oi (yielded ops a.tmps) = false)
    (h : wpAny P md ops Q fuel (listed.setIfInBounds i true) (a.put d undef) w) : wpAny P md ops Q (fuel + 1) listed a w := by
  subst hd
  exact wpAny_take hi hs hf hr hQ (Or.inr ⟨hw, rfl⟩) h
end
end Go.Proofs.YtnlmfklpebekdaaGreatDoor
