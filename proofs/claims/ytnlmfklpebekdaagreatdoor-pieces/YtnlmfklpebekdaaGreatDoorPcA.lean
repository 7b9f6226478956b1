import Derived.Test.YtnlmfklpebekdaaGreatDoorKrC
import Derived.Test.YtnlmfklpebekdaaGreatDoorPuC
set_option linter.unusedSimpArgs false
set_option linter.unusedVariables false
namespace Go.Proofs.YtnlmfklpebekdaaGreatDoor
open Go.RowKit Go.PlainAid

theorem span_row2 {w : World} {base g cap : Nat} {L : List Sp} (ho : w.ownsRow base 52 3 (.slice (some ⟨g, 0, none⟩) L.length cap) L.length (scells L)) : SpanRow w g 0 L.length (spAt L) := by
  have key : ∀ (L : List Sp) (i k : Nat), i < L.length → k < 3 → (scells L)[i * 3 + k]? = [Value.int .i64 (spAt L i).k, .int .i64 (spAt L i).a, .int .i64 (spAt L i).b][k]? := by
    intro L
    induction L with
    | nil => intro i k h; simp at h
    | cons p L ih =>
      intro i k hi hk
      show (Value.int .i64 p.k :: .int .i64 p.a :: .int .i64 p.b :: scells L)[i * 3 + k]? = _
      cases i with
      | zero =>
        have e : spAt (p :: L) 0 = p := rfl
        rw [e, Nat.zero_mul, Nat.zero_add]
        match k, hk with
        | 0, _ => rfl
        | 1, _ => rfl
        | 2, _ => rfl
      | succ i =>
        have e : spAt (p :: L) (i + 1) = spAt L i := by unfold spAt; simp
        rw [e, show (i + 1) * 3 + k = (i * 3 + k) + 1 + 1 + 1 by omega]
        simp only [List.getElem?_cons_succ]
        exact ih i k (by simpa using hi) hk
  have c : ∀ i k, i < L.length → k < 3 → w.cell? ⟨g, i * 3 + k, none⟩ = [Value.int .i64 (spAt L i).k, .int .i64 (spAt L i).a, .int .i64 (spAt L i).b][k]? := by
    intro i k hi hk
    match k, hk with
    | 0, hk => have := ho.cells (g := g) rfl (i * 3 + 0) _ (key L i 0 hi hk); rw [addr_add] at this; exact this
    | 1, hk => have := ho.cells (g := g) rfl (i * 3 + 1) _ (key L i 1 hi hk); rw [addr_add] at this; exact this
    | 2, hk => have := ho.cells (g := g) rfl (i * 3 + 2) _ (key L i 2 hi hk); rw [addr_add] at this; exact this
  refine ⟨fun i hi => ?_, fun i hi => ?_, fun i hi => ?_⟩
  · rw [Nat.zero_add]; exact c i 0 hi (by omega)
  · rw [Nat.zero_add]; exact c i 1 hi (by omega)
  · rw [Nat.zero_add]; exact c i 2 hi (by omega)

theorem ksame_items (w : World) : Calls Tryz.prog 17 #[.slice none 0 0, .slice none 0 0] w fun e w' => e = .returned (.bool true) ∧ w' = w := by
  go_enter Tryz.func17, Tryz.ntmps17
  go_wp2
  refine wp_loop_rounds 1 ?_
  rw [rounds_succ]
  go_wp2
  go_ret
  exact ⟨rfl, rfl⟩
theorem ksame_spans_zero (a1 a2 : Option Addr) (c1 c2 : Nat) (w : World) : Calls Tryz.prog 18 #[.slice a1 0 c1, .slice a2 0 c2] w fun e w' => e = .returned (.bool true) ∧ Kept [] w w' := by
  go_enter Tryz.func18, Tryz.ntmps18
  go_wp2
  refine wp_loop_rounds 1 ?_
  rw [rounds_succ]
  go_wp2
  go_ret
  exact ⟨rfl, Kept.refl _ _⟩
theorem ksame_spans (b1 b2 : Nat) (v1 v2 : Value) (L : List Sp) (w : World) (h1 : w.ownsRow b1 52 3 v1 L.length (scells L)) (h2 : w.ownsRow b2 52 3 v2 L.length (scells L)) (hL : L.length ≤ 4096) :
    Calls Tryz.prog 18 #[v1, v2] w fun e w' => e = .returned (.bool true) ∧ Kept [] w w' := by
  by_cases h0 : L.length = 0
  · obtain ⟨a1, c1, rfl⟩ := owns_shape h1
    obtain ⟨a2, c2, rfl⟩ := owns_shape h2
    rw [h0]
    exact ksame_spans_zero a1 a2 c1 c2 w
  · rcases h1.2 with ⟨_, h⟩ | ⟨g1, c1, u1, rfl, _, hg1, _⟩
    · exact absurd h h0
    rcases h2.2 with ⟨_, h⟩ | ⟨g2, c2, u2, rfl, _, hg2, _⟩
    · exact absurd h h0
    refine (same_spans_yes g1 0 c1 g2 0 c2 L.length (spAt L) (spAt L) w (span_row2 h1) (span_row2 h2) (by omega) (fun _ _ => rfl)).mono ?_
    rintro e w' ⟨h, q, rfl⟩
    exact ⟨h, (Kept.refl [] w).drewN q⟩

set_option maxRecDepth 100000 in
set_option maxHeartbeats 1000000 in
theorem same_any (e at_ : Int) (b1 b2 : Nat) (v1 v2 : Value) (L : List Sp) (w : World) (h1 : w.ownsRow b1 52 3 v1 L.length (scells L)) (h2 : w.ownsRow b2 52 3 v2 L.length (scells L)) (hL : L.length ≤ 4096) :
    Calls Tryz.prog 7 #[.agg #[.int .i64 e, .int .i64 at_, .slice none 0 0, .string ⟨#[]⟩, v1], .agg #[.int .i64 e, .int .i64 at_, .slice none 0 0, .string ⟨#[]⟩, v2]] w fun en w' => en = .returned (.bool true) ∧ Kept [] w w' := by
  obtain ⟨a1, c1, hv1⟩ := owns_shape h1
  obtain ⟨a2, c2, hv2⟩ := owns_shape h2
  have k2 : Kept [] w ((w.alloc (.cells #[.int .i64 e, .int .i64 at_, .slice none 0 0, .string ⟨#[]⟩, v1] 28)).alloc (.cells #[.int .i64 e, .int .i64 at_, .slice none 0 0, .string ⟨#[]⟩, v2] 28)) := ((Kept.refl [] w).alloc _).alloc _
  have CS := hide (ksame_spans b1 b2 v1 v2 L _ (k2.ownsRow h1 (fun _ _ => by simp)) (k2.ownsRow h2 (fun _ _ => by simp)) hL)
  have HB1 := hide (show ((w.alloc (.cells #[.int .i64 e, .int .i64 at_, .slice none 0 0, .string ⟨#[]⟩, v1] 28)).alloc (.cells #[.int .i64 e, .int .i64 at_, .slice none 0 0, .string ⟨#[]⟩, v2] 28)).heap[w.heap.size]? = some (.cells #[.int .i64 e, .int .i64 at_, .slice none 0 0, .string ⟨#[]⟩, v1] 28 (0, 0)) by
    rw [Below.heap_alloc _ _ _ (by simp)]; exact heap_alloc_at w _)
  have HB2 := hide (show ((w.alloc (.cells #[.int .i64 e, .int .i64 at_, .slice none 0 0, .string ⟨#[]⟩, v1] 28)).alloc (.cells #[.int .i64 e, .int .i64 at_, .slice none 0 0, .string ⟨#[]⟩, v2] 28)).heap[w.heap.size + 1]? = some (.cells #[.int .i64 e, .int .i64 at_, .slice none 0 0, .string ⟨#[]⟩, v2] 28 (0, 0)) by
    have := heap_alloc_at (w.alloc (.cells #[.int .i64 e, .int .i64 at_, .slice none 0 0, .string ⟨#[]⟩, v1] 28)) (.cells #[.int .i64 e, .int .i64 at_, .slice none 0 0, .string ⟨#[]⟩, v2] 28)
    simpa using this)
  subst hv1 hv2
  have HK := hide k2
  clear h1 h2 k2
  go_enter Tryz.func7, Tryz.ntmps7
  go_wp2_with fail
  refine (ksame_items _).mono ?_
  rintro en w1 ⟨rfl, rfl⟩
  go_wp2_with fail
  refine CS.out.mono ?_
  rintro en w2 ⟨rfl, hk2⟩
  have x1 := hk2.at HB1.out (by simp)
  have x2 := hk2.at HB2.out (by simp)
  have p0 : w2.cell? ⟨w.heap.size, 0, none⟩ = some (.int .i64 e) := by rw [cell_at x1]; rfl
  have p1 : w2.cell? ⟨w.heap.size, 1, none⟩ = some (.int .i64 at_) := by rw [cell_at x1]; rfl
  have p3 : w2.cell? ⟨w.heap.size, 3, none⟩ = some (.string ⟨#[]⟩) := by rw [cell_at x1]; rfl
  have q0 : w2.cell? ⟨w.heap.size + 1, 0, none⟩ = some (.int .i64 e) := by rw [cell_at x2]; rfl
  have q1 : w2.cell? ⟨w.heap.size + 1, 1, none⟩ = some (.int .i64 at_) := by rw [cell_at x2]; rfl
  have q3 : w2.cell? ⟨w.heap.size + 1, 3, none⟩ = some (.string ⟨#[]⟩) := by rw [cell_at x2]; rfl
  have HK2 := hide (HK.out.trans hk2)
  clear hk2 x1 x2
  go_wp2
  go_ret
  exact ⟨rfl, HK2.out⟩

set_option maxRecDepth 100000 in
set_option maxHeartbeats 1000000 in
theorem pick_any (c : Int) (w : World) (h0 : -9223372036854775808 ≤ c) (h1 : c ≤ 9223372036854775807) :
    Calls Tryz.prog 5 #[.int .i64 c, .int .i64 40] w fun e w' => (∃ m : Nat, m ≤ 39 ∧ e = .returned (.int .i64 (m : Int))) ∧ w' = w := by
  by_cases hc : c < 0
  · have hd : 0 ≤ -(c + 1) := by omega
    have hr : (-(c + 1)).tmod 40 = (((-(c + 1)).toNat % 40 : Nat) : Int) := by rw [Int.tmod_eq_emod_of_nonneg hd]; omega
    go_enter Tryz.func5, Tryz.ntmps5
    go_wp2
    go_ret
    refine ⟨⟨(-(c + 1)).toNat % 40, by omega, ?_⟩, rfl⟩
    have e9 : max (-(c + 1)) 0 % 40 = (((-(c + 1)).toNat % 40 : Nat) : Int) := by omega
    show Ending.returned (Value.int .i64 (max (-(c + 1)) 0 % 40)) = _
    rw [e9]
  · have hr : c.tmod 40 = ((c.toNat % 40 : Nat) : Int) := by rw [Int.tmod_eq_emod_of_nonneg (by omega)]; omega
    go_enter Tryz.func5, Tryz.ntmps5
    go_wp2
    go_ret
    refine ⟨⟨c.toNat % 40, by omega, ?_⟩, rfl⟩
    have e9 : max c 0 % 40 = ((c.toNat % 40 : Nat) : Int) := by omega
    show Ending.returned (Value.int .i64 (max c 0 % 40)) = _
    rw [e9]
end Go.Proofs.YtnlmfklpebekdaaGreatDoor
