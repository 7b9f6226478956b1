import Derived.Test.YtnlmfklpebekdaaGreatDoorWr
import Derived.Deep.QuietTactic
import Derived.BigQuiet
import Derived.Laws.StructEq
set_option linter.unusedSimpArgs false
set_option linter.unusedVariables false
namespace Go.Proofs.YtnlmfklpebekdaaGreatDoor
open Go.RowKit

/-- A list of spans, as it lies in memory. -/
structure Sp where
  k : Int
  a : Int
  b : Int
structure SpanRow (w : World) (g off n : Nat) (A : Nat → Sp) : Prop where
  c0 : ∀ i, i < n → w.cell? ⟨g, off + i * 3, none⟩ = some (.int .i64 (A i).k)
  c1 : ∀ i, i < n → w.cell? ⟨g, off + i * 3 + 1, none⟩ = some (.int .i64 (A i).a)
  c2 : ∀ i, i < n → w.cell? ⟨g, off + i * 3 + 2, none⟩ = some (.int .i64 (A i).b)

theorem sp_cell (w : World) (q : Nat) (a : Addr) : (w.drewN q).cell? a = w.cell? a := rfl

set_option maxRecDepth 100000 in
set_option maxHeartbeats 1000000 in
theorem same_spans_yes (ga oa ca gb ob cb n : Nat) (A B : Nat → Sp) (w : World) (hA : SpanRow w ga oa n A) (hB : SpanRow w gb ob n B) (hn : n ≤ 140737488351232) (hAB : ∀ i, i < n → A i = B i) :
    Calls Tryz.prog 18 #[.slice (some ⟨ga, oa, none⟩) n ca, .slice (some ⟨gb, ob, none⟩) n cb] w fun e w' => e = .returned (.bool true) ∧ ∃ q, w' = w.drewN q := by
  have HA := hide hA
  have HB := hide hB
  have HAB := hide hAB
  clear hA hB hAB
  go_enter Tryz.func18, Tryz.ntmps18
  go_wp2
  go_loopw [5] (fun i wr => ∃ k : Nat, k ≤ n ∧ i = .int .i64 k ∧ ∃ q, wr = w.drewN q) (fun i _ => n - (intOf i).toNat)
  case atStart => exact ⟨0, Nat.zero_le _, rfl, 0, rfl⟩
  case round =>
    obtain ⟨k, hk, rfl, hq⟩ := hrel
    have HQ := hide hq
    clear hq
    by_cases hlt : k < n
    · have a0 : wr.cell? ⟨ga, oa + k * 3, none⟩ = some (.int .i64 (A k).k) := by obtain ⟨q, rfl⟩ := HQ.out; rw [sp_cell]; exact HA.out.c0 k hlt
      have a1 : wr.cell? ⟨ga, oa + k * 3 + 1, none⟩ = some (.int .i64 (A k).a) := by obtain ⟨q, rfl⟩ := HQ.out; rw [sp_cell]; exact HA.out.c1 k hlt
      have a2 : wr.cell? ⟨ga, oa + k * 3 + 2, none⟩ = some (.int .i64 (A k).b) := by obtain ⟨q, rfl⟩ := HQ.out; rw [sp_cell]; exact HA.out.c2 k hlt
      have b0 : wr.cell? ⟨gb, ob + k * 3, none⟩ = some (.int .i64 (B k).k) := by obtain ⟨q, rfl⟩ := HQ.out; rw [sp_cell]; exact HB.out.c0 k hlt
      have b1 : wr.cell? ⟨gb, ob + k * 3 + 1, none⟩ = some (.int .i64 (B k).a) := by obtain ⟨q, rfl⟩ := HQ.out; rw [sp_cell]; exact HB.out.c1 k hlt
      have b2 : wr.cell? ⟨gb, ob + k * 3 + 2, none⟩ = some (.int .i64 (B k).b) := by obtain ⟨q, rfl⟩ := HQ.out; rw [sp_cell]; exact HB.out.c2 k hlt
      rw [← HAB.out k hlt] at b0 b1 b2
      generalize (A k).k = x at a0 b0
      generalize (A k).a = y at a1 b1
      generalize (A k).b = z at a2 b2
      go_wp2_with fail
      go_quiet (fail)
      go_wp2
      go_roundw
      case rel => exact ⟨k + 1, by omega, by go_num, by obtain ⟨q, rfl⟩ := HQ.out; exact ⟨_, World.drewN_drewN _ _ _⟩⟩
      case measure => simp [intOf]; omega
    · go_wp2
      go_ret
      exact ⟨rfl, HQ.out⟩
end Go.Proofs.YtnlmfklpebekdaaGreatDoor
