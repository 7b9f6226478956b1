import Derived.Test.YtifhedfigbdgnaaGreatDoorLawC
import Derived.Deep.QuietTactic
import Derived.BigQuiet
namespace Go.Proofs.YtifhedfigbdgnaaGreatDoor
open Go.RowKit Go.Extern.Stop Go.Stop Go.Extern

theorem drewN_cell (w : World) (q : Nat) (a : Addr) : (w.drewN q).cell? a = w.cell? a := rfl

theorem nils_at {w : World} {base g n cap : Nat} {e : TypeId} (h : w.ownsRow base e 2 (.slice (some ⟨g, 0, none⟩) n cap) n (nils n)) (k : Nat) (hk : k < n) :
    w.cell? ⟨g, k * 2, none⟩ = some (.slice none 0 0) ∧ w.cell? ⟨g, k * 2 + 1, none⟩ = some (.slice none 0 0) := by
  rw [h.cellAt (k * 2) (by omega), h.cellAt (k * 2 + 1) (by omega)]
  constructor
  · rw [nils, List.getElem?_replicate, if_pos (by omega)]
  · rw [nils, List.getElem?_replicate, if_pos (by omega)]

set_option maxRecDepth 100000 in
set_option maxHeartbeats 1000000 in
theorem looks_ok (base bW n nI nS : Nat) (P : Nat → PState) (vI vX vM vS : Value) (w : World) (h : Inv base bW n nI nS P vI vX vM vS w) (hI : nI ≤ 1048576) (hS : nS ≤ 1048576) :
    Calls Tryz.prog 19 #[.pointer (some ⟨bW, 0, none⟩)] w fun e w' => e = .returned (.bool true) ∧ ∃ q, w' = w.drewN q := by
  obtain ⟨aI, cI, hvI⟩ := owns_shape h.I
  obtain ⟨aS, cS, hvS⟩ := owns_shape h.S
  subst hvI hvS
  have c0 : w.cell? ⟨bW, 0, none⟩ = some (.slice aI nI cI) := by rw [cell_at h.W]; rfl
  have c3 : w.cell? ⟨bW, 3, none⟩ = some (.slice aS nS cS) := by rw [cell_at h.W]; rfl
  have H := hide h
  clear h
  go_enter Tryz.func19, Tryz.ntmps19
  go_wp2
  go_loopw [3] (fun i wr => ∃ k : Nat, k ≤ nI ∧ i = .int .i64 k ∧ ∃ q, wr = w.drewN q) (fun i _ => nI - (intOf i).toNat)
  case atStart => exact ⟨0, Nat.zero_le _, rfl, 0, rfl⟩
  case round =>
    obtain ⟨k, hk, rfl, hq⟩ := hrel
    have c0' : wr.cell? ⟨bW, 0, none⟩ = some (.slice aI nI cI) := by obtain ⟨q, rfl⟩ := hq; rw [drewN_cell]; exact c0
    have c3' : wr.cell? ⟨bW, 3, none⟩ = some (.slice aS nS cS) := by obtain ⟨q, rfl⟩ := hq; rw [drewN_cell]; exact c3
    have HQ := hide hq
    clear hq
    by_cases hlt : k < nI
    · obtain ⟨g, rfl⟩ : ∃ g, aI = some ⟨g, 0, none⟩ := by
        rcases H.out.I.2 with ⟨h, h0⟩ | ⟨g, cap, cur, h, _⟩
        · omega
        · simp at h; exact ⟨g, h.1⟩
      obtain ⟨d0, d1⟩ := nils_at H.out.I k hlt
      have d0' : wr.cell? ⟨g, k * 2, none⟩ = some (.slice none 0 0) := by obtain ⟨q, rfl⟩ := HQ.out; rw [drewN_cell]; exact d0
      have d1' : wr.cell? ⟨g, k * 2 + 1, none⟩ = some (.slice none 0 0) := by obtain ⟨q, rfl⟩ := HQ.out; rw [drewN_cell]; exact d1
      clear d0 d1 c0 c3
      go_wp2_with fail
      go_quiet ((go_at_call 46; exact Calls.quiet_of_same (same_items_nil _)))
      go_wp2
      go_roundw
      case rel => exact ⟨k + 1, by omega, by go_num, by obtain ⟨q, rfl⟩ := HQ.out; exact ⟨_, World.drewN_drewN _ _ _⟩⟩
      case measure => simp [intOf]; omega
    · have HC3 := hide c3
      clear c0 c3
      go_wp2_with fail
      clear c0'
      go_loopw [5] (fun i ws => ∃ k : Nat, k ≤ nS ∧ i = .int .i64 k ∧ ∃ q, ws = w.drewN q) (fun i _ => nS - (intOf i).toNat)
      case atStart => exact ⟨0, Nat.zero_le _, rfl, HQ.out⟩
      case round =>
        clear c3' HQ hlt hk
        obtain ⟨l, hl, rfl, hq⟩ := hrel
        have c4 : wr.cell? ⟨bW, 3, none⟩ = some (.slice aS nS cS) := by obtain ⟨q, rfl⟩ := hq; rw [drewN_cell]; exact HC3.out
        have HQ := hide hq
        clear hq
        by_cases hlt : l < nS
        · obtain ⟨g, rfl⟩ : ∃ g, aS = some ⟨g, 0, none⟩ := by
            rcases H.out.S.2 with ⟨h, h0⟩ | ⟨g, cap, cur, h, _⟩
            · omega
            · simp at h; exact ⟨g, h.1⟩
          obtain ⟨d0, d1⟩ := nils_at H.out.S l hlt
          have d0' : wr.cell? ⟨g, l * 2, none⟩ = some (.slice none 0 0) := by obtain ⟨q, rfl⟩ := HQ.out; rw [drewN_cell]; exact d0
          have d1' : wr.cell? ⟨g, l * 2 + 1, none⟩ = some (.slice none 0 0) := by obtain ⟨q, rfl⟩ := HQ.out; rw [drewN_cell]; exact d1
          clear d0 d1
          go_wp2_with fail
          go_quiet ((go_at_call 47; exact Calls.quiet_of_same (same_spans_nil _)))
          go_wp2
          go_roundw
          case rel => exact ⟨l + 1, by omega, by go_num, by obtain ⟨q, rfl⟩ := HQ.out; exact ⟨_, World.drewN_drewN _ _ _⟩⟩
          case measure => simp [intOf]; omega
        · go_wp2
          go_ret
          exact ⟨rfl, HQ.out⟩
end Go.Proofs.YtifhedfigbdgnaaGreatDoor
