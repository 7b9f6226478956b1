import Derived.Test.YtifhedfigbdgnaaGreatDoorStepC
namespace Go.Proofs.YtifhedfigbdgnaaGreatDoor
open Go.RowKit Go.Extern.Stop Go.Stop Go.Extern

structure OpRec where
  kd : Int
  A : Int
  B : Int
  C : Int
  S : ByteArray
  T : ByteArray

/-- The script as it lies in memory: len steps from (b, off) on. -/
structure Script (w : World) (b off len : Nat) (ops : Nat → OpRec) : Prop where
  c0 : ∀ k, k < len → w.cell? ⟨b, off + k * 6, none⟩ = some (.int .i64 (ops k).kd)
  c1 : ∀ k, k < len → w.cell? ⟨b, off + k * 6 + 1, none⟩ = some (.int .i64 (ops k).A)
  c2 : ∀ k, k < len → w.cell? ⟨b, off + k * 6 + 2, none⟩ = some (.int .i64 (ops k).B)
  c3 : ∀ k, k < len → w.cell? ⟨b, off + k * 6 + 3, none⟩ = some (.int .i64 (ops k).C)
  c4 : ∀ k, k < len → w.cell? ⟨b, off + k * 6 + 4, none⟩ = some (.string (ops k).S)
  c5 : ∀ k, k < len → w.cell? ⟨b, off + k * 6 + 5, none⟩ = some (.string (ops k).T)
  hA : ∀ k, k < len → -9223372036854775808 ≤ (ops k).A ∧ (ops k).A ≤ 9223372036854775807
  hS : ∀ k, k < len → (ops k).S.size ≤ 140737488351232
  hT : ∀ k, k < len → (ops k).T.size ≤ 140737488351232

theorem Script.below {w w' : World} {b off len : Nat} {ops : Nat → OpRec} {base : Nat} (h : Script w b off len ops) (hb : b < base) (hw : Below base w w') : Script w' b off len ops := by
  have e : ∀ o, w'.cell? ⟨b, o, none⟩ = w.cell? ⟨b, o, none⟩ := fun o => hw.cell (p := ⟨b, o, none⟩) hb
  exact ⟨fun k hk => (e _).trans (h.c0 k hk), fun k hk => (e _).trans (h.c1 k hk), fun k hk => (e _).trans (h.c2 k hk), fun k hk => (e _).trans (h.c3 k hk), fun k hk => (e _).trans (h.c4 k hk), fun k hk => (e _).trans (h.c5 k hk), h.hA, h.hS, h.hT⟩

set_option maxRecDepth 100000 in
set_option maxHeartbeats 1000000 in
theorem small_any (b off len cap : Nat) (ops : Nat → OpRec) (w : World) (h : Script w b off len ops) (hl : len ≤ 140737488351232) :
    Calls Tryz.prog 17 #[.slice (some ⟨b, off, none⟩) len cap] w fun e w' => ∃ r : Bool, e = .returned (.bool r) ∧ (r = true → len ≤ 1048576 ∧ ∀ k, k < len → (ops k).S.size ≤ 1048576) ∧ ∃ q, w' = w.drewN q := by
  have H := hide h
  clear h
  by_cases hlen : 1048576 < len
  · go_enter Tryz.func17, Tryz.ntmps17
    go_wp2
    go_ret
    exact ⟨false, rfl, by simp, 0, rfl⟩
  · go_enter Tryz.func17, Tryz.ntmps17
    go_wp2
    go_loopw [3, 4] (fun n i wr => ∃ k m : Nat, k ≤ len ∧ i = .int .i64 k ∧ n = .int .i64 m ∧ m ≤ 1048576 ∧ (∀ j, j < k → (ops j).S.size ≤ 1048576) ∧ ∃ q, wr = w.drewN q) (fun _ i _ => len - (intOf i).toNat)
    case atStart => exact ⟨0, len, Nat.zero_le _, rfl, rfl, by omega, fun j hj => by omega, 0, rfl⟩
    case round =>
      obtain ⟨k, m, hk, rfl, rfl, hm, hj, hq⟩ := hrel
      have HQ := hide hq
      have HJ := hide hj
      clear hq hj
      by_cases hlt : k < len
      · have d4 : wr.cell? ⟨b, off + k * 6 + 4, none⟩ = some (.string (ops k).S) := by obtain ⟨q, rfl⟩ := HQ.out; rw [drewN_cell]; exact H.out.c4 k hlt
        have d5 : wr.cell? ⟨b, off + k * 6 + 5, none⟩ = some (.string (ops k).T) := by obtain ⟨q, rfl⟩ := HQ.out; rw [drewN_cell]; exact H.out.c5 k hlt
        have s4 := H.out.hS k hlt
        have s5 := H.out.hT k hlt
        obtain ⟨S, hS⟩ : ∃ S, S = (ops k).S := ⟨_, rfl⟩
        obtain ⟨T, hT⟩ : ∃ T, T = (ops k).T := ⟨_, rfl⟩
        rw [← hS] at d4 s4
        rw [← hT] at d5 s5
        have HS := hide hS
        clear hS hT
        go_wp2_with fail
        go_quiet (fail)
        go_wp2
        · go_ret
          exact ⟨false, rfl, by simp, by obtain ⟨q, rfl⟩ := HQ.out; exact ⟨_, World.drewN_drewN _ _ _⟩⟩
        · have hsum : (m : Int) + S.size + T.size ≤ 1048576 := by assumption
          go_roundw
          case rel =>
            refine ⟨k + 1, m + S.size + T.size, by omega, by go_num, by go_num, by omega, ?_, by obtain ⟨q, rfl⟩ := HQ.out; exact ⟨_, World.drewN_drewN _ _ _⟩⟩
            intro j hj
            by_cases e : j = k
            · rw [e, ← HS.out]; omega
            · exact HJ.out j (by omega)
          case measure => simp [intOf]; omega
      · go_wp2
        go_ret
        exact ⟨true, rfl, fun _ => ⟨by omega, fun j hj => HJ.out j (by omega)⟩, HQ.out⟩
end Go.Proofs.YtifhedfigbdgnaaGreatDoor
