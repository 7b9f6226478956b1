import Derived.Test.YtifhedfigbdgnaaGreatDoorStepB
namespace Go.Proofs.YtifhedfigbdgnaaGreatDoor
open Go.RowKit Go.Extern.Stop Go.Stop Go.Extern

set_option maxRecDepth 100000 in
set_option maxHeartbeats 2000000 in
theorem step_items (base bW n nI nS K : Nat) (P : Nat → PState) (vI vX vM vS : Value) (A B C : Int) (S T : ByteArray) (w : World) (hI : Inv base bW n nI nS P vI vX vM vS w) (hn : 0 < n) (hkn : n ≤ K) (hkI : nI ≤ K) (hkS : nS ≤ K) (hK : K < 1048576) (hA : -9223372036854775808 ≤ A ∧ A ≤ 9223372036854775807) :
    Calls Tryz.prog 18 #[.pointer (some ⟨bW, 0, none⟩), .agg (ocells 5 A B C S T)] w fun e w' => e = .returned (.bool true) ∧ Good base bW (K + 1) w' ∧ Below base w w' := by
  have hI1 := hI.kept0 ((Kept.refl [] w).alloc (.cells (ocells 5 A B C S T) 51))
  have hb : Below base w (w.alloc (.cells (ocells 5 A B C S T) 51)) := ((Kept.refl [] w).alloc _).below hI.base (by simp)
  have hz := lt_of_block hI.W
  obtain ⟨aX, cX, hvX⟩ := owns_shape hI.X
  obtain ⟨aM, cM, hvM⟩ := owns_shape hI.M
  subst hvX hvM
  have c1 : w.cell? ⟨bW, 1, none⟩ = some (.slice aX n cX) := by rw [cell_at hI.W]; rfl
  have c2 : w.cell? ⟨bW, 2, none⟩ = some (.slice aM n cM) := by rw [cell_at hI.W]; rfl
  obtain ⟨gX, rfl⟩ : ∃ g, aX = some ⟨g, 0, none⟩ := by
    rcases hI.X.2 with ⟨h, h0⟩ | ⟨g, cap, cur, h, _⟩
    · omega
    · simp at h; exact ⟨g, h.1⟩
  obtain ⟨gM, rfl⟩ : ∃ g, aM = some ⟨g, 0, none⟩ := by
    rcases hI.M.2 with ⟨h, h0⟩ | ⟨g, cap, cur, h, _⟩
    · omega
    · simp at h; exact ⟨g, h.1⟩
  have hp := pickN_lt A n hn
  have hpk := fun w => pick_any A n w hA hn (by omega)
  obtain ⟨i, hi⟩ : ∃ i, i = pickN A n := ⟨_, rfl⟩
  rw [← hi] at hp
  simp only [← hi] at hpk
  have c3 := ptrs_at hI.X i hp
  have c4 := ptrs_at hI.M i hp
  have hzX := (hI.X.lt gX rfl).2
  have hzM := (hI.M.lt gM rfl).2
  have HP := hide hpk
  have HI := hide hI1
  have HB := hide hb
  clear hI hI1 hb hi hpk
  go_enter Tryz.func18, Tryz.ntmps18
  go_wp2_with fail
  go_quiet ((go_at_call 35; exact Calls.quiet_of_same (HP.out _)))
  obtain ⟨W, hW⟩ : ∃ W, W = (w.alloc (.cells (ocells 5 A B C S T) 51)).drewN nq := ⟨_, rfl⟩
  have K2 : Kept [] (w.alloc (.cells (ocells 5 A B C S T) 51)) W := by rw [hW]; exact (Kept.refl [] _).drewN nq
  have HI2 := hide (HI.out.kept0 K2)
  have HB2 := hide (HB.out.trans (K2.below HI.out.base (by simp)))
  have HW := hide hW
  clear hW K2
  go_wp2_with fail
  rw [← HW.out]
  refine (listed_ok base bW n nI nS P _ _ _ _ i W HI2.out hp (by omega)).mono ?_
  rintro e w1 ⟨rfl, vI', hI', hb'⟩
  have HG1 : Hid (Good base bW (K + 1) w1) := ⟨n, nI + 1, nS, _, vI', _, _, vS, hI', by omega, by omega, by omega⟩
  have HB1 := hide (HB2.out.trans hb')
  clear hI' hb'
  go_wp2
  go_ret
  exact ⟨rfl, HG1.out, HB1.out⟩

set_option maxRecDepth 100000 in
set_option maxHeartbeats 2000000 in
theorem step_trail (base bW n nI nS K : Nat) (P : Nat → PState) (vI vX vM vS : Value) (A B C : Int) (S T : ByteArray) (w : World) (hI : Inv base bW n nI nS P vI vX vM vS w) (hn : 0 < n) (hkn : n ≤ K) (hkI : nI ≤ K) (hkS : nS ≤ K) (hK : K < 1048576) (hA : -9223372036854775808 ≤ A ∧ A ≤ 9223372036854775807) :
    Calls Tryz.prog 18 #[.pointer (some ⟨bW, 0, none⟩), .agg (ocells 7 A B C S T)] w fun e w' => e = .returned (.bool true) ∧ Good base bW (K + 1) w' ∧ Below base w w' := by
  have hI1 := hI.kept0 ((Kept.refl [] w).alloc (.cells (ocells 7 A B C S T) 51))
  have hb : Below base w (w.alloc (.cells (ocells 7 A B C S T) 51)) := ((Kept.refl [] w).alloc _).below hI.base (by simp)
  have hz := lt_of_block hI.W
  obtain ⟨aX, cX, hvX⟩ := owns_shape hI.X
  obtain ⟨aM, cM, hvM⟩ := owns_shape hI.M
  subst hvX hvM
  have c1 : w.cell? ⟨bW, 1, none⟩ = some (.slice aX n cX) := by rw [cell_at hI.W]; rfl
  have c2 : w.cell? ⟨bW, 2, none⟩ = some (.slice aM n cM) := by rw [cell_at hI.W]; rfl
  obtain ⟨gX, rfl⟩ : ∃ g, aX = some ⟨g, 0, none⟩ := by
    rcases hI.X.2 with ⟨h, h0⟩ | ⟨g, cap, cur, h, _⟩
    · omega
    · simp at h; exact ⟨g, h.1⟩
  obtain ⟨gM, rfl⟩ : ∃ g, aM = some ⟨g, 0, none⟩ := by
    rcases hI.M.2 with ⟨h, h0⟩ | ⟨g, cap, cur, h, _⟩
    · omega
    · simp at h; exact ⟨g, h.1⟩
  have hp := pickN_lt A n hn
  have hpk := fun w => pick_any A n w hA hn (by omega)
  obtain ⟨i, hi⟩ : ∃ i, i = pickN A n := ⟨_, rfl⟩
  rw [← hi] at hp
  simp only [← hi] at hpk
  have c3 := ptrs_at hI.X i hp
  have c4 := ptrs_at hI.M i hp
  have hzX := (hI.X.lt gX rfl).2
  have hzM := (hI.M.lt gM rfl).2
  have HP := hide hpk
  have HI := hide hI1
  have HB := hide hb
  clear hI hI1 hb hi hpk
  go_enter Tryz.func18, Tryz.ntmps18
  go_wp2_with fail
  go_quiet ((go_at_call 35; exact Calls.quiet_of_same (HP.out _)))
  obtain ⟨W, hW⟩ : ∃ W, W = (w.alloc (.cells (ocells 7 A B C S T) 51)).drewN nq := ⟨_, rfl⟩
  have K2 : Kept [] (w.alloc (.cells (ocells 7 A B C S T) 51)) W := by rw [hW]; exact (Kept.refl [] _).drewN nq
  have HI2 := hide (HI.out.kept0 K2)
  have HB2 := hide (HB.out.trans (K2.below HI.out.base (by simp)))
  have HW := hide hW
  clear hW K2
  go_wp2_with fail
  rw [← HW.out]
  refine (trailed_ok base bW n nI nS P _ _ _ _ i W HI2.out hp (by omega)).mono ?_
  rintro e w1 ⟨rfl, vS', hI', hb'⟩
  have HG1 : Hid (Good base bW (K + 1) w1) := ⟨n, nI, nS + 1, _, vI, _, _, vS', hI', by omega, by omega, by omega⟩
  have HB1 := hide (HB2.out.trans hb')
  clear hI' hb'
  go_wp2
  go_ret
  exact ⟨rfl, HG1.out, HB1.out⟩

set_option maxRecDepth 100000 in
set_option maxHeartbeats 2000000 in
theorem step_text (base bW n nI nS K : Nat) (P : Nat → PState) (vI vX vM vS : Value) (A B C : Int) (S T : ByteArray) (w : World) (hI : Inv base bW n nI nS P vI vX vM vS w) (hn : 0 < n) (hkn : n ≤ K) (hkI : nI ≤ K) (hkS : nS ≤ K) (hK : K < 1048576) (hA : -9223372036854775808 ≤ A ∧ A ≤ 9223372036854775807) :
    Calls Tryz.prog 18 #[.pointer (some ⟨bW, 0, none⟩), .agg (ocells 6 A B C S T)] w fun e w' => e = .returned (.bool true) ∧ Good base bW (K + 1) w' ∧ Below base w w' := by
  have hI1 := hI.kept0 ((Kept.refl [] w).alloc (.cells (ocells 6 A B C S T) 51))
  have hb : Below base w (w.alloc (.cells (ocells 6 A B C S T) 51)) := ((Kept.refl [] w).alloc _).below hI.base (by simp)
  have hz := lt_of_block hI.W
  obtain ⟨aX, cX, hvX⟩ := owns_shape hI.X
  obtain ⟨aM, cM, hvM⟩ := owns_shape hI.M
  subst hvX hvM
  have c1 : w.cell? ⟨bW, 1, none⟩ = some (.slice aX n cX) := by rw [cell_at hI.W]; rfl
  have c2 : w.cell? ⟨bW, 2, none⟩ = some (.slice aM n cM) := by rw [cell_at hI.W]; rfl
  obtain ⟨gX, rfl⟩ : ∃ g, aX = some ⟨g, 0, none⟩ := by
    rcases hI.X.2 with ⟨h, h0⟩ | ⟨g, cap, cur, h, _⟩
    · omega
    · simp at h; exact ⟨g, h.1⟩
  obtain ⟨gM, rfl⟩ : ∃ g, aM = some ⟨g, 0, none⟩ := by
    rcases hI.M.2 with ⟨h, h0⟩ | ⟨g, cap, cur, h, _⟩
    · omega
    · simp at h; exact ⟨g, h.1⟩
  have hp := pickN_lt A n hn
  have hpk := fun w => pick_any A n w hA hn (by omega)
  obtain ⟨i, hi⟩ : ∃ i, i = pickN A n := ⟨_, rfl⟩
  rw [← hi] at hp
  simp only [← hi] at hpk
  have c3 := ptrs_at hI.X i hp
  have c4 := ptrs_at hI.M i hp
  have hzX := (hI.X.lt gX rfl).2
  have hzM := (hI.M.lt gM rfl).2
  have HP := hide hpk
  have HI := hide hI1
  have HB := hide hb
  clear hI hI1 hb hi hpk
  go_enter Tryz.func18, Tryz.ntmps18
  go_wp2_with fail
  go_quiet ((go_at_call 35; exact Calls.quiet_of_same (HP.out _)))
  obtain ⟨W, hW⟩ : ∃ W, W = (w.alloc (.cells (ocells 6 A B C S T) 51)).drewN nq := ⟨_, rfl⟩
  have K2 : Kept [] (w.alloc (.cells (ocells 6 A B C S T) 51)) W := by rw [hW]; exact (Kept.refl [] _).drewN nq
  have HI2 := hide (HI.out.kept0 K2)
  have HB2 := hide (HB.out.trans (K2.below HI.out.base (by simp)))
  have HW := hide hW
  clear hW K2
  go_wp2_with fail
  rw [← HW.out]
  refine (xtext _ _).mono ?_
  rintro e w1 ⟨rfl, hw1⟩
  subst hw1
  go_wp2_with fail
  refine (mtext (P i).bm _ _ _ _ _ (HI2.out.has i hp).m).mono ?_
  rintro e w1 ⟨rfl, hw1⟩
  subst hw1
  have HG1 : Hid (Good base bW (K + 1) w1) := ⟨n, nI, nS, _, vI, _, _, vS, HI2.out, by omega, by omega, by omega⟩
  go_wp2
  go_ret
  exact ⟨rfl, HG1.out, HB2.out⟩

end Go.Proofs.YtifhedfigbdgnaaGreatDoor
