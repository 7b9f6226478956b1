import Derived.Test.YtifhedfigbdgnaaGreatDoorStep
namespace Go.Proofs.YtifhedfigbdgnaaGreatDoor
open Go.RowKit Go.Extern.Stop Go.Stop Go.Extern

theorem Kept.drewN {S : List Nat} {a w : World} (h : Kept S a w) (q : Nat) : Kept S a (w.drewN q) := ⟨h.os, h.tape, h.output, h.size, h.block⟩

theorem ptrs_at {w : World} {base g n cap : Nat} {e : TypeId} {f : Nat → Nat} (h : w.ownsRow base e 1 (.slice (some ⟨g, 0, none⟩) n cap) n ((List.range n).map fun i => .pointer (some ⟨f i, 0, none⟩))) (k : Nat) (hk : k < n) :
    w.cell? ⟨g, k, none⟩ = some (.pointer (some ⟨f k, 0, none⟩)) := by
  rw [h.cellAt k (by omega)]
  simp [hk]

set_option maxRecDepth 100000 in
set_option maxHeartbeats 2000000 in
theorem step_none (base bW nI nS K : Nat) (P : Nat → PState) (vI vX vM vS : Value) (kd A B C : Int) (S T : ByteArray) (w : World) (hI : Inv base bW 0 nI nS P vI vX vM vS w) (hkI : nI ≤ K) (hkS : nS ≤ K) (hk : kd = 2 ∨ kd = 4 ∨ kd = 5 ∨ kd = 6 ∨ kd = 7) :
    Calls Tryz.prog 18 #[.pointer (some ⟨bW, 0, none⟩), .agg (ocells kd A B C S T)] w fun e w' => e = .returned (.bool true) ∧ Good base bW (K + 1) w' ∧ Below base w w' := by
  have hI1 := hI.kept0 ((Kept.refl [] w).alloc (.cells (ocells kd A B C S T) 51))
  have hb : Below base w (w.alloc (.cells (ocells kd A B C S T) 51)) := ((Kept.refl [] w).alloc _).below hI.base (by simp)
  obtain ⟨aX, cX, hvX⟩ := owns_shape hI.X
  subst hvX
  have hz := lt_of_block hI.W
  have c1 : w.cell? ⟨bW, 1, none⟩ = some (.slice aX 0 cX) := by rw [cell_at hI.W]; rfl
  have HG : Hid (Good base bW (K + 1) (w.alloc (.cells (ocells kd A B C S T) 51))) := ⟨0, nI, nS, P, vI, _, vM, vS, hI1, by omega, by omega, by omega⟩
  have HB := hide hb
  have e1 : (kd == 1) = false := by rcases hk with rfl | rfl | rfl | rfl | rfl <;> rfl
  have e8 : (kd == 8) = false := by rcases hk with rfl | rfl | rfl | rfl | rfl <;> rfl
  have e12 : (kd == 12) = false := by rcases hk with rfl | rfl | rfl | rfl | rfl <;> rfl
  clear hI hI1 hb hk
  go_enter Tryz.func18, Tryz.ntmps18
  go_wp2
  go_ret
  exact ⟨rfl, HG.out, HB.out⟩

set_option maxRecDepth 100000 in
set_option maxHeartbeats 2000000 in
theorem step_write (base bW n nI nS K : Nat) (P : Nat → PState) (vI vX vM vS : Value) (A B C : Int) (S T : ByteArray) (w : World) (hI : Inv base bW n nI nS P vI vX vM vS w) (hn : 0 < n) (hkn : n ≤ K) (hkI : nI ≤ K) (hkS : nS ≤ K) (hK : K < 1048576) (hA : -9223372036854775808 ≤ A ∧ A ≤ 9223372036854775807) (hS : S.size ≤ 1048576) (hg : errorType w) :
    Calls Tryz.prog 18 #[.pointer (some ⟨bW, 0, none⟩), .agg (ocells 2 A B C S T)] w fun e w' => e = .returned (.bool true) ∧ Good base bW (K + 1) w' ∧ Below base w w' := by
  have hI1 := hI.kept0 ((Kept.refl [] w).alloc (.cells (ocells 2 A B C S T) 51))
  have hg1 := errorType_alloc hg (.cells (ocells 2 A B C S T) 51)
  have hb : Below base w (w.alloc (.cells (ocells 2 A B C S T) 51)) := ((Kept.refl [] w).alloc _).below hI.base (by simp)
  have hz := lt_of_block hI.W
  obtain ⟨aX, cX, hvX⟩ := owns_shape hI.X
  obtain ⟨aM, cM, hvM⟩ := owns_shape hI.M
  subst hvX hvM
  have c1 : w.cell? ⟨bW, 1, none⟩ = some (.slice aX n cX) := by rw [cell_at hI.W]; rfl
  have c2 : w.cell? ⟨bW, 2, none⟩ = some (.slice aM n cM) := by rw [cell_at hI.W]; rfl
  obtain ⟨gX, rfl⟩ : ∃ g, aX = some ⟨g, 0, none⟩ := by
    rcases hI.X.2 with ⟨h, h0⟩ | ⟨g, cap, cur, h, _⟩
    · omega
    · simp at h; exact ⟨g, h.1⟩
  obtain ⟨gM, rfl⟩ : ∃ g, aM = some ⟨g, 0, none⟩ := by
    rcases hI.M.2 with ⟨h, h0⟩ | ⟨g, cap, cur, h, _⟩
    · omega
    · simp at h; exact ⟨g, h.1⟩
  have hp := pickN_lt A n hn
  have hpk := fun w => pick_any A n w hA hn (by omega)
  obtain ⟨i, hi⟩ : ∃ i, i = pickN A n := ⟨_, rfl⟩
  rw [← hi] at hp
  simp only [← hi] at hpk
  have c3 := ptrs_at hI.X i hp
  have c4 := ptrs_at hI.M i hp
  have hzX := (hI.X.lt gX rfl).2
  have hzM := (hI.M.lt gM rfl).2
  have HP := hide hpk
  have HI := hide hI1
  have HB := hide hb
  have HG := hide hg1
  clear hI hI1 hb hi hpk hg1 hg
  go_enter Tryz.func18, Tryz.ntmps18
  go_wp2_with fail
  go_quiet ((go_at_call 35; exact Calls.quiet_of_same (HP.out _)))
  obtain ⟨W, hW⟩ : ∃ W, W = (w.alloc (.cells (ocells 2 A B C S T) 51)).drewN nq := ⟨_, rfl⟩
  have K2 : Kept [] (w.alloc (.cells (ocells 2 A B C S T) 51)) W := by rw [hW]; exact (Kept.refl [] _).drewN nq
  have HI2 := hide (HI.out.kept0 K2)
  have HB2 := hide (HB.out.trans (K2.below HI.out.base (by simp)))
  have HG2 := hide (errorType_kept HG.out K2 (by simp))
  have HW := hide hW
  clear hW K2
  go_wp2_with fail
  rw [← HW.out]
  by_cases hl : (P i).s.size + S.size ≤ 1024
  · refine (wrote_ok base (P i) S W (HI2.out.has i hp) hl HI2.out.base).mono ?_
    rintro e w1 ⟨rfl, p', hp', hx', hm', ht', hk'⟩
    have hG : Good base bW (K + 1) w1 := ⟨n, nI, nS, _, vI, _, _, vS, HI2.out.wrote i hp p' hp' hx' hm' ht' hk', by omega, by omega, by omega⟩
    have hB1 : Below base w w1 := HB2.out.trans (hk'.below HI2.out.base (by
      intro k hk
      rcases List.mem_cons.1 hk with rfl | hk
      · exact (HI2.out.has i hp).bm
      rcases List.mem_cons.1 hk with rfl | hk
      · exact (HI2.out.has i hp).bx
      · exact ((HI2.out.has i hp).t.lt k (by simpa using hk)).1))
    clear hp' hx' hm' ht' hk'
    have HG1 := hide hG
    have HB1 := hide hB1
    clear hG hB1
    go_wp2
    go_ret
    exact ⟨rfl, HG1.out, HB1.out⟩
  · refine (wrote_long base (P i) S W (HI2.out.has i hp) hS (by omega) HG2.out).mono ?_
    rintro e w1 ⟨rfl, hk'⟩
    have HG1 : Hid (Good base bW (K + 1) w1) := ⟨n, nI, nS, _, vI, _, _, vS, HI2.out.kept0 hk', by omega, by omega, by omega⟩
    have HB1 := hide (HB2.out.trans (hk'.below HI2.out.base (by simp)))
    clear hk'
    go_wp2
    go_ret
    exact ⟨rfl, HG1.out, HB1.out⟩

set_option maxRecDepth 100000 in
set_option maxHeartbeats 2000000 in
theorem step_stop (base bW n nI nS K : Nat) (P : Nat → PState) (vI vX vM vS : Value) (A B C : Int) (S T : ByteArray) (w : World) (hI : Inv base bW n nI nS P vI vX vM vS w) (hn : 0 < n) (hkn : n ≤ K) (hkI : nI ≤ K) (hkS : nS ≤ K) (hK : K < 1048576) (hA : -9223372036854775808 ≤ A ∧ A ≤ 9223372036854775807) (hg : errorType w) :
    Calls Tryz.prog 18 #[.pointer (some ⟨bW, 0, none⟩), .agg (ocells 4 A B C S T)] w fun e w' => e = .returned (.bool true) ∧ Good base bW (K + 1) w' ∧ Below base w w' := by
  have hI1 := hI.kept0 ((Kept.refl [] w).alloc (.cells (ocells 4 A B C S T) 51))
  have hg1 := errorType_alloc hg (.cells (ocells 4 A B C S T) 51)
  have hb : Below base w (w.alloc (.cells (ocells 4 A B C S T) 51)) := ((Kept.refl [] w).alloc _).below hI.base (by simp)
  have hz := lt_of_block hI.W
  obtain ⟨aX, cX, hvX⟩ := owns_shape hI.X
  obtain ⟨aM, cM, hvM⟩ := owns_shape hI.M
  subst hvX hvM
  have c1 : w.cell? ⟨bW, 1, none⟩ = some (.slice aX n cX) := by rw [cell_at hI.W]; rfl
  have c2 : w.cell? ⟨bW, 2, none⟩ = some (.slice aM n cM) := by rw [cell_at hI.W]; rfl
  obtain ⟨gX, rfl⟩ : ∃ g, aX = some ⟨g, 0, none⟩ := by
    rcases hI.X.2 with ⟨h, h0⟩ | ⟨g, cap, cur, h, _⟩
    · omega
    · simp at h; exact ⟨g, h.1⟩
  obtain ⟨gM, rfl⟩ : ∃ g, aM = some ⟨g, 0, none⟩ := by
    rcases hI.M.2 with ⟨h, h0⟩ | ⟨g, cap, cur, h, _⟩
    · omega
    · simp at h; exact ⟨g, h.1⟩
  have hp := pickN_lt A n hn
  have hpk := fun w => pick_any A n w hA hn (by omega)
  obtain ⟨i, hi⟩ : ∃ i, i = pickN A n := ⟨_, rfl⟩
  rw [← hi] at hp
  simp only [← hi] at hpk
  have c3 := ptrs_at hI.X i hp
  have c4 := ptrs_at hI.M i hp
  have hzX := (hI.X.lt gX rfl).2
  have hzM := (hI.M.lt gM rfl).2
  have HP := hide hpk
  have HI := hide hI1
  have HB := hide hb
  have HG := hide hg1
  clear hI hI1 hb hi hpk hg1 hg
  go_enter Tryz.func18, Tryz.ntmps18
  go_wp2_with fail
  go_quiet ((go_at_call 35; exact Calls.quiet_of_same (HP.out _)))
  obtain ⟨W, hW⟩ : ∃ W, W = (w.alloc (.cells (ocells 4 A B C S T) 51)).drewN nq := ⟨_, rfl⟩
  have K2 : Kept [] (w.alloc (.cells (ocells 4 A B C S T) 51)) W := by rw [hW]; exact (Kept.refl [] _).drewN nq
  have HI2 := hide (HI.out.kept0 K2)
  have HB2 := hide (HB.out.trans (K2.below HI.out.base (by simp)))
  have HG2 := hide (errorType_kept HG.out K2 (by simp))
  have HW := hide hW
  clear hW K2
  go_wp2_with fail
  rw [← HW.out]
  refine (stopped_ok base (P i) W (HI2.out.has i hp) HG2.out).mono ?_
  rintro e w1 ⟨rfl, hk'⟩
  have HG1 : Hid (Good base bW (K + 1) w1) := ⟨n, nI, nS, _, vI, _, _, vS, HI2.out.kept0 hk', by omega, by omega, by omega⟩
  have HB1 := hide (HB2.out.trans (hk'.below HI2.out.base (by simp)))
  clear hk'
  go_wp2
  go_ret
  exact ⟨rfl, HG1.out, HB1.out⟩

end Go.Proofs.YtifhedfigbdgnaaGreatDoor
