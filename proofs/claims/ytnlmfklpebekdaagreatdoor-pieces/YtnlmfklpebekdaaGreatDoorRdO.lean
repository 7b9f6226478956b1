import Derived.Test.YtnlmfklpebekdaaGreatDoorRdN
set_option linter.unusedSimpArgs false
set_option linter.unusedVariables false
namespace Go.Proofs.YtnlmfklpebekdaaGreatDoor
open Go.RowKit Go.PlainAid

def quoted (R : RC) (q : ByteArray) (ps : Nat) : Nat := taken R q (scan (inSet q) R.cs (ps + 1))
def rawEnd (R : RC) (ps : Nat) : Nat :=
  if pre (R.cs.extract ps R.cs.size) ⟨#[34]⟩ = true then quoted R ⟨#[34]⟩ ps else if pre (R.cs.extract ps R.cs.size) ⟨#[39]⟩ = true then quoted R ⟨#[39]⟩ ps else scan (inSet ⟨#[32, 9, 10, 12, 62]⟩) R.cs ps
theorem quoted_le {R : RC} {q : ByteArray} {ps : Nat} (h : ps < R.cs.size) : quoted R q ps ≤ R.cs.size := taken_le (scan_le (by omega))
theorem quoted_ge {R : RC} {q : ByteArray} {ps : Nat} : ps ≤ quoted R q ps := Nat.le_trans (by omega) (Nat.le_trans (scan_ge (i := ps + 1)) taken_ge)
theorem pre_lt {s p : ByteArray} {ps : Nat} (h : pre (s.extract ps s.size) p = true) (hp : ps ≤ s.size) (hz : 0 < p.size) : ps < s.size := by
  have := pre_rest h hp; omega
theorem rawEnd_le {R : RC} {ps : Nat} (h : ps ≤ R.cs.size) : rawEnd R ps ≤ R.cs.size := by
  unfold rawEnd; split
  · rename_i h'; exact quoted_le (pre_lt h' h (by decide))
  · split
    · rename_i h'; exact quoted_le (pre_lt h' h (by decide))
    · exact scan_le h
theorem rawEnd_ge {R : RC} {ps : Nat} : ps ≤ rawEnd R ps := by
  unfold rawEnd; split
  · exact quoted_ge
  · split
    · exact quoted_ge
    · exact scan_ge

/-- From the opening quote on. -/
theorem quote_rest (r : Nat) (R : RC) (bg ps : Nat) (q : ByteArray) (hq : q.size = 1) (w w1 : World) (hk : Kept [r] w w1) (h : Rd w1 r R bg (ps + 1)) (hp : ps + 1 ≤ R.cs.size) (hs : R.cs.size ≤ 1024) :
    Calls Tryz.prog 73 #[.pointer (some ⟨r, 0, none⟩), .func (.func 75) #[] #[.pointer (some ⟨w1.heap.size, 0, none⟩)]] (w1.alloc (.cells #[.string q] 9))
      fun e w2 => (∃ t : ByteArray, t.size ≤ R.cs.size ∧ e = .returned (.string t)) ∧
        Calls Tryz.prog 50 #[.pointer (some ⟨r, 0, none⟩), .string q] w2 fun e w3 => (∃ b, e = .returned (.bool b)) ∧ Kept [r] w w3 ∧ Rd w3 r R bg (quoted R q ps) := by
  refine (upToOne r R bg (ps + 1) q w1 h hp hs).mono ?_
  rintro e w2 ⟨h1, hk2, hr2⟩
  refine ⟨⟨_, by simp; omega, h1⟩, ?_⟩
  refine (take_any r R bg _ q w2 hr2 (scan_le hp) hs (by omega)).mono ?_
  rintro e w3 ⟨h3, hk3, hr3⟩
  exact ⟨⟨_, h3⟩, (hk.trans hk2).trans hk3, hr3⟩

set_option maxRecDepth 100000 in
set_option maxHeartbeats 1000000 in
theorem rawValue_any (r : Nat) (R : RC) (bg ps : Nat) (w : World) (h : Rd w r R bg ps) (hp : ps ≤ R.cs.size) (hs : R.cs.size ≤ 1024) :
    Calls Tryz.prog 107 #[.pointer (some ⟨r, 0, none⟩)] w fun e w' => (∃ t : ByteArray, t.size ≤ R.cs.size ∧ e = .returned (.string t)) ∧ Kept [r] w w' ∧ Rd w' r R bg (rawEnd R ps) := by
  have hr := lt_of_block h
  obtain ⟨w0, hw0⟩ : ∃ w0, w0 = w.alloc (.cells #[.string ⟨#[34]⟩, .string ⟨#[39]⟩] 9) := ⟨_, rfl⟩
  have k0 : Kept [] w w0 := by rw [hw0]; exact (Kept.refl _ _).alloc _
  have b0 : w0.heap[w.heap.size]? = some (.cells #[.string ⟨#[34]⟩, .string ⟨#[39]⟩] 9 (0, 0)) := by rw [hw0]; exact heap_alloc_at w _
  have r0 : Rd w0 r R bg ps := k0.at h (by simp)
  have z0 : w.heap.size < w0.heap.size := lt_of_block b0
  have HW := hide hw0.symm
  clear hw0
  have D1 := hide (take_any r R bg ps ⟨#[34]⟩ w0 r0 hp hs (by decide))
  have D2 := hide (fun w' (h : Rd w' r R bg ps) => take_any r R bg ps ⟨#[39]⟩ w' h hp hs (by decide))
  have c0 : w0.cell? ⟨w.heap.size, 0, none⟩ = some (.string ⟨#[34]⟩) := by rw [cell_at b0]; rfl
  have K0 := hide k0
  have HB := hide b0
  have HZ := hide z0
  clear h k0 b0 z0 r0
  cases h1 : pre (R.cs.extract ps R.cs.size) ⟨#[34]⟩
  · have k1 : taken R ⟨#[34]⟩ ps = ps := by unfold taken; rw [if_neg (by simp [h1])]
    rw [h1, k1] at D1
    cases h2 : pre (R.cs.extract ps R.cs.size) ⟨#[39]⟩
    · have k2 : taken R ⟨#[39]⟩ ps = ps := by unfold taken; rw [if_neg (by simp [h2])]
      rw [h2, k2] at D2
      have q1 : rawEnd R ps = scan (inSet ⟨#[32, 9, 10, 12, 62]⟩) R.cs ps := by unfold rawEnd; rw [if_neg (by simp [h1]), if_neg (by simp [h2])]
      have U := hide (fun w' (h : Rd w' r R bg ps) => upToOne r R bg ps ⟨#[32, 9, 10, 12, 62]⟩ w' h hp hs)
      rw [← q1] at U
      clear h1 h2 k1 k2 q1
      generalize rawEnd R ps = m at *
      go_enter Tryz.func107, Tryz.ntmps107
      go_wp2_with fail
      refine wp_loop_rounds 3 ?_
      rw [rounds_succ, HW.out]
      go_wp2_with fail
      refine D1.out.mono ?_
      rintro e w1 ⟨rfl, hk1, hr1⟩
      have c1 : w1.cell? ⟨w.heap.size, 1, none⟩ = some (.string ⟨#[39]⟩) := by rw [hk1.cell (p := ⟨w.heap.size, 1, none⟩) HZ.out (by simp; omega), cell_at HB.out]; rfl
      have HK1 := hide ((K0.out.mono (S' := [r]) (by simp)).trans hk1)
      have HR1 := hide hr1
      clear hk1 hr1
      go_wp2_with fail
      rw [rounds_succ]
      go_wp2_with fail
      refine (D2.out _ HR1.out).mono ?_
      rintro e w2 ⟨rfl, hk2, hr2⟩
      have HK2 := hide (HK1.out.trans hk2)
      have HR2 := hide hr2
      clear hk2 hr2
      go_wp2_with fail
      rw [rounds_succ]
      go_wp2_with fail
      refine (oneOf_any _ w2).mono ?_
      rintro e w' ⟨rfl, rfl⟩
      go_wp2_with fail
      refine (U.out _ HR2.out).mono ?_
      rintro e w3 ⟨rfl, hk3, hr3⟩
      have HK3 := hide (HK2.out.trans hk3)
      have HR3 := hide hr3
      clear hk3 hr3
      go_wp2
      go_ret
      exact ⟨⟨_, by simp; omega, rfl⟩, HK3.out, HR3.out⟩
    · have k2 : taken R ⟨#[39]⟩ ps = ps + 1 := by unfold taken; rw [if_pos h2]; rfl
      rw [h2, k2] at D2
      have q1 : rawEnd R ps = quoted R ⟨#[39]⟩ ps := by unfold rawEnd; rw [if_neg (by simp [h1]), if_pos h2]
      rw [q1]
      have hp1 := pre_lt h2 hp (by decide)
      clear h1 h2 k1 k2 q1
      have U := hide (fun w1 (hk : Kept [r] w w1) (h : Rd w1 r R bg (ps + 1)) => quote_rest r R bg ps ⟨#[39]⟩ rfl w w1 hk h hp1 hs)
      generalize quoted R ⟨#[39]⟩ ps = m at *
      go_enter Tryz.func107, Tryz.ntmps107
      go_wp2_with fail
      refine wp_loop_rounds 3 ?_
      rw [rounds_succ, HW.out]
      go_wp2_with fail
      refine D1.out.mono ?_
      rintro e w1 ⟨rfl, hk1, hr1⟩
      have c1 : w1.cell? ⟨w.heap.size, 1, none⟩ = some (.string ⟨#[39]⟩) := by rw [hk1.cell (p := ⟨w.heap.size, 1, none⟩) HZ.out (by simp; omega), cell_at HB.out]; rfl
      have HK1 := hide ((K0.out.mono (S' := [r]) (by simp)).trans hk1)
      have HR1 := hide hr1
      clear hk1 hr1
      go_wp2_with fail
      rw [rounds_succ]
      go_wp2_with fail
      refine (D2.out _ HR1.out).mono ?_
      rintro e w2 ⟨rfl, hk2, hr2⟩
      have V := hide (U.out w2 (HK1.out.trans hk2) hr2)
      clear hk2 hr2
      go_wp2_with fail
      refine (oneOf_any _ w2).mono ?_
      rintro e w' ⟨rfl, rfl⟩
      go_wp2_with fail
      refine V.out.mono ?_
      rintro e w3 ⟨⟨t, ht, rfl⟩, hv⟩
      have HV := hide hv
      clear hv
      go_wp2_with fail
      refine HV.out.mono ?_
      rintro e w4 ⟨⟨b, rfl⟩, hk4, hr4⟩
      have HK4 := hide hk4
      have HR4 := hide hr4
      clear hk4 hr4
      go_wp2
      go_ret
      exact ⟨⟨t, ht, rfl⟩, HK4.out, HR4.out⟩
  · have k1 : taken R ⟨#[34]⟩ ps = ps + 1 := by unfold taken; rw [if_pos h1]; rfl
    rw [h1, k1] at D1
    have q1 : rawEnd R ps = quoted R ⟨#[34]⟩ ps := by unfold rawEnd; rw [if_pos h1]
    rw [q1]
    have hp1 := pre_lt h1 hp (by decide)
    clear h1 k1 q1 D2
    have U := hide (fun w1 (hk : Kept [r] w w1) (h : Rd w1 r R bg (ps + 1)) => quote_rest r R bg ps ⟨#[34]⟩ rfl w w1 hk h hp1 hs)
    generalize quoted R ⟨#[34]⟩ ps = m at *
    go_enter Tryz.func107, Tryz.ntmps107
    go_wp2_with fail
    refine wp_loop_rounds 3 ?_
    rw [rounds_succ, HW.out]
    go_wp2_with fail
    refine D1.out.mono ?_
    rintro e w2 ⟨rfl, hk2, hr2⟩
    have V := hide (U.out w2 ((K0.out.mono (S' := [r]) (by simp)).trans hk2) hr2)
    clear hk2 hr2
    go_wp2_with fail
    refine (oneOf_any _ w2).mono ?_
    rintro e w' ⟨rfl, rfl⟩
    go_wp2_with fail
    refine V.out.mono ?_
    rintro e w3 ⟨⟨t, ht, rfl⟩, hv⟩
    have HV := hide hv
    clear hv
    go_wp2_with fail
    refine HV.out.mono ?_
    rintro e w4 ⟨⟨b, rfl⟩, hk4, hr4⟩
    have HK4 := hide hk4
    have HR4 := hide hr4
    clear hk4 hr4
    go_wp2
    go_ret
    exact ⟨⟨t, ht, rfl⟩, HK4.out, HR4.out⟩
end Go.Proofs.YtnlmfklpebekdaaGreatDoor

namespace Go.Proofs.YtnlmfklpebekdaaGreatDoor
open Go.RowKit Go.PlainAid

def goOn (s : ByteArray) : Bool := decide (0 < s.size) && (decide (bt s 0 = 61) || decide (97 ≤ bt s 0 ∧ bt s 0 ≤ 122 ∨ 65 ≤ bt s 0 ∧ bt s 0 ≤ 90) || decide (48 ≤ bt s 0 ∧ bt s 0 ≤ 57))
set_option maxRecDepth 100000 in
set_option maxHeartbeats 1000000 in
theorem goesOn_any (s : ByteArray) (w : World) :
    Calls Tryz.prog 93 #[.string s] w fun e w' => e = .returned (.bool (goOn s)) ∧ w' = w := by
  have hbt := get_bt s
  by_cases hz : 0 < s.size
  · have h0 := bt_nonneg s 0
    have h1 := bt_le s 0
    have hb := hbt 0 hz
    have he : s.toList.isEmpty = false := by
      rw [ByteArray.toList_eq]
      cases h : s.data.toList with
      | nil =>
        exfalso
        have e1 : s.data.toList.length = 0 := by rw [h]; rfl
        rw [Array.length_toList] at e1
        have e2 : s.data.size = s.size := rfl
        omega
      | cons => rfl
    have hn2 : ¬ s.toList = [] := by intro h; rw [h] at he; cases he
    have L := hide (letter_any (bt s 0) w h0 h1)
    have D := hide (cdigit_any (bt s 0) w h0 h1)
    have hg : goOn s = (decide (bt s 0 = 61) || decide (97 ≤ bt s 0 ∧ bt s 0 ≤ 122 ∨ 65 ≤ bt s 0 ∧ bt s 0 ≤ 90) || decide (48 ≤ bt s 0 ∧ bt s 0 ≤ 57)) := by unfold goOn; simp [hz]
    rw [hg]
    clear hg
    by_cases a : bt s 0 = 61
    · rw [show decide (bt s 0 = 61) = true from by simp [a]]
      clear L D
      go_enter Tryz.func93, Tryz.ntmps93
      go_wp2
      go_ret
      exact ⟨by simp [he], rfl⟩
    · rw [show decide (bt s 0 = 61) = false from by simp [a]]
      have a2 : (bt s 0 == 61) = false := beq_eq_false_iff_ne.2 a
      clear a
      cases hl : decide (97 ≤ bt s 0 ∧ bt s 0 ≤ 122 ∨ 65 ≤ bt s 0 ∧ bt s 0 ≤ 90)
      · rw [hl] at L
        clear hl
        cases hd : decide (48 ≤ bt s 0 ∧ bt s 0 ≤ 57)
        all_goals
          rw [hd] at D
          clear hd
          go_enter Tryz.func93, Tryz.ntmps93
          go_wp2_with fail
          refine L.out.mono ?_
          rintro e w' ⟨rfl, rfl⟩
          go_wp2_with fail
          refine D.out.mono ?_
          rintro e w' ⟨rfl, rfl⟩
          go_wp2
          go_ret
          exact ⟨by simp [he], rfl⟩
      · rw [hl] at L
        clear hl
        go_enter Tryz.func93, Tryz.ntmps93
        go_wp2_with fail
        refine L.out.mono ?_
        rintro e w' ⟨rfl, rfl⟩
        go_wp2
        go_ret
        exact ⟨by simp [he], rfl⟩
  · have e0 : s = ⟨#[]⟩ := ByteArray.ext (Array.eq_empty_of_size_eq_zero (by have e : s.data.size = s.size := rfl; omega))
    subst e0
    go_enter Tryz.func93, Tryz.ntmps93
    go_wp2
    go_ret
    exact ⟨rfl, rfl⟩
end Go.Proofs.YtnlmfklpebekdaaGreatDoor
