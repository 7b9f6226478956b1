import Derived.Test.YtnlmfklpebekdaaGreatDoorRdQ
import Derived.Deep.CutRange
set_option linter.unusedSimpArgs false
set_option linter.unusedVariables false
namespace Go.Proofs.YtnlmfklpebekdaaGreatDoor
open Go.RowKit Go.PlainAid

/-- How many characters the reference has that s begins with. -/
def refSize (look : ByteArray → Option ByteArray) (lg : Nat) (s : ByteArray) (inV : Bool) : Nat :=
  if pre s ⟨#[38, 35]⟩ = true then numSize s else if pre s ⟨#[38]⟩ = true then nmSize look s inV (min lg (s.size - 1)) else 0
theorem refSize_le {look : ByteArray → Option ByteArray} {lg : Nat} {s : ByteArray} {inV : Bool} : refSize look lg s inV ≤ s.size := by
  unfold refSize; split
  · rename_i h; exact numSize_le (pre_le h)
  · split
    · rename_i h
      have h1 : 1 ≤ s.size := pre_le h
      have h2 := nmSize_le (look := look) (s := s) (inV := inV) (k := min lg (s.size - 1))
      omega
    · exact Nat.zero_le _

set_option maxRecDepth 100000 in
set_option maxHeartbeats 1000000 in
theorem read_any (b lg : Nat) (look : ByteArray → Option ByteArray) (s : ByteArray) (inV : Bool) (w : World) (hL : Lk w b look) (hlg : lg ≤ 1048576) (hs : s.size ≤ 1048576) :
    Calls Tryz.prog 64 #[.agg #[.map (some b), .int .i64 (lg : Int)], .string s, .bool inV] w fun e w' => (∃ t : ByteArray, t.size ≤ 16 ∧ e = .returned (.tuple #[.string t, .int .i64 (refSize look lg s inV : Int)])) ∧ Kept [] w w' := by
  obtain ⟨w0, hw0⟩ : ∃ w0, w0 = w.alloc (.cells #[.map (some b), .int .i64 (lg : Int)] 123) := ⟨_, rfl⟩
  have hb0 : w0.heap[w.heap.size]? = some (.cells #[.map (some b), .int .i64 (lg : Int)] 123 (0, 0)) := by rw [hw0]; exact heap_alloc_at w _
  have k0 : Kept [] w w0 := by rw [hw0]; exact (Kept.refl _ _).alloc _
  have c0 : w0.cell? ⟨w.heap.size, 0, none⟩ = some (.map (some b)) := by rw [cell_at hb0]; rfl
  have c1 : w0.cell? ⟨w.heap.size, 1, none⟩ = some (.int .i64 (lg : Int)) := by rw [cell_at hb0]; rfl
  have HW := hide hw0.symm
  have HK := hide k0
  have HL := hide (hL.kept k0 (by simp))
  have P1 := hide (hasPrefix_any s ⟨#[38, 35]⟩ w0 hs (by decide))
  have P2 := hide (hasPrefix_any s ⟨#[38]⟩ w0 hs (by decide))
  clear hw0 hb0 k0 hL
  cases h1 : pre s ⟨#[38, 35]⟩
  · rw [h1] at P1
    cases h2 : pre s ⟨#[38]⟩
    · rw [h2] at P2
      have e : refSize look lg s inV = 0 := by unfold refSize; rw [if_neg (by simp [h1]), if_neg (by simp [h2])]
      rw [e]
      clear e h1 h2
      go_enter Tryz.func64, Tryz.ntmps64
      go_wp2_with fail
      rw [HW.out]
      refine P1.out.mono ?_
      rintro e w' ⟨rfl, rfl⟩
      go_wp2_with fail
      refine P2.out.mono ?_
      rintro e w' ⟨rfl, rfl⟩
      go_wp2
      go_ret2
      exact ⟨⟨⟨#[]⟩, (by show 0 ≤ 16; omega), rfl⟩, HK.out⟩
    · rw [h2] at P2
      have hz : 1 ≤ s.size := pre_le h2
      have e : refSize look lg s inV = nmSize look s inV (min lg (s.size - 1)) := by unfold refSize; rw [if_neg (by simp [h1]), if_pos h2]
      rw [e]
      clear e h1 h2
      have C := hide (readRef_any b lg look s inV w0 HL.out hlg hs hz)
      generalize nmSize look s inV (min lg (s.size - 1)) = m at *
      go_enter Tryz.func64, Tryz.ntmps64
      go_wp2_with fail
      rw [HW.out]
      refine P1.out.mono ?_
      rintro e w' ⟨rfl, rfl⟩
      go_wp2_with fail
      refine P2.out.mono ?_
      rintro e w' ⟨rfl, rfl⟩
      go_wp2_with fail
      refine C.out.mono ?_
      rintro e w2 ⟨⟨t, htz, rfl⟩, hk2⟩
      have HTZ := hide htz
      clear htz
      have HK2 := hide (HK.out.trans hk2)
      clear hk2
      go_wp2
      go_ret2
      exact ⟨⟨t, HTZ.out, rfl⟩, HK2.out⟩
  · rw [h1] at P1
    have hz : 2 ≤ s.size := pre_le h1
    have e : refSize look lg s inV = numSize s := by unfold refSize; rw [if_pos h1]
    rw [e]
    clear e h1
    have C := hide (readNumber_any s w0 hs hz)
    generalize numSize s = m at *
    go_enter Tryz.func64, Tryz.ntmps64
    go_wp2_with fail
    rw [HW.out]
    refine P1.out.mono ?_
    rintro e w' ⟨rfl, rfl⟩
    go_wp2_with fail
    refine C.out.mono ?_
    rintro e w2 ⟨⟨t, htz, rfl⟩, rfl⟩
    have HTZ := hide htz
    clear htz
    go_wp2
    go_ret2
    exact ⟨⟨t, HTZ.out, rfl⟩, HK.out⟩

theorem Rd.mv {w : World} {r : Nat} {R : RC} {bg ps : Nat} (h : Rd w r R bg ps) : w.cell? ⟨r, 5, none⟩ = some R.mv := by rw [cell_at h]; rfl
theorem Rd.lg {w : World} {r : Nat} {R : RC} {bg ps : Nat} (h : Rd w r R bg ps) : w.cell? ⟨r, 6, none⟩ = some (.int .i64 R.lg) := by rw [cell_at h]; rfl

/-- How many characters a character token takes. -/
def charSize (look : ByteArray → Option ByteArray) (lg : Nat) (s : ByteArray) : Nat := if refSize look lg s false = 0 then 1 else refSize look lg s false
theorem charSize_pos {look : ByteArray → Option ByteArray} {lg : Nat} {s : ByteArray} : 0 < charSize look lg s := by unfold charSize; split <;> omega
theorem charSize_le {look : ByteArray → Option ByteArray} {lg : Nat} {s : ByteArray} (h : 0 < s.size) : charSize look lg s ≤ s.size := by
  unfold charSize; split
  · omega
  · exact refSize_le

set_option maxRecDepth 100000 in
set_option maxHeartbeats 1000000 in
theorem char_any (r : Nat) (R : RC) (bg ps g cap b lg : Nat) (look : ByteArray → Option ByteArray) (cut : Nat → Nat) (w : World) (h : Rd w r R bg ps) (hA : Ats w r R g cap cut) (hL : Lk w b look) (hbr : b ≠ r) (hmv : R.mv = .map (some b)) (hlg : R.lg = lg) (hlg2 : lg ≤ 1048576) (hb : bg < R.cs.size) (hs : R.cs.size ≤ 1024) :
    Calls Tryz.prog 52 #[.pointer (some ⟨r, 0, none⟩)] w fun e w' => (∃ t, e = .returned (.iface 135 (.agg #[.int .i64 (cut bg : Int), .int .i64 (cut (bg + charSize look lg (R.cs.extract bg R.cs.size)) : Int), .string t]))) ∧ Kept [r] w w' ∧ Rd w' r R bg (bg + charSize look lg (R.cs.extract bg R.cs.size)) := by
  have hez : (R.cs.extract bg R.cs.size).size = R.cs.size - bg := by simp
  have hle : charSize look lg (R.cs.extract bg R.cs.size) ≤ R.cs.size - bg := by rw [← hez]; exact charSize_le (by omega)
  have bgc := h.bg
  have fz := h.free 3
  obtain ⟨w1, hw1⟩ : ∃ w1, w1 = w.setCell ⟨r, 3, none⟩ (.int .i64 (bg : Int)) := ⟨_, rfl⟩
  have r1 : Rd w1 r R bg bg := by rw [hw1]; exact h.setPs bg
  have k1 : Kept [r] w w1 := by rw [hw1]; exact (Kept.refl _ _).setCell (.inl (by simp)) _
  have p3 := h.ps
  have m1 := r1.mv
  have g1 := r1.lg
  rw [hmv] at m1
  rw [hlg] at g1
  have HW := hide hw1.symm
  have C1 := hide (fun q => rest_any r R bg bg (w1.drewN q) (show Rd (w1.drewN q) r R bg bg from r1) (by omega) hs)
  have C2 := hide (fun q => read_any b lg look (R.cs.extract bg R.cs.size) false (w1.drewN q) ((hL.kept k1 (by simp [hbr])).kept ((Kept.refl [] w1).drewN q) (by simp)) hlg2 (by rw [hez]; omega))
  have HA := hide hA
  have HK1 := hide k1
  have HR1 := hide r1
  have HRW := hide h
  clear hw1 k1 h hA hL
  go_enter Tryz.func52, Tryz.ntmps52
  go_wp2_with fail
  rw [HW.out]
  clear bgc fz p3
  go_cut [3, 4] from 12 to 21 (fun tv nv wc => (∃ t : ByteArray, tv = .string t) ∧ nv = .int .i64 (refSize look lg (R.cs.extract bg R.cs.size) false : Int) ∧ Kept [r] w wc ∧ Rd wc r R bg bg)
  case first =>
    go_region_with (first | (refine (C1.out _).mono ?_; rintro e w' ⟨rfl, q1, rfl⟩) | (refine (C2.out _).mono ?_; rintro e w2 ⟨⟨t, htz, rfl⟩, hk2⟩))
    all_goals (try (go_wp2_with fail))
    all_goals (go_meet; exact ⟨⟨t, rfl⟩, rfl, HK1.out.trans (((Kept.refl [r] w1).drewN _).trans (hk2.mono (by simp))), hk2.at (show Rd (w1.drewN _) r R bg bg from HR1.out) (by simp)⟩)
  case rest =>
    obtain ⟨⟨t, rfl⟩, rfl, hkc, hrc⟩ := hcut
    clear C1 C2 HW m1 g1
    have p4 := hrc.ps
    have f4 := hrc.free 3
    have HKC := hide hkc
    have HRC := hide hrc
    clear hkc hrc
    by_cases hz : refSize look lg (R.cs.extract bg R.cs.size) false = 0
    · have e1 : charSize look lg (R.cs.extract bg R.cs.size) = 1 := by unfold charSize; rw [if_pos hz]
      have E1 := hide e1
      rw [hz]
      clear e1 hz
      have C3 := hide (rest_any r R bg bg wc HRC.out (by omega) hs)
      go_wp2_with fail
      refine C3.out.mono ?_
      rintro e w4 ⟨rfl, q, rfl⟩
      have HKN := hide ((HKC.out.drewN q).setCell (p := ⟨r, 3, none⟩) (.inl (by simp)) (.int .i64 ((bg + 1 : Nat) : Int)))
      have HRN := hide (Rd.setPs (w := wc.drewN q) HRC.out (bg + 1))
      have P := hide (place_any r R bg (bg + 1) g cap cut _ HRN.out (HA.out.kept HKN.out) (by omega) (by omega) hs)
      go_wp2_with fail
      refine P.out.mono ?_
      rintro e w5 ⟨rfl, hk5⟩
      have HK5 := hide (HKN.out.trans (hk5.mono (by simp)))
      have HR5 := hide (HRN.out.kept hk5 (by simp))
      clear hk5
      go_wp2
      go_ret
      exact ⟨⟨_, by rw [E1.out]; rfl⟩, HK5.out, by rw [E1.out]; exact HR5.out⟩
    · have e1 : charSize look lg (R.cs.extract bg R.cs.size) = refSize look lg (R.cs.extract bg R.cs.size) false := by unfold charSize; rw [if_neg hz]
      rw [e1] at hle
      have E1 := hide e1
      clear e1
      generalize refSize look lg (R.cs.extract bg R.cs.size) false = n at *
      have hz2 : ((n : Int) == 0) = false := beq_eq_false_iff_ne.2 (by omega)
      have HKN := hide (HKC.out.setCell (p := ⟨r, 3, none⟩) (.inl (by simp)) (.int .i64 ((bg + n : Nat) : Int)))
      have HRN := hide (Rd.setPs HRC.out (bg + n))
      have P := hide (place_any r R bg (bg + n) g cap cut _ HRN.out (HA.out.kept HKN.out) (by omega) (by omega) hs)
      go_wp2_with fail
      refine P.out.mono ?_
      rintro e w5 ⟨rfl, hk5⟩
      have HK5 := hide (HKN.out.trans (hk5.mono (by simp)))
      have HR5 := hide (HRN.out.kept hk5 (by simp))
      clear hk5
      go_wp2
      go_ret
      exact ⟨⟨_, by rw [E1.out]; rfl⟩, HK5.out, by rw [E1.out]; exact HR5.out⟩
end Go.Proofs.YtnlmfklpebekdaaGreatDoor
