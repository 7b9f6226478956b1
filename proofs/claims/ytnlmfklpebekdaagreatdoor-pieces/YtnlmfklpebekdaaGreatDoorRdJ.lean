import Derived.Test.YtnlmfklpebekdaaGreatDoorRdI
set_option linter.unusedSimpArgs false
set_option linter.unusedVariables false
namespace Go.Proofs.YtnlmfklpebekdaaGreatDoor
open Go.RowKit Go.PlainAid

def e1 : ByteArray := ⟨#[45, 45, 62]⟩
def e2 : ByteArray := ⟨#[45, 45, 33, 62]⟩
/-- Where a comment ends. -/
def cend (R : RC) (i : Nat) : Nat :=
  if i < R.cs.size then (if pre (R.cs.extract i R.cs.size) e1 = true then i + 3 else if pre (R.cs.extract i R.cs.size) e2 = true then i + 4 else cend R (i + 1)) else i
  termination_by R.cs.size - i
/-- Its text, from a on. -/
def ctext (R : RC) (a i : Nat) : ByteArray :=
  if i < R.cs.size then (if pre (R.cs.extract i R.cs.size) e1 = true then R.cs.extract a i else if pre (R.cs.extract i R.cs.size) e2 = true then R.cs.extract a i else ctext R a (i + 1)) else noHalf (R.cs.extract a R.cs.size)
  termination_by R.cs.size - i
theorem cend_ge {R : RC} {i : Nat} : i ≤ cend R i := by
  fun_induction cend R i <;> omega
theorem cend_le {R : RC} {i : Nat} (h : i ≤ R.cs.size) : cend R i ≤ R.cs.size := by
  fun_induction cend R i with
  | case1 i h1 h2 => exact pre_rest (p := e1) h2 h
  | case2 i h1 h2 h3 => exact pre_rest (p := e2) h3 h
  | case3 i h1 h2 h3 ih => exact ih (by omega)
  | case4 => exact h
theorem cend_shut {R : RC} {i : Nat} (h : i ≤ R.cs.size) : cend R i = R.cs.size ∨ (i < cend R i ∧ bt R.cs (cend R i - 1) = 62) := by
  fun_induction cend R i with
  | case1 i h1 h2 => right; exact ⟨by omega, bt_pre (p := e1) (j := 2) h2 (by decide)⟩
  | case2 i h1 h2 h3 => right; exact ⟨by omega, bt_pre (p := e2) (j := 3) h3 (by decide)⟩
  | case3 i h1 h2 h3 ih => rcases ih (by omega) with h | h; exact .inl h; exact .inr ⟨by omega, h.2⟩
  | case4 i h1 => left; omega
theorem cend1 {R : RC} {i : Nat} (h : i < R.cs.size) (h1 : pre (R.cs.extract i R.cs.size) e1 = true) : cend R i = i + 3 := by rw [cend, if_pos h, if_pos h1]
theorem cend2 {R : RC} {i : Nat} (h : i < R.cs.size) (h1 : pre (R.cs.extract i R.cs.size) e1 = false) (h2 : pre (R.cs.extract i R.cs.size) e2 = true) : cend R i = i + 4 := by rw [cend, if_pos h, if_neg (by simp [h1]), if_pos h2]
theorem cend3 {R : RC} {i : Nat} (h : i < R.cs.size) (h1 : pre (R.cs.extract i R.cs.size) e1 = false) (h2 : pre (R.cs.extract i R.cs.size) e2 = false) : cend R i = cend R (i + 1) := by rw [cend, if_pos h, if_neg (by simp [h1]), if_neg (by simp [h2])]
theorem ctext1 {R : RC} {a i : Nat} (h : i < R.cs.size) (h1 : pre (R.cs.extract i R.cs.size) e1 = true) : ctext R a i = R.cs.extract a i := by rw [ctext, if_pos h, if_pos h1]
theorem ctext2 {R : RC} {a i : Nat} (h : i < R.cs.size) (h1 : pre (R.cs.extract i R.cs.size) e1 = false) (h2 : pre (R.cs.extract i R.cs.size) e2 = true) : ctext R a i = R.cs.extract a i := by rw [ctext, if_pos h, if_neg (by simp [h1]), if_pos h2]
theorem ctext3 {R : RC} {a i : Nat} (h : i < R.cs.size) (h1 : pre (R.cs.extract i R.cs.size) e1 = false) (h2 : pre (R.cs.extract i R.cs.size) e2 = false) : ctext R a i = ctext R a (i + 1) := by rw [ctext, if_pos h, if_neg (by simp [h1]), if_neg (by simp [h2])]

set_option maxRecDepth 100000 in
set_option maxHeartbeats 2000000 in
theorem upToCommentEnd_any (r : Nat) (R : RC) (bg ps : Nat) (w : World) (h : Rd w r R bg ps) (hp : ps ≤ R.cs.size) (hs : R.cs.size ≤ 1024) :
    Calls Tryz.prog 68 #[.pointer (some ⟨r, 0, none⟩)] w fun e w' => e = .returned (.string (ctext R ps ps)) ∧ Kept [r] w w' ∧ Rd w' r R bg (cend R ps) := by
  have p0 := h.ps
  have H := hide h
  clear h
  obtain ⟨ce, hce⟩ : ∃ x, x = cend R ps := ⟨_, rfl⟩
  obtain ⟨ct, hct⟩ : ∃ x, x = ctext R ps ps := ⟨_, rfl⟩
  rw [← hce, ← hct]
  have HE := hide hce
  have HT := hide hct
  clear hce hct
  go_enter Tryz.func68, Tryz.ntmps68
  go_wp2_with fail
  clear p0
  go_loopw [] (fun wr => ∃ i : Nat, ps ≤ i ∧ i ≤ R.cs.size ∧ cend R i = ce ∧ ctext R ps i = ct ∧ Rd wr r R bg i ∧ Kept [r] w wr) (fun wr => R.cs.size - (match wr.cell? ⟨r, 3, none⟩ with | some v => (intOf v).toNat | none => 0))
  case atStart => exact ⟨ps, Nat.le_refl _, hp, HE.out.symm, HT.out.symm, H.out, Kept.refl _ _⟩
  case round =>
    obtain ⟨i, hi0, hi1, hcc, hcx, hrd, hkw⟩ := hrel
    have HC := hide hcc
    have HX := hide hcx
    have HR := hide hrd
    have HKW := hide hkw
    have t := hrd.text
    have p := hrd.ps
    have fz := hrd.free 3
    clear hrd hkw hcc hcx
    by_cases e : i = R.cs.size
    · have e3 : decide (i = R.cs.size) = true := by simp [e]
      have C := hide (atEnd_any r R bg i wr HR.out)
      rw [e3] at C
      have hx : ct = noHalf (R.cs.extract ps R.cs.size) := by rw [← HX.out, ctext, if_neg (by omega)]
      have hy : ce = i := by rw [← HC.out, cend, if_neg (by omega)]
      have Hx := hide hx
      have Hy := hide hy
      clear hx hy e3
      have hid := hide e
      clear e
      have D := hide (fun w' => noHalf_any (R.cs.extract ps R.cs.size) w' (by simp; omega))
      go_wp2_with fail
      refine C.out.mono ?_
      rintro e w1 ⟨rfl, q, rfl⟩
      go_wp2_with fail
      refine (D.out _).mono ?_
      rintro e w2 ⟨rfl, hk2⟩
      have HK2 := hide hk2
      clear hk2
      go_wp2
      go_ret
      exact ⟨by rw [Hx.out]; rfl, (HKW.out.drewN q).trans (HK2.out.mono (by simp)), by rw [Hy.out]; exact HK2.out.at (show Rd (wr.drewN q) r R bg i from HR.out) (by simp)⟩
    · have hlt : i < R.cs.size := by omega
      have e3 : decide (i = R.cs.size) = false := by simp [e]
      have C := hide (atEnd_any r R bg i wr HR.out)
      rw [e3] at C
      have D1 := hide (fun w' (h : Rd w' r R bg i) => take_any r R bg i e1 w' h hi1 hs (by decide))
      have D2 := hide (fun w' (h : Rd w' r R bg i) => take_any r R bg i e2 w' h hi1 hs (by decide))
      cases h1 : pre (R.cs.extract i R.cs.size) e1
      · have k1 : taken R e1 i = i := by unfold taken; rw [if_neg (by simp [h1])]
        rw [h1, k1] at D1
        cases h2 : pre (R.cs.extract i R.cs.size) e2
        · have k2 : taken R e2 i = i := by unfold taken; rw [if_neg (by simp [h2])]
          rw [h2, k2] at D2
          have HS := hide (cend3 hlt h1 h2)
          have HS2 := hide (ctext3 (a := ps) hlt h1 h2)
          clear h1 h2 k1 k2 e3
          unfold e1 at D1
          unfold e2 at D2
          go_wp2_with fail
          refine C.out.mono ?_
          rintro e w1 ⟨rfl, q, rfl⟩
          go_wp2_with fail
          go_quiet (fail)
          go_wp2_with fail
          refine (D1.out _ ?_).mono ?_
          · exact HR.out
          rintro e w2 ⟨rfl, hk2, hr2⟩
          have HK2 := hide hk2
          have HR2 := hide hr2
          clear hk2 hr2
          go_wp2_with fail
          refine (D2.out _ HR2.out).mono ?_
          rintro e w3 ⟨rfl, hk3, hr3⟩
          have p3 := hr3.ps
          have f3 := hr3.free 3
          have HR3 := hide hr3
          have HK3 := hide hk3
          clear hk3 hr3
          have HRN := hide (Rd.setPs HR3.out (i + 1))
          have HKN := hide (((HKW.out.drewN (q + nq)).trans (HK2.out.trans HK3.out)).setCell (p := ⟨r, 3, none⟩) (.inl (by simp)) (.int .i64 ((i + 1 : Nat) : Int)))
          go_wp2
          go_roundw
          case rel => exact ⟨i + 1, by omega, by omega, by rw [← HS.out, HC.out], by rw [← HS2.out, HX.out], HRN.out, HKN.out⟩
          case measure =>
            have m1 := HRN.out.ps
            rw [show ((i : Int) + 1) = ((i + 1 : Nat) : Int) from by omega, m1, p]
            simp [intOf]; omega
        · have k2 : taken R e2 i = i + 4 := by unfold taken; rw [if_pos h2]; rfl
          rw [h2, k2] at D2
          have HS := hide (cend2 hlt h1 h2)
          have HS2 := hide (ctext2 (a := ps) hlt h1 h2)
          clear h1 h2 k1 k2 e3
          unfold e1 at D1
          unfold e2 at D2
          go_wp2_with fail
          refine C.out.mono ?_
          rintro e w1 ⟨rfl, q, rfl⟩
          go_wp2_with fail
          go_quiet (fail)
          go_wp2_with fail
          refine (D1.out _ ?_).mono ?_
          · exact HR.out
          rintro e w2 ⟨rfl, hk2, hr2⟩
          have HK2 := hide hk2
          have HR2 := hide hr2
          clear hk2 hr2
          go_wp2_with fail
          refine (D2.out _ HR2.out).mono ?_
          rintro e w3 ⟨rfl, hk3, hr3⟩
          have HR3 := hide hr3
          have HKN := hide (((HKW.out.drewN (q + nq)).trans (HK2.out.trans hk3)))
          clear hk3 hr3
          go_wp2
          go_ret
          exact ⟨by rw [← HX.out, HS2.out]; rfl, HKN.out, by rw [← HC.out, HS.out]; exact HR3.out⟩
      · have k1 : taken R e1 i = i + 3 := by unfold taken; rw [if_pos h1]; rfl
        rw [h1, k1] at D1
        have HS := hide (cend1 hlt h1)
        have HS2 := hide (ctext1 (a := ps) hlt h1)
        clear h1 k1 e3 D2
        unfold e1 at D1
        go_wp2_with fail
        refine C.out.mono ?_
        rintro e w1 ⟨rfl, q, rfl⟩
        go_wp2_with fail
        go_quiet (fail)
        go_wp2_with fail
        refine (D1.out _ ?_).mono ?_
        · exact HR.out
        rintro e w2 ⟨rfl, hk2, hr2⟩
        have HR3 := hide hr2
        have HKN := hide (((HKW.out.drewN (q + nq)).trans hk2))
        clear hk2 hr2
        go_wp2
        go_ret
        exact ⟨by rw [← HX.out, HS2.out]; rfl, HKN.out, by rw [← HC.out, HS.out]; exact HR3.out⟩
end Go.Proofs.YtnlmfklpebekdaaGreatDoor
