import Derived.Test.YtnlmfklpebekdaaGreatDoorRdJ
set_option linter.unusedSimpArgs false
set_option linter.unusedVariables false
namespace Go.Proofs.YtnlmfklpebekdaaGreatDoor
open Go.RowKit Go.PlainAid

/-- Where a comment that begins with '<!--' ends, and its text. -/
def cmtEnd (R : RC) (ps : Nat) : Nat := if pre (R.cs.extract ps R.cs.size) ⟨#[62]⟩ = true then ps + 1 else if pre (R.cs.extract ps R.cs.size) ⟨#[45, 62]⟩ = true then ps + 2 else cend R ps
def cmtText (R : RC) (ps : Nat) : ByteArray := if pre (R.cs.extract ps R.cs.size) ⟨#[62]⟩ = true then ⟨#[]⟩ else if pre (R.cs.extract ps R.cs.size) ⟨#[45, 62]⟩ = true then ⟨#[]⟩ else ctext R ps ps
theorem cmtEnd_le {R : RC} {ps : Nat} (h : ps ≤ R.cs.size) : cmtEnd R ps ≤ R.cs.size := by
  unfold cmtEnd; split
  · rename_i h'; exact pre_rest h' h
  · split
    · rename_i h'; exact pre_rest h' h
    · exact cend_le h
theorem cmtEnd_ge {R : RC} {ps : Nat} : ps ≤ cmtEnd R ps := by
  unfold cmtEnd; split
  · omega
  · split
    · omega
    · exact cend_ge
theorem cmtEnd_shut {R : RC} {ps : Nat} (h : ps ≤ R.cs.size) : cmtEnd R ps = R.cs.size ∨ (ps < cmtEnd R ps ∧ bt R.cs (cmtEnd R ps - 1) = 62) := by
  unfold cmtEnd; split
  · rename_i h'; exact .inr ⟨by omega, bt_pre (j := 0) h' (by decide)⟩
  · split
    · rename_i h'; exact .inr ⟨by omega, bt_pre (j := 1) h' (by decide)⟩
    · exact cend_shut h
theorem noHalf_size (s : ByteArray) : (noHalf s).size ≤ s.size := by
  have h : ∀ p, (ByteArray.mk (Lib.trimSuffix s.data.toList p).toArray).size ≤ s.size := by
    intro p
    show (Lib.trimSuffix s.data.toList p).toArray.size ≤ s.data.size
    unfold Lib.trimSuffix
    split
    · simp
    · simp
  unfold noHalf; split
  · exact h _
  · split
    · exact h _
    · split
      · exact h _
      · exact Nat.le_refl _
theorem ctext_size {R : RC} {a i : Nat} : (ctext R a i).size ≤ R.cs.size := by
  fun_induction ctext R a i with
  | case1 => simp; omega
  | case2 => simp; omega
  | case3 => assumption
  | case4 => exact Nat.le_trans (noHalf_size _) (by simp)
theorem cmtText_size {R : RC} {ps : Nat} : (cmtText R ps).size ≤ R.cs.size := by
  unfold cmtText; split
  · exact Nat.zero_le _
  · split
    · exact Nat.zero_le _
    · exact ctext_size

/-- The end of comment and looseComment: the place, the text without NUL. -/
theorem comment_parts (r : Nat) (R : RC) (bg m g cap : Nat) (cut : Nat → Nat) (w w3 : World) (hA : Ats w r R g cap cut) (hG : Gl w r) (hb : bg ≤ R.cs.size) (hm : m ≤ R.cs.size) (hs : R.cs.size ≤ 1024) (hk : Kept [r] w w3) (hr : Rd w3 r R bg m) (t : ByteArray) (ht : t.size ≤ 1048576) :
    (Calls Tryz.prog 49 #[.pointer (some ⟨r, 0, none⟩)] w3 fun e w4 => e = .returned (.agg #[.int .i64 (cut bg : Int), .int .i64 (cut m : Int)]) ∧ Kept [r] w w4 ∧ Rd w4 r R bg m ∧
      Calls Tryz.prog 69 #[.string t] w4 fun e w5 => e = .returned (.string (noNul t)) ∧ Kept [r] w w5 ∧ Rd w5 r R bg m) := by
  refine (place_any r R bg m g cap cut w3 hr (hA.kept hk) hb hm hs).mono ?_
  rintro e w4 ⟨h1, hk4⟩
  have k4 := hk.trans (hk4.mono (by simp))
  refine ⟨h1, k4, hr.kept hk4 (by simp), ?_⟩
  refine (noNul_any r t w4 ht (hG.kept k4)).mono ?_
  rintro e w5 ⟨h2, hk5⟩
  exact ⟨h2, k4.trans (hk5.mono (by simp)), (hr.kept hk4 (by simp)).kept hk5 (by simp)⟩

set_option maxRecDepth 100000 in
set_option maxHeartbeats 1000000 in
theorem comment_any (r : Nat) (R : RC) (bg ps g cap : Nat) (cut : Nat → Nat) (w : World) (h : Rd w r R bg ps) (hA : Ats w r R g cap cut) (hG : Gl w r) (hb : bg ≤ R.cs.size) (hp : ps ≤ R.cs.size) (hs : R.cs.size ≤ 1024) :
    Calls Tryz.prog 59 #[.pointer (some ⟨r, 0, none⟩)] w fun e w' => e = .returned (.iface 142 (.agg #[.int .i64 (cut bg : Int), .int .i64 (cut (cmtEnd R ps) : Int), .string (noNul (cmtText R ps))])) ∧ Kept [r] w w' ∧ Rd w' r R bg (cmtEnd R ps) := by
  have D1 := hide (take_any r R bg ps ⟨#[62]⟩ w h hp hs (by decide))
  have D2 := hide (fun w' (h : Rd w' r R bg ps) => take_any r R bg ps ⟨#[45, 62]⟩ w' h hp hs (by decide))
  have D3 := hide (fun w' (h : Rd w' r R bg ps) => upToCommentEnd_any r R bg ps w' h hp hs)
  have F := hide (fun w3 (hk : Kept [r] w w3) (hr : Rd w3 r R bg (cmtEnd R ps)) => comment_parts r R bg (cmtEnd R ps) g cap cut w w3 hA hG hb (cmtEnd_le hp) hs hk hr (cmtText R ps) (Nat.le_trans cmtText_size (by omega)))
  clear h hA hG
  cases h1 : pre (R.cs.extract ps R.cs.size) ⟨#[62]⟩
  · have k1 : taken R ⟨#[62]⟩ ps = ps := by unfold taken; rw [if_neg (by simp [h1])]
    rw [h1, k1] at D1
    cases h2 : pre (R.cs.extract ps R.cs.size) ⟨#[45, 62]⟩
    · have k2 : taken R ⟨#[45, 62]⟩ ps = ps := by unfold taken; rw [if_neg (by simp [h2])]
      rw [h2, k2] at D2
      have q1 : cmtEnd R ps = cend R ps := by unfold cmtEnd; rw [if_neg (by simp [h1]), if_neg (by simp [h2])]
      have q2 : cmtText R ps = ctext R ps ps := by unfold cmtText; rw [if_neg (by simp [h1]), if_neg (by simp [h2])]
      rw [← q1, ← q2] at D3
      clear h1 h2 k1 k2 q1 q2
      generalize cmtEnd R ps = m at *
      generalize cmtText R ps = t at *
      go_enter Tryz.func59, Tryz.ntmps59
      go_wp2_with fail
      refine D1.out.mono ?_
      rintro e w1 ⟨rfl, hk1, hr1⟩
      have HK1 := hide hk1
      have HR1 := hide hr1
      clear hk1 hr1
      go_wp2_with fail
      refine (D2.out _ HR1.out).mono ?_
      rintro e w2 ⟨rfl, hk2, hr2⟩
      have HK2 := hide (HK1.out.trans hk2)
      have HR2 := hide hr2
      clear hk2 hr2
      go_wp2_with fail
      refine (D3.out _ HR2.out).mono ?_
      rintro e w3 ⟨rfl, hk3, hr3⟩
      have F3 := hide (F.out w3 (HK2.out.trans hk3) hr3)
      clear hk3 hr3
      go_wp2_with fail
      refine F3.out.mono ?_
      rintro e w4 ⟨rfl, hk4, hr4, hc4⟩
      have HC4 := hide hc4
      clear hk4 hr4 hc4
      go_wp2_with fail
      refine HC4.out.mono ?_
      rintro e w5 ⟨rfl, hk5, hr5⟩
      have HK5 := hide hk5
      have HR5 := hide hr5
      clear hk5 hr5
      go_wp2
      go_ret
      exact ⟨rfl, HK5.out, HR5.out⟩
    · have k2 : taken R ⟨#[45, 62]⟩ ps = ps + 2 := by unfold taken; rw [if_pos h2]; rfl
      rw [h2, k2] at D2
      have q1 : cmtEnd R ps = ps + 2 := by unfold cmtEnd; rw [if_neg (by simp [h1]), if_pos h2]
      have q2 : cmtText R ps = ⟨#[]⟩ := by unfold cmtText; rw [if_neg (by simp [h1]), if_pos h2]
      rw [q1, q2] at F ⊢
      clear h1 h2 k1 k2 q1 q2 D3
      go_enter Tryz.func59, Tryz.ntmps59
      go_wp2_with fail
      refine D1.out.mono ?_
      rintro e w1 ⟨rfl, hk1, hr1⟩
      have HK1 := hide hk1
      have HR1 := hide hr1
      clear hk1 hr1
      go_wp2_with fail
      refine (D2.out _ HR1.out).mono ?_
      rintro e w3 ⟨rfl, hk3, hr3⟩
      have F3 := hide (F.out w3 (HK1.out.trans hk3) hr3)
      clear hk3 hr3
      go_wp2_with fail
      refine F3.out.mono ?_
      rintro e w4 ⟨rfl, hk4, hr4, hc4⟩
      have HC4 := hide hc4
      clear hk4 hr4 hc4
      go_wp2_with fail
      refine HC4.out.mono ?_
      rintro e w5 ⟨rfl, hk5, hr5⟩
      have HK5 := hide hk5
      have HR5 := hide hr5
      clear hk5 hr5
      go_wp2
      go_ret
      exact ⟨rfl, HK5.out, HR5.out⟩
  · have k1 : taken R ⟨#[62]⟩ ps = ps + 1 := by unfold taken; rw [if_pos h1]; rfl
    rw [h1, k1] at D1
    have q1 : cmtEnd R ps = ps + 1 := by unfold cmtEnd; rw [if_pos h1]
    have q2 : cmtText R ps = ⟨#[]⟩ := by unfold cmtText; rw [if_pos h1]
    rw [q1, q2] at F ⊢
    clear h1 k1 q1 q2 D2 D3
    go_enter Tryz.func59, Tryz.ntmps59
    go_wp2_with fail
    refine D1.out.mono ?_
    rintro e w3 ⟨rfl, hk3, hr3⟩
    have F3 := hide (F.out w3 hk3 hr3)
    clear hk3 hr3
    go_wp2_with fail
    refine F3.out.mono ?_
    rintro e w4 ⟨rfl, hk4, hr4, hc4⟩
    have HC4 := hide hc4
    clear hk4 hr4 hc4
    go_wp2_with fail
    refine HC4.out.mono ?_
    rintro e w5 ⟨rfl, hk5, hr5⟩
    have HK5 := hide hk5
    have HR5 := hide hr5
    clear hk5 hr5
    go_wp2
    go_ret
    exact ⟨rfl, HK5.out, HR5.out⟩
end Go.Proofs.YtnlmfklpebekdaaGreatDoor
