import Derived.Test.YtnlmfklpebekdaaGreatDoorRdH
import Derived.Deep.RegionWith
set_option linter.unusedSimpArgs false
set_option linter.unusedVariables false
namespace Go.Proofs.YtnlmfklpebekdaaGreatDoor
open Go.RowKit Go.PlainAid

/-- Where an attribute's name ends. -/
def nameEnd (R : RC) (ps : Nat) : Nat := scan (inSet ⟨#[32, 9, 10, 12, 47, 62, 61]⟩) R.cs (ps + 1)
set_option maxRecDepth 100000 in
set_option maxHeartbeats 1000000 in
theorem attributeName_any (r : Nat) (R : RC) (bg ps : Nat) (w : World) (h : Rd w r R bg ps) (hp : ps < R.cs.size) (hs : R.cs.size ≤ 1024) (hg : Gl w r) :
    Calls Tryz.prog 94 #[.pointer (some ⟨r, 0, none⟩)] w fun e w' => e = .returned (.string (noNul (small (R.cs.extract ps (nameEnd R ps))))) ∧ Kept [r] w w' ∧ Rd w' r R bg (nameEnd R ps) := by
  have p := h.ps
  have fz := h.free 3
  have HG := hide hg
  have HR1 := hide (h.setPs (ps + 1))
  have HK1 := hide ((Kept.refl [r] w).setCell (p := ⟨r, 3, none⟩) (.inl (by simp)) (.int .i64 ((ps + 1 : Nat) : Int)))
  clear h hg
  obtain ⟨w1, hw1⟩ : ∃ w1, w1 = w.setCell ⟨r, 3, none⟩ (.int .i64 ((ps + 1 : Nat) : Int)) := ⟨_, rfl⟩
  rw [← hw1] at HR1 HK1
  have hw1' : w.setCell ⟨r, 3, none⟩ (.int .i64 ((ps : Int) + 1)) = w1 := by rw [hw1]; congr 1
  have HW1 := hide hw1'
  clear hw1 hw1'
  have C := hide (upToOne r R bg (ps + 1) ⟨#[32, 9, 10, 12, 47, 62, 61]⟩ w1 HR1.out (by omega) hs)
  rw [show scan (inSet ⟨#[32, 9, 10, 12, 47, 62, 61]⟩) R.cs (ps + 1) = nameEnd R ps from rfl] at C
  have hle : nameEnd R ps ≤ R.cs.size := scan_le (by omega)
  have hge : ps + 1 ≤ nameEnd R ps := scan_ge
  generalize nameEnd R ps = n at *
  go_enter Tryz.func94, Tryz.ntmps94
  go_wp2_with fail
  rw [HW1.out]
  clear p fz
  refine (oneOf_any _ w1).mono ?_
  rintro e w' ⟨rfl, rfl⟩
  go_wp2_with fail
  refine C.out.mono ?_
  rintro e w2 ⟨rfl, hk2, hr2⟩
  have t2 := hr2.text
  have p2 := hr2.ps
  have HR2 := hide hr2
  have hk3 := HK1.out.trans hk2
  have HK3 := hide hk3
  have D := hide (fun q => readName_any r (R.cs.extract ps n) (w2.drewN q) (by simp; omega) (show Gl (w2.drewN q) r from HG.out.kept (hk3.drewN q)))
  clear hk2 hr2 hk3 C
  generalize hm : noNul (small (R.cs.extract ps n)) = m at D ⊢
  have Hm := hide hm
  clear hm
  go_wp2_with fail
  go_region_with (refine (D.out _).mono ?_; rintro e w3 ⟨rfl, hk4⟩)
  all_goals (try go_wp2)
  all_goals
    (go_ret
     exact ⟨by rw [Hm.out]; rfl, HK3.out.trans (((Kept.refl [r] w2).drewN 1).trans (hk4.mono (by simp))), hk4.at (show Rd (w2.drewN 1) r R bg n from HR2.out) (by simp)⟩)

theorem toList_eq {a b : ByteArray} (h : a.toList = b.toList) : a = b := by
  rw [ByteArray.toList_eq, ByteArray.toList_eq] at h
  exact ByteArray.ext (Array.toList_inj.1 h)
theorem bt_ext {s : ByteArray} {a b j : Nat} (h : a + j < b) (hb : b ≤ s.size) : bt (s.extract a b) j = bt s (a + j) := by
  have h1 : j < (s.extract a b).size := by simp; omega
  unfold bt
  rw [dif_pos h1, dif_pos (by omega)]
  rw [ByteArray.getElem_extract]
theorem bt_pre {s p : ByteArray} {ps j : Nat} (h : pre (s.extract ps s.size) p = true) (hj : j < p.size) : bt s (ps + j) = bt p j := by
  have hz := pre_le h
  unfold pre at h
  simp only [Bool.and_eq_true, decide_eq_true_eq, beq_iff_eq] at h
  have e := toList_eq h.2
  have hs : ps + j < s.size := by simp at hz; omega
  have h1 := bt_ext (s := s.extract ps s.size) (a := 0) (b := p.size) (j := j) (by omega) hz
  rw [e, Nat.zero_add, bt_ext (by omega) (Nat.le_refl _)] at h1
  exact h1.symm

/-- Behind the next '>', or the end. -/
def gtEnd (R : RC) (ps : Nat) : Nat := taken R ⟨#[62]⟩ (scan (inSet ⟨#[62]⟩) R.cs ps)
theorem gtEnd_le {R : RC} {ps : Nat} (h : ps ≤ R.cs.size) : gtEnd R ps ≤ R.cs.size := taken_le (scan_le h)
theorem gtEnd_ge {R : RC} {ps : Nat} : ps ≤ gtEnd R ps := Nat.le_trans scan_ge taken_ge
set_option maxRecDepth 100000 in
set_option maxHeartbeats 1000000 in
theorem looseComment_any (r : Nat) (R : RC) (bg ps g cap : Nat) (cut : Nat → Nat) (w : World) (h : Rd w r R bg ps) (hA : Ats w r R g cap cut) (hG : Gl w r) (hb : bg ≤ R.cs.size) (hp : ps ≤ R.cs.size) (hs : R.cs.size ≤ 1024) :
    Calls Tryz.prog 63 #[.pointer (some ⟨r, 0, none⟩)] w fun e w' => e = .returned (.iface 142 (.agg #[.int .i64 (cut bg : Int), .int .i64 (cut (gtEnd R ps) : Int), .string (noNul (R.cs.extract ps (scan (inSet ⟨#[62]⟩) R.cs ps)))])) ∧ Kept [r] w w' ∧ Rd w' r R bg (gtEnd R ps) := by
  have C := hide (upToOne r R bg ps ⟨#[62]⟩ w h hp hs)
  have HA := hide hA
  have HG := hide hG
  clear h hA hG
  have hle : scan (inSet ⟨#[62]⟩) R.cs ps ≤ R.cs.size := scan_le hp
  have D := hide (fun (w2 : World) (hr : Rd w2 r R bg (scan (inSet ⟨#[62]⟩) R.cs ps)) => take_any r R bg _ ⟨#[62]⟩ w2 hr hle hs (by decide))
  rw [show taken R ⟨#[62]⟩ (scan (inSet ⟨#[62]⟩) R.cs ps) = gtEnd R ps from rfl] at D
  have hle2 : gtEnd R ps ≤ R.cs.size := gtEnd_le hp
  generalize gtEnd R ps = m at *
  generalize scan (inSet ⟨#[62]⟩) R.cs ps = n at *
  go_enter Tryz.func63, Tryz.ntmps63
  go_wp2_with fail
  refine (oneOf_any _ w).mono ?_
  rintro e w' ⟨rfl, rfl⟩
  go_wp2_with fail
  refine C.out.mono ?_
  rintro e w2 ⟨rfl, hk2, hr2⟩
  have HK2 := hide hk2
  have HR2 := hide hr2
  clear hk2 hr2 C
  go_wp2_with fail
  refine (D.out _ HR2.out).mono ?_
  rintro e w3 ⟨rfl, hk3, hr3⟩
  have HK3 := hide (HK2.out.trans hk3)
  have E := hide (place_any r R bg m g cap cut w3 hr3 (HA.out.kept HK3.out) hb hle2 hs)
  have HR3 := hide hr3
  clear hk3 hr3 D
  go_wp2_with fail
  refine E.out.mono ?_
  rintro e w4 ⟨rfl, hk4⟩
  have HK4 := hide (HK3.out.trans (hk4.mono (by simp)))
  have HR4 : Hid (Rd w4 r R bg m) := HR3.out.kept hk4 (by simp)
  have F := hide (noNul_any r (R.cs.extract ps n) w4 (by simp; omega) (HG.out.kept HK4.out))
  clear hk4 E
  go_wp2_with fail
  refine F.out.mono ?_
  rintro e w5 ⟨rfl, hk5⟩
  have HK5 := hide (HK4.out.trans (hk5.mono (by simp)))
  have HR5 : Hid (Rd w5 r R bg m) := HR4.out.kept hk5 (by simp)
  clear hk5 F
  go_wp2
  go_ret
  exact ⟨rfl, HK5.out, HR5.out⟩

/-- A text without an end of a comment that is cut off. -/
def noHalf (s : ByteArray) : ByteArray :=
  if Lib.hasSuffix s.data.toList [45, 45, 33] then ⟨(Lib.trimSuffix s.data.toList [45, 45, 33]).toArray⟩
  else if Lib.hasSuffix s.data.toList [45, 45] then ⟨(Lib.trimSuffix s.data.toList [45, 45]).toArray⟩
  else if Lib.hasSuffix s.data.toList [45] then ⟨(Lib.trimSuffix s.data.toList [45]).toArray⟩ else s
set_option maxRecDepth 100000 in
set_option maxHeartbeats 1000000 in
theorem noHalf_any (s : ByteArray) (w : World) (hs : s.size ≤ 1048576) :
    Calls Tryz.prog 80 #[.string s] w fun e w' => e = .returned (.string (noHalf s)) ∧ Kept [] w w' := by
  have C1 := hide (fun w => Tryz.strings_CutSuffix s ⟨#[45, 45, 33]⟩ w (by omega))
  have C2 := hide (fun w => Tryz.strings_CutSuffix s ⟨#[45, 45]⟩ w (by omega))
  have C3 := hide (fun w => Tryz.strings_CutSuffix s ⟨#[45]⟩ w (by omega))
  have HK : Hid (Kept [] w (w.alloc (.cells #[.string ⟨#[45, 45, 33]⟩, .string ⟨#[45, 45]⟩, .string ⟨#[45]⟩] 9))) := (Kept.refl _ _).alloc _
  unfold noHalf
  simp only at C1 C2 C3
  cases h1 : Lib.hasSuffix s.data.toList [45, 45, 33]
  · rw [h1] at C1
    cases h2 : Lib.hasSuffix s.data.toList [45, 45]
    · rw [h2] at C2
      cases h3 : Lib.hasSuffix s.data.toList [45]
      · rw [h3] at C3
        simp only [Bool.false_eq_true, ↓reduceIte]
        clear h1 h2 h3
        generalize Lib.trimSuffix s.data.toList [45, 45, 33] = t1 at *
        generalize Lib.trimSuffix s.data.toList [45, 45] = t2 at *
        generalize Lib.trimSuffix s.data.toList [45] = t3 at *
        go_enter Tryz.func80, Tryz.ntmps80
        go_wp2_with fail
        refine wp_loop_rounds 4 ?_
        rw [rounds_succ]
        go_wp2_with fail
        refine (C1.out _).mono ?_
        rintro e w' ⟨rfl, rfl⟩
        go_wp2_with fail
        rw [rounds_succ]
        go_wp2_with fail
        refine (C2.out _).mono ?_
        rintro e w' ⟨rfl, rfl⟩
        go_wp2_with fail
        rw [rounds_succ]
        go_wp2_with fail
        refine (C3.out _).mono ?_
        rintro e w' ⟨rfl, rfl⟩
        go_wp2_with fail
        rw [rounds_succ]
        go_wp2
        go_ret
        exact ⟨rfl, HK.out⟩
      · rw [h3] at C3
        simp only [Bool.false_eq_true, ↓reduceIte]
        clear h1 h2 h3
        generalize Lib.trimSuffix s.data.toList [45, 45, 33] = t1 at *
        generalize Lib.trimSuffix s.data.toList [45, 45] = t2 at *
        generalize Lib.trimSuffix s.data.toList [45] = t3 at *
        go_enter Tryz.func80, Tryz.ntmps80
        go_wp2_with fail
        refine wp_loop_rounds 4 ?_
        rw [rounds_succ]
        go_wp2_with fail
        refine (C1.out _).mono ?_
        rintro e w' ⟨rfl, rfl⟩
        go_wp2_with fail
        rw [rounds_succ]
        go_wp2_with fail
        refine (C2.out _).mono ?_
        rintro e w' ⟨rfl, rfl⟩
        go_wp2_with fail
        rw [rounds_succ]
        go_wp2_with fail
        refine (C3.out _).mono ?_
        rintro e w' ⟨rfl, rfl⟩
        go_wp2
        go_ret
        exact ⟨rfl, HK.out⟩
    · rw [h2] at C2
      simp only [Bool.false_eq_true, ↓reduceIte]
      clear h1 h2
      generalize Lib.trimSuffix s.data.toList [45, 45, 33] = t1 at *
      generalize Lib.trimSuffix s.data.toList [45, 45] = t2 at *
      go_enter Tryz.func80, Tryz.ntmps80
      go_wp2_with fail
      refine wp_loop_rounds 4 ?_
      rw [rounds_succ]
      go_wp2_with fail
      refine (C1.out _).mono ?_
      rintro e w' ⟨rfl, rfl⟩
      go_wp2_with fail
      rw [rounds_succ]
      go_wp2_with fail
      refine (C2.out _).mono ?_
      rintro e w' ⟨rfl, rfl⟩
      go_wp2
      go_ret
      exact ⟨rfl, HK.out⟩
  · rw [h1] at C1
    simp only [↓reduceIte]
    clear h1
    generalize Lib.trimSuffix s.data.toList [45, 45, 33] = t1 at *
    go_enter Tryz.func80, Tryz.ntmps80
    go_wp2_with fail
    refine wp_loop_rounds 4 ?_
    rw [rounds_succ]
    go_wp2_with fail
    refine (C1.out _).mono ?_
    rintro e w' ⟨rfl, rfl⟩
    go_wp2
    go_ret
    exact ⟨rfl, HK.out⟩
end Go.Proofs.YtnlmfklpebekdaaGreatDoor
