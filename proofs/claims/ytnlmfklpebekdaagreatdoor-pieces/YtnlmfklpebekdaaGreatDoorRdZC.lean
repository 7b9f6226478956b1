import Derived.Test.YtnlmfklpebekdaaGreatDoorRdZ
set_option linter.unusedSimpArgs false
set_option linter.unusedVariables false
namespace Go.Proofs.YtnlmfklpebekdaaGreatDoor
open Go.RowKit Go.PlainAid

def dty : ByteArray := ⟨#[33, 100, 111, 99, 116, 121, 112, 101]⟩
def isQ (R : RC) (ps : Nat) : Bool := decide (ps < R.cs.size) && inSet ⟨#[63]⟩ (bt R.cs ps)
/-- Behind "<". -/
def lessTok (R : RC) (look : ByteArray → Option ByteArray) (lg bg ps : Nat) : Tok :=
  if isLet R ps = true then tagTok R 2 (tagGo R [] (tagA R ps))
  else if pre (R.cs.extract ps R.cs.size) ⟨#[47]⟩ = true then slashTok R look lg bg (ps + 1)
  else if pre (R.cs.extract ps R.cs.size) ⟨#[33, 45, 45]⟩ = true then .tok 4 (cmtEnd R (ps + 3))
  else if isAny R ⟨#[33, 100, 111, 99, 116, 121, 112, 101]⟩ ps = true then .tok 5 (gtEnd R (dtB R (ps + 8)))
  else if pre (R.cs.extract ps R.cs.size) ⟨#[33]⟩ = true then .tok 4 (gtEnd R (ps + 1))
  else if isQ R ps = true then .tok 4 (gtEnd R ps)
  else charTok R look lg bg
theorem isAny_le {R : RC} {s : ByteArray} {ps : Nat} (h : isAny R s ps = true) (hp : ps ≤ R.cs.size) : ps + s.size ≤ R.cs.size := by
  unfold isAny at h; simp at h; omega
theorem isNext_q (r : Nat) (R : RC) (bg ps : Nat) (w : World) (h : Rd w r R bg ps) (hp : ps ≤ R.cs.size) (hs : R.cs.size ≤ 1024) :
    Calls Tryz.prog 55 #[.pointer (some ⟨r, 0, none⟩), .func (.func 75) #[] #[.pointer (some ⟨w.heap.size, 0, none⟩)]] (w.alloc (.cells #[.string ⟨#[63]⟩] 9))
      fun e w' => e = .returned (.bool (isQ R ps)) ∧ Kept [r] w w' ∧ Rd w' r R bg ps := by
  have hr := lt_of_block h
  have k : Kept [] w (w.alloc (.cells #[.string ⟨#[63]⟩] 9)) := (Kept.refl _ _).alloc _
  have b := heap_alloc_at w (.cells #[.string ⟨#[63]⟩] 9)
  refine (isNext_any r R bg ps _ _ _ _ (k.at h (by simp)) hp hs (asks_oneOf _ [r] w.heap.size ⟨#[63]⟩ (by rw [cell_at b]; rfl) (by simp) (by simp; omega))).mono ?_
  rintro e w' ⟨h1, n, rfl⟩
  exact ⟨h1, (k.mono (by simp)).drewN n, k.at h (by simp)⟩


set_option maxRecDepth 100000 in
set_option maxHeartbeats 1000000 in
theorem less_0 (r : Nat) (R : RC) (bg ps g cap b lg : Nat) (look : ByteArray → Option ByteArray) (cut : Nat → Nat) (w : World) (h : Rd w r R bg ps) (hO : Ok w r R g cap b lg look cut) (hb : bg < R.cs.size) (hp : ps ≤ R.cs.size)
    (c0 : isLet R ps = true) (T : Tok) (hT : tagTok R 2 (tagGo R [] (tagA R ps)) = T) :
    Calls Tryz.prog 51 #[.pointer (some ⟨r, 0, none⟩)] w fun e w' => TokPost w r R bg cut e w' T := by
  have HO := hide hO
  have HR0 := hide h
  have hs := hO.small
  have CL := isNext_letter r R bg ps w h hp hs
  rw [c0] at CL
  have HCL := hide CL
  clear h hO CL
  cases T with
  | stop =>
    go_enter Tryz.func51, Tryz.ntmps51
    go_wp2_with fail
    refine HCL.out.mono ?_
    rintro e w1 ⟨rfl, q, rfl⟩
    have HK0 := hide ((Kept.refl [r] w).drewN q)
    have HR1 : Hid (Rd (w.drewN q) r R bg ps) := HR0.out
    have HOX := hide (HO.out.kept HK0.out)
    have CC0 := startTag_any r R bg ps g cap b lg look cut (w.drewN q) HR1.out HOX.out (by omega) hp
    rw [hT] at CC0
    have CC := hide CC0
    clear CC0
    go_wp2_with fail
    refine CC.out.mono ?_
    rintro e wz ⟨k, rfl, h2, h3, h4⟩
    have HF := hide (TokPost.back (show TokPost (w.drewN q) r R bg cut _ wz .stop from ⟨k, rfl, h2, h3, h4⟩) HK0.out)
    clear h2 h3 h4 CC
    go_wp2
    exact ⟨rfl, HF.out⟩
  | tok kd m =>
    go_enter Tryz.func51, Tryz.ntmps51
    go_wp2_with fail
    refine HCL.out.mono ?_
    rintro e w1 ⟨rfl, q, rfl⟩
    have HK0 := hide ((Kept.refl [r] w).drewN q)
    have HR1 : Hid (Rd (w.drewN q) r R bg ps) := HR0.out
    have HOX := hide (HO.out.kept HK0.out)
    have CC0 := startTag_any r R bg ps g cap b lg look cut (w.drewN q) HR1.out HOX.out (by omega) hp
    rw [hT] at CC0
    have CC := hide CC0
    clear CC0
    go_wp2_with fail
    refine CC.out.mono ?_
    rintro e wz ⟨⟨v, rfl, hv⟩, hk, hr⟩
    have HF := hide (TokPost.back (show TokPost (w.drewN q) r R bg cut (.returned v) wz (.tok kd m) from ⟨⟨v, rfl, hv⟩, hk, hr⟩) HK0.out)
    clear hv hk hr CC
    go_wp2
    go_ret
    exact HF.out


set_option maxRecDepth 100000 in
set_option maxHeartbeats 1000000 in
theorem less_1 (r : Nat) (R : RC) (bg ps g cap b lg : Nat) (look : ByteArray → Option ByteArray) (cut : Nat → Nat) (w : World) (h : Rd w r R bg ps) (hO : Ok w r R g cap b lg look cut) (hb : bg < R.cs.size) (hp : ps ≤ R.cs.size)
    (c0 : isLet R ps = false) (c1 : pre (R.cs.extract ps R.cs.size) ⟨#[47]⟩ = true) (T : Tok) (hT : slashTok R look lg bg (ps + 1) = T) :
    Calls Tryz.prog 51 #[.pointer (some ⟨r, 0, none⟩)] w fun e w' => TokPost w r R bg cut e w' T := by
  have HO := hide hO
  have HR0 := hide h
  have hs := hO.small
  have CL := isNext_letter r R bg ps w h hp hs
  rw [c0] at CL
  have HCL := hide CL
  clear h hO CL
  cases T with
  | stop =>
    go_enter Tryz.func51, Tryz.ntmps51
    go_wp2_with fail
    refine HCL.out.mono ?_
    rintro e w1 ⟨rfl, q, rfl⟩
    have HK0 := hide ((Kept.refl [r] w).drewN q)
    have HR1 : Hid (Rd (w.drewN q) r R bg ps) := HR0.out
    have C1 := take_any r R bg ps ⟨#[47]⟩ (w.drewN q) HR1.out hp hs (by decide)
    have t1 : taken R ⟨#[47]⟩ ps = ps + 1 := by unfold taken; rw [if_pos c1]; rfl
    rw [c1, t1] at C1
    have HC1 := hide C1
    clear C1
    go_wp2_with fail
    refine HC1.out.mono ?_
    rintro e w2 ⟨rfl, hk, hr⟩
    have HK1 := hide (HK0.out.trans hk)
    have HR2 : Hid (Rd w2 r R bg (ps + 1)) := hr
    clear hk hr HC1
    have HOX := hide (HO.out.kept HK1.out)
    have CC0 := behindSlash_any r R bg (ps + 1) g cap b lg look cut w2 HR2.out HOX.out hb (pre_rest c1 hp)
    rw [hT] at CC0
    have CC := hide CC0
    clear CC0
    go_wp2_with fail
    refine CC.out.mono ?_
    rintro e wz ⟨k, rfl, h2, h3, h4⟩
    have HF := hide (TokPost.back (show TokPost w2 r R bg cut _ wz .stop from ⟨k, rfl, h2, h3, h4⟩) HK1.out)
    clear h2 h3 h4 CC
    go_wp2
    exact ⟨rfl, HF.out⟩
  | tok kd m =>
    go_enter Tryz.func51, Tryz.ntmps51
    go_wp2_with fail
    refine HCL.out.mono ?_
    rintro e w1 ⟨rfl, q, rfl⟩
    have HK0 := hide ((Kept.refl [r] w).drewN q)
    have HR1 : Hid (Rd (w.drewN q) r R bg ps) := HR0.out
    have C1 := take_any r R bg ps ⟨#[47]⟩ (w.drewN q) HR1.out hp hs (by decide)
    have t1 : taken R ⟨#[47]⟩ ps = ps + 1 := by unfold taken; rw [if_pos c1]; rfl
    rw [c1, t1] at C1
    have HC1 := hide C1
    clear C1
    go_wp2_with fail
    refine HC1.out.mono ?_
    rintro e w2 ⟨rfl, hk, hr⟩
    have HK1 := hide (HK0.out.trans hk)
    have HR2 : Hid (Rd w2 r R bg (ps + 1)) := hr
    clear hk hr HC1
    have HOX := hide (HO.out.kept HK1.out)
    have CC0 := behindSlash_any r R bg (ps + 1) g cap b lg look cut w2 HR2.out HOX.out hb (pre_rest c1 hp)
    rw [hT] at CC0
    have CC := hide CC0
    clear CC0
    go_wp2_with fail
    refine CC.out.mono ?_
    rintro e wz ⟨⟨v, rfl, hv⟩, hk, hr⟩
    have HF := hide (TokPost.back (show TokPost w2 r R bg cut (.returned v) wz (.tok kd m) from ⟨⟨v, rfl, hv⟩, hk, hr⟩) HK1.out)
    clear hv hk hr CC
    go_wp2
    go_ret
    exact HF.out


set_option maxRecDepth 100000 in
set_option maxHeartbeats 1000000 in
theorem less_2 (r : Nat) (R : RC) (bg ps g cap b lg : Nat) (look : ByteArray → Option ByteArray) (cut : Nat → Nat) (w : World) (h : Rd w r R bg ps) (hO : Ok w r R g cap b lg look cut) (hb : bg < R.cs.size) (hp : ps ≤ R.cs.size)
    (c0 : isLet R ps = false) (c1 : pre (R.cs.extract ps R.cs.size) ⟨#[47]⟩ = false) (c2 : pre (R.cs.extract ps R.cs.size) ⟨#[33, 45, 45]⟩ = true) :
    Calls Tryz.prog 51 #[.pointer (some ⟨r, 0, none⟩)] w fun e w' => TokPost w r R bg cut e w' (.tok 4 (cmtEnd R (ps + 3))) := by
  have HO := hide hO
  have HR0 := hide h
  have hs := hO.small
  have CL := isNext_letter r R bg ps w h hp hs
  rw [c0] at CL
  have HCL := hide CL
  clear h hO CL
  go_enter Tryz.func51, Tryz.ntmps51
  go_wp2_with fail
  refine HCL.out.mono ?_
  rintro e w1 ⟨rfl, q, rfl⟩
  have HK0 := hide ((Kept.refl [r] w).drewN q)
  have HR1 : Hid (Rd (w.drewN q) r R bg ps) := HR0.out
  have C1 := take_any r R bg ps ⟨#[47]⟩ (w.drewN q) HR1.out hp hs (by decide)
  have t1 : taken R ⟨#[47]⟩ ps = ps := by unfold taken; rw [if_neg (by simp [c1])]
  rw [c1, t1] at C1
  have HC1 := hide C1
  clear C1
  go_wp2_with fail
  refine HC1.out.mono ?_
  rintro e w2 ⟨rfl, hk, hr⟩
  have HK1 := hide (HK0.out.trans hk)
  have HR2 : Hid (Rd w2 r R bg ps) := hr
  clear hk hr HC1
  have C2 := take_any r R bg ps ⟨#[33, 45, 45]⟩ w2 HR2.out hp hs (by decide)
  have t2 : taken R ⟨#[33, 45, 45]⟩ ps = ps + 3 := by unfold taken; rw [if_pos c2]; rfl
  rw [c2, t2] at C2
  have HC2 := hide C2
  clear C2
  go_wp2_with fail
  refine HC2.out.mono ?_
  rintro e w3 ⟨rfl, hk, hr⟩
  have HK2 := hide (HK1.out.trans hk)
  have HR3 : Hid (Rd w3 r R bg (ps + 3)) := hr
  clear hk hr HC2
  have HOX := hide (HO.out.kept HK2.out)
  have CC0 := comment_any r R bg (ps + 3) g cap cut w3 HR3.out HOX.out.ats HOX.out.gl (by omega) (pre_rest c2 hp) hs
  have CC := hide CC0
  clear CC0
  go_wp2_with fail
  refine CC.out.mono ?_
  rintro e wz ⟨rfl, hk, hr⟩
  have HKZ := hide (HK2.out.trans hk)
  have HRZ := hide hr
  clear hk hr CC
  go_wp2
  go_ret
  exact ⟨⟨_, rfl, _, rfl⟩, HKZ.out, HRZ.out⟩


set_option maxRecDepth 100000 in
set_option maxHeartbeats 1000000 in
theorem less_3 (r : Nat) (R : RC) (bg ps g cap b lg : Nat) (look : ByteArray → Option ByteArray) (cut : Nat → Nat) (w : World) (h : Rd w r R bg ps) (hO : Ok w r R g cap b lg look cut) (hb : bg < R.cs.size) (hp : ps ≤ R.cs.size)
    (c0 : isLet R ps = false) (c1 : pre (R.cs.extract ps R.cs.size) ⟨#[47]⟩ = false) (c2 : pre (R.cs.extract ps R.cs.size) ⟨#[33, 45, 45]⟩ = false) (c3 : isAny R ⟨#[33, 100, 111, 99, 116, 121, 112, 101]⟩ ps = true) :
    Calls Tryz.prog 51 #[.pointer (some ⟨r, 0, none⟩)] w fun e w' => TokPost w r R bg cut e w' (.tok 5 (gtEnd R (dtB R (ps + 8)))) := by
  have HO := hide hO
  have HR0 := hide h
  have hs := hO.small
  have CL := isNext_letter r R bg ps w h hp hs
  rw [c0] at CL
  have HCL := hide CL
  clear h hO CL
  go_enter Tryz.func51, Tryz.ntmps51
  go_wp2_with fail
  refine HCL.out.mono ?_
  rintro e w1 ⟨rfl, q, rfl⟩
  have HK0 := hide ((Kept.refl [r] w).drewN q)
  have HR1 : Hid (Rd (w.drewN q) r R bg ps) := HR0.out
  have C1 := take_any r R bg ps ⟨#[47]⟩ (w.drewN q) HR1.out hp hs (by decide)
  have t1 : taken R ⟨#[47]⟩ ps = ps := by unfold taken; rw [if_neg (by simp [c1])]
  rw [c1, t1] at C1
  have HC1 := hide C1
  clear C1
  go_wp2_with fail
  refine HC1.out.mono ?_
  rintro e w2 ⟨rfl, hk, hr⟩
  have HK1 := hide (HK0.out.trans hk)
  have HR2 : Hid (Rd w2 r R bg ps) := hr
  clear hk hr HC1
  have C2 := take_any r R bg ps ⟨#[33, 45, 45]⟩ w2 HR2.out hp hs (by decide)
  have t2 : taken R ⟨#[33, 45, 45]⟩ ps = ps := by unfold taken; rw [if_neg (by simp [c2])]
  rw [c2, t2] at C2
  have HC2 := hide C2
  clear C2
  go_wp2_with fail
  refine HC2.out.mono ?_
  rintro e w3 ⟨rfl, hk, hr⟩
  have HK2 := hide (HK1.out.trans hk)
  have HR3 : Hid (Rd w3 r R bg ps) := hr
  clear hk hr HC2
  have C3 := takeAny_any r R bg ps ⟨#[33, 100, 111, 99, 116, 121, 112, 101]⟩ w3 HR3.out hp hs (by decide)
  rw [c3] at C3
  simp only [if_true] at C3
  have HC3 := hide C3
  clear C3
  go_wp2_with fail
  refine HC3.out.mono ?_
  rintro e w4 ⟨rfl, hk, hr⟩
  have HK3 := hide (HK2.out.trans hk)
  have HR4 : Hid (Rd w4 r R bg (ps + 8)) := hr
  clear hk hr HC3
  have HOX := hide (HO.out.kept HK3.out)
  have CC0 := doctype_any r R bg (ps + 8) g cap cut w4 HR4.out HOX.out.ats HOX.out.gl (by omega) (isAny_le c3 hp) hs
  have CC := hide CC0
  clear CC0
  go_wp2_with fail
  refine CC.out.mono ?_
  rintro e wz ⟨⟨nm, qk, rfl⟩, hk, hr⟩
  have HKZ := hide (HK3.out.trans hk)
  have HRZ := hide hr
  clear hk hr CC
  go_wp2
  go_ret
  exact ⟨⟨_, rfl, nm, qk, rfl⟩, HKZ.out, HRZ.out⟩


set_option maxRecDepth 100000 in
set_option maxHeartbeats 1000000 in
theorem less_4 (r : Nat) (R : RC) (bg ps g cap b lg : Nat) (look : ByteArray → Option ByteArray) (cut : Nat → Nat) (w : World) (h : Rd w r R bg ps) (hO : Ok w r R g cap b lg look cut) (hb : bg < R.cs.size) (hp : ps ≤ R.cs.size)
    (c0 : isLet R ps = false) (c1 : pre (R.cs.extract ps R.cs.size) ⟨#[47]⟩ = false) (c2 : pre (R.cs.extract ps R.cs.size) ⟨#[33, 45, 45]⟩ = false) (c3 : isAny R ⟨#[33, 100, 111, 99, 116, 121, 112, 101]⟩ ps = false) (c4 : pre (R.cs.extract ps R.cs.size) ⟨#[33]⟩ = true) :
    Calls Tryz.prog 51 #[.pointer (some ⟨r, 0, none⟩)] w fun e w' => TokPost w r R bg cut e w' (.tok 4 (gtEnd R (ps + 1))) := by
  have HO := hide hO
  have HR0 := hide h
  have hs := hO.small
  have CL := isNext_letter r R bg ps w h hp hs
  rw [c0] at CL
  have HCL := hide CL
  clear h hO CL
  go_enter Tryz.func51, Tryz.ntmps51
  go_wp2_with fail
  refine HCL.out.mono ?_
  rintro e w1 ⟨rfl, q, rfl⟩
  have HK0 := hide ((Kept.refl [r] w).drewN q)
  have HR1 : Hid (Rd (w.drewN q) r R bg ps) := HR0.out
  have C1 := take_any r R bg ps ⟨#[47]⟩ (w.drewN q) HR1.out hp hs (by decide)
  have t1 : taken R ⟨#[47]⟩ ps = ps := by unfold taken; rw [if_neg (by simp [c1])]
  rw [c1, t1] at C1
  have HC1 := hide C1
  clear C1
  go_wp2_with fail
  refine HC1.out.mono ?_
  rintro e w2 ⟨rfl, hk, hr⟩
  have HK1 := hide (HK0.out.trans hk)
  have HR2 : Hid (Rd w2 r R bg ps) := hr
  clear hk hr HC1
  have C2 := take_any r R bg ps ⟨#[33, 45, 45]⟩ w2 HR2.out hp hs (by decide)
  have t2 : taken R ⟨#[33, 45, 45]⟩ ps = ps := by unfold taken; rw [if_neg (by simp [c2])]
  rw [c2, t2] at C2
  have HC2 := hide C2
  clear C2
  go_wp2_with fail
  refine HC2.out.mono ?_
  rintro e w3 ⟨rfl, hk, hr⟩
  have HK2 := hide (HK1.out.trans hk)
  have HR3 : Hid (Rd w3 r R bg ps) := hr
  clear hk hr HC2
  have C3 := takeAny_any r R bg ps ⟨#[33, 100, 111, 99, 116, 121, 112, 101]⟩ w3 HR3.out hp hs (by decide)
  rw [c3] at C3
  simp only [Bool.false_eq_true, if_false] at C3
  have HC3 := hide C3
  clear C3
  go_wp2_with fail
  refine HC3.out.mono ?_
  rintro e w4 ⟨rfl, hk, hr⟩
  have HK3 := hide (HK2.out.trans hk)
  have HR4 : Hid (Rd w4 r R bg ps) := hr
  clear hk hr HC3
  have C4 := take_any r R bg ps ⟨#[33]⟩ w4 HR4.out hp hs (by decide)
  have t4 : taken R ⟨#[33]⟩ ps = ps + 1 := by unfold taken; rw [if_pos c4]; rfl
  rw [c4, t4] at C4
  have HC4 := hide C4
  clear C4
  go_wp2_with fail
  refine HC4.out.mono ?_
  rintro e w5 ⟨rfl, hk, hr⟩
  have HK4 := hide (HK3.out.trans hk)
  have HR5 : Hid (Rd w5 r R bg (ps + 1)) := hr
  clear hk hr HC4
  have HOX := hide (HO.out.kept HK4.out)
  have CC0 := looseComment_any r R bg (ps + 1) g cap cut w5 HR5.out HOX.out.ats HOX.out.gl (by omega) (pre_rest c4 hp) hs
  have CC := hide CC0
  clear CC0
  go_wp2_with fail
  refine CC.out.mono ?_
  rintro e wz ⟨rfl, hk, hr⟩
  have HKZ := hide (HK4.out.trans hk)
  have HRZ := hide hr
  clear hk hr CC
  go_wp2
  go_ret
  exact ⟨⟨_, rfl, _, rfl⟩, HKZ.out, HRZ.out⟩


set_option maxRecDepth 100000 in
set_option maxHeartbeats 1000000 in
theorem less_5 (r : Nat) (R : RC) (bg ps g cap b lg : Nat) (look : ByteArray → Option ByteArray) (cut : Nat → Nat) (w : World) (h : Rd w r R bg ps) (hO : Ok w r R g cap b lg look cut) (hb : bg < R.cs.size) (hp : ps ≤ R.cs.size)
    (c0 : isLet R ps = false) (c1 : pre (R.cs.extract ps R.cs.size) ⟨#[47]⟩ = false) (c2 : pre (R.cs.extract ps R.cs.size) ⟨#[33, 45, 45]⟩ = false) (c3 : isAny R ⟨#[33, 100, 111, 99, 116, 121, 112, 101]⟩ ps = false) (c4 : pre (R.cs.extract ps R.cs.size) ⟨#[33]⟩ = false) (c5 : isQ R ps = true) :
    Calls Tryz.prog 51 #[.pointer (some ⟨r, 0, none⟩)] w fun e w' => TokPost w r R bg cut e w' (.tok 4 (gtEnd R ps)) := by
  have HO := hide hO
  have HR0 := hide h
  have hs := hO.small
  have CL := isNext_letter r R bg ps w h hp hs
  rw [c0] at CL
  have HCL := hide CL
  clear h hO CL
  go_enter Tryz.func51, Tryz.ntmps51
  go_wp2_with fail
  refine HCL.out.mono ?_
  rintro e w1 ⟨rfl, q, rfl⟩
  have HK0 := hide ((Kept.refl [r] w).drewN q)
  have HR1 : Hid (Rd (w.drewN q) r R bg ps) := HR0.out
  have C1 := take_any r R bg ps ⟨#[47]⟩ (w.drewN q) HR1.out hp hs (by decide)
  have t1 : taken R ⟨#[47]⟩ ps = ps := by unfold taken; rw [if_neg (by simp [c1])]
  rw [c1, t1] at C1
  have HC1 := hide C1
  clear C1
  go_wp2_with fail
  refine HC1.out.mono ?_
  rintro e w2 ⟨rfl, hk, hr⟩
  have HK1 := hide (HK0.out.trans hk)
  have HR2 : Hid (Rd w2 r R bg ps) := hr
  clear hk hr HC1
  have C2 := take_any r R bg ps ⟨#[33, 45, 45]⟩ w2 HR2.out hp hs (by decide)
  have t2 : taken R ⟨#[33, 45, 45]⟩ ps = ps := by unfold taken; rw [if_neg (by simp [c2])]
  rw [c2, t2] at C2
  have HC2 := hide C2
  clear C2
  go_wp2_with fail
  refine HC2.out.mono ?_
  rintro e w3 ⟨rfl, hk, hr⟩
  have HK2 := hide (HK1.out.trans hk)
  have HR3 : Hid (Rd w3 r R bg ps) := hr
  clear hk hr HC2
  have C3 := takeAny_any r R bg ps ⟨#[33, 100, 111, 99, 116, 121, 112, 101]⟩ w3 HR3.out hp hs (by decide)
  rw [c3] at C3
  simp only [Bool.false_eq_true, if_false] at C3
  have HC3 := hide C3
  clear C3
  go_wp2_with fail
  refine HC3.out.mono ?_
  rintro e w4 ⟨rfl, hk, hr⟩
  have HK3 := hide (HK2.out.trans hk)
  have HR4 : Hid (Rd w4 r R bg ps) := hr
  clear hk hr HC3
  have C4 := take_any r R bg ps ⟨#[33]⟩ w4 HR4.out hp hs (by decide)
  have t4 : taken R ⟨#[33]⟩ ps = ps := by unfold taken; rw [if_neg (by simp [c4])]
  rw [c4, t4] at C4
  have HC4 := hide C4
  clear C4
  go_wp2_with fail
  refine HC4.out.mono ?_
  rintro e w5 ⟨rfl, hk, hr⟩
  have HK4 := hide (HK3.out.trans hk)
  have HR5 : Hid (Rd w5 r R bg ps) := hr
  clear hk hr HC4
  go_wp2_with fail
  refine (oneOf_any _ _).mono ?_
  rintro e wq ⟨rfl, rfl⟩
  have C5 := isNext_q r R bg ps w5 HR5.out hp hs
  rw [c5] at C5
  have HC5 := hide C5
  clear C5
  go_wp2_with fail
  refine HC5.out.mono ?_
  rintro e w6 ⟨rfl, hk, hr⟩
  have HK5 := hide (HK4.out.trans hk)
  have HR6 : Hid (Rd w6 r R bg ps) := hr
  clear hk hr HC5
  have HOX := hide (HO.out.kept HK5.out)
  have CC0 := looseComment_any r R bg ps g cap cut w6 HR6.out HOX.out.ats HOX.out.gl (by omega) hp hs
  have CC := hide CC0
  clear CC0
  go_wp2_with fail
  refine CC.out.mono ?_
  rintro e wz ⟨rfl, hk, hr⟩
  have HKZ := hide (HK5.out.trans hk)
  have HRZ := hide hr
  clear hk hr CC
  go_wp2
  go_ret
  exact ⟨⟨_, rfl, _, rfl⟩, HKZ.out, HRZ.out⟩


set_option maxRecDepth 100000 in
set_option maxHeartbeats 1000000 in
theorem less_6 (r : Nat) (R : RC) (bg ps g cap b lg : Nat) (look : ByteArray → Option ByteArray) (cut : Nat → Nat) (w : World) (h : Rd w r R bg ps) (hO : Ok w r R g cap b lg look cut) (hb : bg < R.cs.size) (hp : ps ≤ R.cs.size)
    (c0 : isLet R ps = false) (c1 : pre (R.cs.extract ps R.cs.size) ⟨#[47]⟩ = false) (c2 : pre (R.cs.extract ps R.cs.size) ⟨#[33, 45, 45]⟩ = false) (c3 : isAny R ⟨#[33, 100, 111, 99, 116, 121, 112, 101]⟩ ps = false) (c4 : pre (R.cs.extract ps R.cs.size) ⟨#[33]⟩ = false) (c5 : isQ R ps = false) :
    Calls Tryz.prog 51 #[.pointer (some ⟨r, 0, none⟩)] w fun e w' => TokPost w r R bg cut e w' (charTok R look lg bg) := by
  have HO := hide hO
  have HR0 := hide h
  have hs := hO.small
  have CL := isNext_letter r R bg ps w h hp hs
  rw [c0] at CL
  have HCL := hide CL
  clear h hO CL
  go_enter Tryz.func51, Tryz.ntmps51
  go_wp2_with fail
  refine HCL.out.mono ?_
  rintro e w1 ⟨rfl, q, rfl⟩
  have HK0 := hide ((Kept.refl [r] w).drewN q)
  have HR1 : Hid (Rd (w.drewN q) r R bg ps) := HR0.out
  have C1 := take_any r R bg ps ⟨#[47]⟩ (w.drewN q) HR1.out hp hs (by decide)
  have t1 : taken R ⟨#[47]⟩ ps = ps := by unfold taken; rw [if_neg (by simp [c1])]
  rw [c1, t1] at C1
  have HC1 := hide C1
  clear C1
  go_wp2_with fail
  refine HC1.out.mono ?_
  rintro e w2 ⟨rfl, hk, hr⟩
  have HK1 := hide (HK0.out.trans hk)
  have HR2 : Hid (Rd w2 r R bg ps) := hr
  clear hk hr HC1
  have C2 := take_any r R bg ps ⟨#[33, 45, 45]⟩ w2 HR2.out hp hs (by decide)
  have t2 : taken R ⟨#[33, 45, 45]⟩ ps = ps := by unfold taken; rw [if_neg (by simp [c2])]
  rw [c2, t2] at C2
  have HC2 := hide C2
  clear C2
  go_wp2_with fail
  refine HC2.out.mono ?_
  rintro e w3 ⟨rfl, hk, hr⟩
  have HK2 := hide (HK1.out.trans hk)
  have HR3 : Hid (Rd w3 r R bg ps) := hr
  clear hk hr HC2
  have C3 := takeAny_any r R bg ps ⟨#[33, 100, 111, 99, 116, 121, 112, 101]⟩ w3 HR3.out hp hs (by decide)
  rw [c3] at C3
  simp only [Bool.false_eq_true, if_false] at C3
  have HC3 := hide C3
  clear C3
  go_wp2_with fail
  refine HC3.out.mono ?_
  rintro e w4 ⟨rfl, hk, hr⟩
  have HK3 := hide (HK2.out.trans hk)
  have HR4 : Hid (Rd w4 r R bg ps) := hr
  clear hk hr HC3
  have C4 := take_any r R bg ps ⟨#[33]⟩ w4 HR4.out hp hs (by decide)
  have t4 : taken R ⟨#[33]⟩ ps = ps := by unfold taken; rw [if_neg (by simp [c4])]
  rw [c4, t4] at C4
  have HC4 := hide C4
  clear C4
  go_wp2_with fail
  refine HC4.out.mono ?_
  rintro e w5 ⟨rfl, hk, hr⟩
  have HK4 := hide (HK3.out.trans hk)
  have HR5 : Hid (Rd w5 r R bg ps) := hr
  clear hk hr HC4
  go_wp2_with fail
  refine (oneOf_any _ _).mono ?_
  rintro e wq ⟨rfl, rfl⟩
  have C5 := isNext_q r R bg ps w5 HR5.out hp hs
  rw [c5] at C5
  have HC5 := hide C5
  clear C5
  go_wp2_with fail
  refine HC5.out.mono ?_
  rintro e w6 ⟨rfl, hk, hr⟩
  have HK5 := hide (HK4.out.trans hk)
  have HR6 : Hid (Rd w6 r R bg ps) := hr
  clear hk hr HC5
  have HOX := hide (HO.out.kept HK5.out)
  have CC0 := char_tok r R bg ps g cap b lg look cut w6 HR6.out HOX.out hb
  have CC := hide CC0
  clear CC0
  go_wp2_with fail
  refine CC.out.mono ?_
  rintro e wz ⟨⟨v, rfl, hv⟩, hk, hr⟩
  have HF := hide (show TokPost w r R bg cut (.returned v) wz (charTok R look lg bg) from ⟨⟨v, rfl, hv⟩, HK5.out.trans hk, hr⟩)
  clear hv hk hr CC
  go_wp2
  go_ret
  exact HF.out


theorem behindLess_any (r : Nat) (R : RC) (bg ps g cap b lg : Nat) (look : ByteArray → Option ByteArray) (cut : Nat → Nat) (w : World) (h : Rd w r R bg ps) (hO : Ok w r R g cap b lg look cut) (hb : bg < R.cs.size) (hp : ps ≤ R.cs.size) :
    Calls Tryz.prog 51 #[.pointer (some ⟨r, 0, none⟩)] w fun e w' => TokPost w r R bg cut e w' (lessTok R look lg bg ps) := by
  unfold lessTok
  cases c0 : isLet R ps
  · rw [if_neg (by simp)]
    cases c1 : pre (R.cs.extract ps R.cs.size) ⟨#[47]⟩
    · rw [if_neg (by simp)]
      cases c2 : pre (R.cs.extract ps R.cs.size) ⟨#[33, 45, 45]⟩
      · rw [if_neg (by simp)]
        cases c3 : isAny R ⟨#[33, 100, 111, 99, 116, 121, 112, 101]⟩ ps
        · rw [if_neg (by simp)]
          cases c4 : pre (R.cs.extract ps R.cs.size) ⟨#[33]⟩
          · rw [if_neg (by simp)]
            cases c5 : isQ R ps
            · rw [if_neg (by simp)]; exact less_6 r R bg ps g cap b lg look cut w h hO hb hp c0 c1 c2 c3 c4 c5
            · rw [if_pos rfl]; exact less_5 r R bg ps g cap b lg look cut w h hO hb hp c0 c1 c2 c3 c4 c5
          · rw [if_pos rfl]; exact less_4 r R bg ps g cap b lg look cut w h hO hb hp c0 c1 c2 c3 c4
        · rw [if_pos rfl]; exact less_3 r R bg ps g cap b lg look cut w h hO hb hp c0 c1 c2 c3
      · rw [if_pos rfl]; exact less_2 r R bg ps g cap b lg look cut w h hO hb hp c0 c1 c2
    · rw [if_pos rfl]; exact less_1 r R bg ps g cap b lg look cut w h hO hb hp c0 c1 _ rfl
  · rw [if_pos rfl]; exact less_0 r R bg ps g cap b lg look cut w h hO hb hp c0 _ rfl
end Go.Proofs.YtnlmfklpebekdaaGreatDoor
