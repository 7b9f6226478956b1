import Derived.Test.YtnlmfklpebekdaaGreatDoorRdZC
set_option linter.unusedSimpArgs false
set_option linter.unusedVariables false
namespace Go.Proofs.YtnlmfklpebekdaaGreatDoor
open Go.RowKit Go.PlainAid

/-- The token that begins at ps. -/
def nextTok (R : RC) (look : ByteArray → Option ByteArray) (lg ps : Nat) : Tok :=
  if ps = R.cs.size then .tok 0 ps
  else if pre (R.cs.extract ps R.cs.size) ⟨#[60]⟩ = true then lessTok R look lg ps (ps + 1)
  else charTok R look lg ps

set_option maxRecDepth 100000 in
set_option maxHeartbeats 1000000 in
theorem next_any (r : Nat) (R : RC) (bg ps g cap b lg : Nat) (look : ByteArray → Option ByteArray) (cut : Nat → Nat) (w : World) (h : Rd w r R bg ps) (hO : Ok w r R g cap b lg look cut) (hp : ps ≤ R.cs.size) :
    Calls Tryz.prog 40 #[.pointer (some ⟨r, 0, none⟩)] w fun e w' => TokPost w r R ps cut e w' (nextTok R look lg ps) := by
  have hs := hO.small
  have p2 := h.bg
  have p3 := h.ps
  have f2 := h.free 2
  obtain ⟨w1, hw1⟩ : ∃ w1, w1 = w.setCell ⟨r, 2, none⟩ (.int .i64 (ps : Int)) := ⟨_, rfl⟩
  have r1 : Rd w1 r R ps ps := by rw [hw1]; exact h.setBg ps
  have k1 : Kept [r] w w1 := by rw [hw1]; exact (Kept.refl _ _).setCell (.inl (by simp)) _
  have HW := hide hw1.symm
  have HK1 := hide k1
  have HR1 := hide r1
  have HO := hide (hO.kept k1)
  have CE := atEnd_any r R ps ps w1 r1
  clear h hO hw1 k1 r1
  by_cases hend : ps = R.cs.size
  · have eT : nextTok R look lg ps = .tok 0 ps := by unfold nextTok; rw [if_pos hend]
    rw [eT]
    have e3 : decide (ps = R.cs.size) = true := by simp [hend]
    rw [e3] at CE
    have HCE := hide CE
    clear CE eT e3 hend
    go_enter Tryz.func40, Tryz.ntmps40
    go_wp2_with fail
    rw [HW.out]
    refine HCE.out.mono ?_
    rintro e w2 ⟨rfl, q, rfl⟩
    have CP := hide (place_any r R ps ps g cap cut (w1.drewN q) (show Rd (w1.drewN q) r R ps ps from HR1.out) (HO.out.kept ((Kept.refl [r] w1).drewN q)).ats hp hp hs)
    go_wp2_with fail
    refine CP.out.mono ?_
    rintro e w3 ⟨rfl, hk3⟩
    have HK3 := hide ((HK1.out.drewN q).trans (hk3.mono (by simp)))
    have HR3 : Hid (Rd w3 r R ps ps) := hk3.at (show Rd (w1.drewN q) r R ps ps from HR1.out) (by simp)
    clear hk3 CP
    go_wp2
    go_ret
    exact ⟨⟨_, rfl, rfl⟩, HK3.out, HR3.out⟩
  · have e3 : decide (ps = R.cs.size) = false := by simp [hend]
    rw [e3] at CE
    have HCE := hide CE
    clear CE e3
    have CT := fun q => take_any r R ps ps ⟨#[60]⟩ (w1.drewN q) (show Rd (w1.drewN q) r R ps ps from HR1.out) hp hs (by decide)
    cases hl : pre (R.cs.extract ps R.cs.size) ⟨#[60]⟩
    · have eT : nextTok R look lg ps = charTok R look lg ps := by unfold nextTok; rw [if_neg hend, if_neg (by simp [hl])]
      rw [eT]
      have htk : taken R ⟨#[60]⟩ ps = ps := by unfold taken; rw [if_neg (by simp [hl])]
      rw [hl, htk] at CT
      have HCT := hide CT
      clear CT eT htk hl
      go_enter Tryz.func40, Tryz.ntmps40
      go_wp2_with fail
      rw [HW.out]
      refine HCE.out.mono ?_
      rintro e w2 ⟨rfl, q, rfl⟩
      go_wp2_with fail
      refine (HCT.out q).mono ?_
      rintro e w3 ⟨rfl, hk3, hr3⟩
      have HK3 := hide ((HK1.out.drewN q).trans hk3)
      have CC := hide (char_tok r R ps ps g cap b lg look cut w3 hr3 (HO.out.kept (((Kept.refl [r] w1).drewN q).trans hk3)) (by omega))
      clear hk3 hr3
      go_wp2_with fail
      refine CC.out.mono ?_
      rintro e w4 ⟨⟨v, rfl, hv⟩, hk4, hr4⟩
      have HF := hide (show TokPost w r R ps cut (.returned v) w4 (charTok R look lg ps) from ⟨⟨v, rfl, hv⟩, HK3.out.trans hk4, hr4⟩)
      clear hv hk4 hr4 CC
      go_wp2
      go_ret
      exact HF.out
    · have eT : nextTok R look lg ps = lessTok R look lg ps (ps + 1) := by unfold nextTok; rw [if_neg hend, if_pos hl]
      rw [eT]
      have htk : taken R ⟨#[60]⟩ ps = ps + 1 := by unfold taken; rw [if_pos hl]; rfl
      have hle : ps + 1 ≤ R.cs.size := pre_rest hl hp
      rw [hl, htk] at CT
      have HCT := hide CT
      have HL := hide (fun w' h1 h2 => behindLess_any r R ps (ps + 1) g cap b lg look cut w' h1 h2 (by omega) hle)
      generalize lessTok R look lg ps (ps + 1) = T at HL ⊢
      clear CT eT htk hl
      cases T with
      | stop =>
        go_enter Tryz.func40, Tryz.ntmps40
        go_wp2_with fail
        rw [HW.out]
        refine HCE.out.mono ?_
        rintro e w2 ⟨rfl, q, rfl⟩
        go_wp2_with fail
        refine (HCT.out q).mono ?_
        rintro e w3 ⟨rfl, hk3, hr3⟩
        have HK3 := hide ((HK1.out.drewN q).trans hk3)
        have CC := hide (HL.out w3 hr3 (HO.out.kept (((Kept.refl [r] w1).drewN q).trans hk3)))
        clear hk3 hr3
        go_wp2_with fail
        refine CC.out.mono ?_
        rintro e wz ⟨k, rfl, h2, h3, h4⟩
        have HF := hide (TokPost.back (show TokPost w3 r R ps cut _ wz .stop from ⟨k, rfl, h2, h3, h4⟩) HK3.out)
        clear h2 h3 h4 CC
        go_wp2
        exact ⟨rfl, HF.out⟩
      | tok kd m =>
        go_enter Tryz.func40, Tryz.ntmps40
        go_wp2_with fail
        rw [HW.out]
        refine HCE.out.mono ?_
        rintro e w2 ⟨rfl, q, rfl⟩
        go_wp2_with fail
        refine (HCT.out q).mono ?_
        rintro e w3 ⟨rfl, hk3, hr3⟩
        have HK3 := hide ((HK1.out.drewN q).trans hk3)
        have CC := hide (HL.out w3 hr3 (HO.out.kept (((Kept.refl [r] w1).drewN q).trans hk3)))
        clear hk3 hr3
        go_wp2_with fail
        refine CC.out.mono ?_
        rintro e w4 ⟨⟨v, rfl, hv⟩, hk4, hr4⟩
        have HF := hide (TokPost.back (show TokPost w3 r R ps cut (.returned v) w4 (.tok kd m) from ⟨⟨v, rfl, hv⟩, hk4, hr4⟩) HK3.out)
        clear hv hk4 hr4 CC
        go_wp2
        go_ret
        exact HF.out
end Go.Proofs.YtnlmfklpebekdaaGreatDoor
