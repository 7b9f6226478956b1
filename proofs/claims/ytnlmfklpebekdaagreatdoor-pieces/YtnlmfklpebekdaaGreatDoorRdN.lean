import Derived.Test.YtnlmfklpebekdaaGreatDoorRdL
set_option linter.unusedSimpArgs false
set_option linter.unusedVariables false
namespace Go.Proofs.YtnlmfklpebekdaaGreatDoor
open Go.RowKit Go.PlainAid

/-- The first of s, from i on, that is no digit to the base. -/
def dend (base : Int) (s : ByteArray) (i : Nat) : Nat := scan (fun c => decide (digitI c ≥ base)) s i
def numEnd (base : Int) (s : ByteArray) (f : Nat) : Nat :=
  if dend base s f = f then 0 else if dend base s f < s.size ∧ bt s (dend base s f) = 59 then dend base s f + 1 else dend base s f
def isHex (s : ByteArray) : Bool := decide (2 < s.size ∧ (bt s 2 = 120 ∨ bt s 2 = 88))
def numSize (s : ByteArray) : Nat := if isHex s = true then numEnd 16 s 3 else numEnd 10 s 2
theorem numEnd_le {base : Int} {s : ByteArray} {f : Nat} (h : f ≤ s.size) : numEnd base s f ≤ s.size := by
  have := scan_le (q := fun c => decide (digitI c ≥ base)) h
  unfold numEnd; split
  · omega
  · split
    · omega
    · exact this
theorem numSize_le {s : ByteArray} (h : 2 ≤ s.size) : numSize s ≤ s.size := by
  unfold numSize; split
  · rename_i h'; unfold isHex at h'; simp at h'; exact numEnd_le (by omega)
  · exact numEnd_le h

theorem encode_short (c : Int) : (Utf8.encode c).size ≤ 16 := by
  unfold Utf8.encode
  dsimp only
  generalize (if Utf8.valid c = true then c.toNat else Utf8.runeError) = k
  repeat' split
  all_goals first | (show 1 ≤ 16; omega) | (show 2 ≤ 16; omega) | (show 3 ≤ 16; omega) | (show 4 ≤ 16; omega)
set_option maxRecDepth 100000 in
set_option maxHeartbeats 2000000 in
theorem readNumber_any (s : ByteArray) (w : World) (hs : s.size ≤ 1048576) (h2 : 2 ≤ s.size) :
    Calls Tryz.prog 77 #[.string s] w fun e w' => (∃ t : ByteArray, t.size ≤ 16 ∧ e = .returned (.tuple #[.string t, .int .i64 (numSize s : Int)])) ∧ w' = w := by
  have hbt := get_bt s
  obtain ⟨rs, hrz, hrs⟩ : ∃ rs : Int → ByteArray, (∀ c, (rs c).size ≤ 16) ∧ ∀ (c : Int) (w : World), (convert 21 9 (.int .i32 c)).run Tryz.prog w = .ok (.string (rs c)) w := ⟨_, encode_short, fun c w => run_convert_int_string w 21 9 .i32 c (by rw [Tryz.underlying21]; rfl) Tryz.underlying9⟩
  have HZ0 := hide hrz
  clear hrz
  have D := hide (fun c (h0 : 0 ≤ c) (h1 : c ≤ 255) => digit_any c w h0 h1)
  have G := hide (fun n (h0 : 0 ≤ n) (h1 : n ≤ 1114112) => codePoint_any n w h0 h1)
  by_cases hx : isHex s = true
  · have e : numSize s = numEnd 16 s 3 := by unfold numSize; rw [if_pos hx]
    rw [e]; clear e
    unfold isHex at hx
    have ⟨hx1, hx2⟩ := of_decide_eq_true hx
    clear hx
    have hle : ∀ i, i ≤ s.size → dend 16 s i ≤ s.size := fun i h => scan_le h
    obtain ⟨ne, hne⟩ : ∃ x, x = numEnd 16 s 3 := ⟨_, rfl⟩
    rw [← hne]
    have HNE := hide hne
    clear hne
    rcases hx2 with hx2 | hx2
    · -- 'x'
      go_enter Tryz.func77, Tryz.ntmps77
      go_wp2_with fail
      go_loopw [6, 7] (fun nv iv wr => wr = w ∧ ∃ (k : Int) (i : Nat), nv = .int .i64 k ∧ iv = .int .i64 i ∧ 0 ≤ k ∧ k ≤ 1114112 ∧ 3 ≤ i ∧ i ≤ s.size ∧ dend 16 s i = dend 16 s 3) (fun _ iv _ => s.size - (intOf iv).toNat)
      case atStart => exact ⟨rfl, 0, 3, rfl, rfl, by omega, by omega, Nat.le_refl _, by omega, rfl⟩
      case round =>
        obtain ⟨rfl, k, i, rfl, rfl, hk0, hk1, hi0, hi1, hd⟩ := hrel
        have HD := hide hd
        clear hd
        by_cases hlt : i < s.size
        · have hb := hbt i hlt
          have h0 := bt_nonneg s i
          have h1 := bt_le s i
          have r := digitI_range (bt s i)
          have C := hide (D.out (bt s i) h0 h1)
          by_cases hq : digitI (bt s i) ≥ 16
          · have e1 : dend 16 s i = i := scan_yes (by simpa using hq)
            have e2 : dend 16 s 3 = i := by rw [← HD.out, e1]
            by_cases hf : i = 3
            · have e3 : ne = 0 := by rw [HNE.out]; unfold numEnd; rw [e2, if_pos hf]
              have HE := hide e3
              have HF := hide hf
              clear e1 e2 e3
              subst hf
              go_wp2_with fail
              refine C.out.mono ?_
              rintro e w' ⟨rfl, rfl⟩
              go_wp2
              go_ret2
              (refine ⟨⟨_, ?_, by rw [HE.out]; rfl⟩, rfl⟩; first | exact HZ0.out _ | (show 0 ≤ 16; omega))
            · by_cases hsc : bt s i = 59
              · have e3 : ne = i + 1 := by rw [HNE.out]; unfold numEnd; rw [e2, if_neg hf, if_pos ⟨hlt, hsc⟩]
                have HE := hide e3
                have HG := hide (G.out k hk0 hk1)
                rw [hsc] at C hb h0 h1 r hq
                rw [show digitI 59 = 99 from by decide] at C
                clear e1 e2 e3 r hq h0 h1
                go_wp2_with fail
                refine C.out.mono ?_
                rintro e w' ⟨rfl, rfl⟩
                go_wp2_with fail
                refine HG.out.mono ?_
                rintro e w' ⟨⟨c, hc0, hc1, rfl⟩, rfl⟩
                go_wp2
                go_ret2
                (refine ⟨⟨_, ?_, by rw [HE.out, show ((i + 1 : Nat) : Int) = (i : Int) + 1 from rfl]; rfl⟩, rfl⟩; first | exact HZ0.out _ | (show 0 ≤ 16; omega))
              · have e3 : ne = i := by rw [HNE.out]; unfold numEnd; rw [e2, if_neg hf, if_neg (by omega)]
                have HE := hide e3
                have HG := hide (G.out k hk0 hk1)
                clear e1 e2 e3
                go_wp2_with fail
                refine C.out.mono ?_
                rintro e w' ⟨rfl, rfl⟩
                go_wp2_with fail
                refine HG.out.mono ?_
                rintro e w' ⟨⟨c, hc0, hc1, rfl⟩, rfl⟩
                go_wp2
                go_ret2
                (refine ⟨⟨_, ?_, by rw [HE.out]; rfl⟩, rfl⟩; first | exact HZ0.out _ | (show 0 ≤ 16; omega))
          · have e1 : dend 16 s (i + 1) = dend 16 s 3 := by rw [← HD.out]; exact (scan_no hlt (by simpa using hq)).symm
            have HE := hide e1
            clear e1
            generalize digitI (bt s i) = d at *
            go_wp2_with fail
            refine C.out.mono ?_
            rintro e w' ⟨rfl, rfl⟩
            go_wp2
            all_goals (refine ⟨⟨trivial, _, i + 1, rfl, by go_num, by omega, by omega, by omega, by omega, HE.out⟩, ?_⟩; simp [intOf]; omega)
        · have e0 : i = s.size := by omega
          have e1 : dend 16 s i = i := scan_end (by omega)
          have e2 : dend 16 s 3 = i := by rw [← HD.out, e1]
          have HG := hide (G.out k hk0 hk1)
          by_cases hf : i = 3
          · have e3 : ne = 0 := by rw [HNE.out]; unfold numEnd; rw [e2, if_pos hf]
            have HE := hide e3
            clear e1 e2 e3 e0
            subst hf
            go_wp2
            go_ret2
            (refine ⟨⟨_, ?_, by rw [HE.out]; rfl⟩, rfl⟩; first | exact HZ0.out _ | (show 0 ≤ 16; omega))
          · have e3 : ne = i := by rw [HNE.out]; unfold numEnd; rw [e2, if_neg hf, if_neg (by omega)]
            have HE := hide e3
            clear e1 e2 e3 e0
            go_wp2_with fail
            refine HG.out.mono ?_
            rintro e w' ⟨⟨c, hc0, hc1, rfl⟩, rfl⟩
            go_wp2
            go_ret2
            (refine ⟨⟨_, ?_, by rw [HE.out]; rfl⟩, rfl⟩; first | exact HZ0.out _ | (show 0 ≤ 16; omega))
    · -- 'X'
      go_enter Tryz.func77, Tryz.ntmps77
      go_wp2_with fail
      go_loopw [6, 7] (fun nv iv wr => wr = w ∧ ∃ (k : Int) (i : Nat), nv = .int .i64 k ∧ iv = .int .i64 i ∧ 0 ≤ k ∧ k ≤ 1114112 ∧ 3 ≤ i ∧ i ≤ s.size ∧ dend 16 s i = dend 16 s 3) (fun _ iv _ => s.size - (intOf iv).toNat)
      case atStart => exact ⟨rfl, 0, 3, rfl, rfl, by omega, by omega, Nat.le_refl _, by omega, rfl⟩
      case round =>
        obtain ⟨rfl, k, i, rfl, rfl, hk0, hk1, hi0, hi1, hd⟩ := hrel
        have HD := hide hd
        clear hd
        by_cases hlt : i < s.size
        · have hb := hbt i hlt
          have h0 := bt_nonneg s i
          have h1 := bt_le s i
          have r := digitI_range (bt s i)
          have C := hide (D.out (bt s i) h0 h1)
          by_cases hq : digitI (bt s i) ≥ 16
          · have e1 : dend 16 s i = i := scan_yes (by simpa using hq)
            have e2 : dend 16 s 3 = i := by rw [← HD.out, e1]
            by_cases hf : i = 3
            · have e3 : ne = 0 := by rw [HNE.out]; unfold numEnd; rw [e2, if_pos hf]
              have HE := hide e3
              have HF := hide hf
              clear e1 e2 e3
              subst hf
              go_wp2_with fail
              refine C.out.mono ?_
              rintro e w' ⟨rfl, rfl⟩
              go_wp2
              go_ret2
              (refine ⟨⟨_, ?_, by rw [HE.out]; rfl⟩, rfl⟩; first | exact HZ0.out _ | (show 0 ≤ 16; omega))
            · by_cases hsc : bt s i = 59
              · have e3 : ne = i + 1 := by rw [HNE.out]; unfold numEnd; rw [e2, if_neg hf, if_pos ⟨hlt, hsc⟩]
                have HE := hide e3
                have HG := hide (G.out k hk0 hk1)
                rw [hsc] at C hb h0 h1 r hq
                rw [show digitI 59 = 99 from by decide] at C
                clear e1 e2 e3 r hq h0 h1
                go_wp2_with fail
                refine C.out.mono ?_
                rintro e w' ⟨rfl, rfl⟩
                go_wp2_with fail
                refine HG.out.mono ?_
                rintro e w' ⟨⟨c, hc0, hc1, rfl⟩, rfl⟩
                go_wp2
                go_ret2
                (refine ⟨⟨_, ?_, by rw [HE.out, show ((i + 1 : Nat) : Int) = (i : Int) + 1 from rfl]; rfl⟩, rfl⟩; first | exact HZ0.out _ | (show 0 ≤ 16; omega))
              · have e3 : ne = i := by rw [HNE.out]; unfold numEnd; rw [e2, if_neg hf, if_neg (by omega)]
                have HE := hide e3
                have HG := hide (G.out k hk0 hk1)
                clear e1 e2 e3
                go_wp2_with fail
                refine C.out.mono ?_
                rintro e w' ⟨rfl, rfl⟩
                go_wp2_with fail
                refine HG.out.mono ?_
                rintro e w' ⟨⟨c, hc0, hc1, rfl⟩, rfl⟩
                go_wp2
                go_ret2
                (refine ⟨⟨_, ?_, by rw [HE.out]; rfl⟩, rfl⟩; first | exact HZ0.out _ | (show 0 ≤ 16; omega))
          · have e1 : dend 16 s (i + 1) = dend 16 s 3 := by rw [← HD.out]; exact (scan_no hlt (by simpa using hq)).symm
            have HE := hide e1
            clear e1
            generalize digitI (bt s i) = d at *
            go_wp2_with fail
            refine C.out.mono ?_
            rintro e w' ⟨rfl, rfl⟩
            go_wp2
            all_goals (refine ⟨⟨trivial, _, i + 1, rfl, by go_num, by omega, by omega, by omega, by omega, HE.out⟩, ?_⟩; simp [intOf]; omega)
        · have e0 : i = s.size := by omega
          have e1 : dend 16 s i = i := scan_end (by omega)
          have e2 : dend 16 s 3 = i := by rw [← HD.out, e1]
          have HG := hide (G.out k hk0 hk1)
          by_cases hf : i = 3
          · have e3 : ne = 0 := by rw [HNE.out]; unfold numEnd; rw [e2, if_pos hf]
            have HE := hide e3
            clear e1 e2 e3 e0
            subst hf
            go_wp2
            go_ret2
            (refine ⟨⟨_, ?_, by rw [HE.out]; rfl⟩, rfl⟩; first | exact HZ0.out _ | (show 0 ≤ 16; omega))
          · have e3 : ne = i := by rw [HNE.out]; unfold numEnd; rw [e2, if_neg hf, if_neg (by omega)]
            have HE := hide e3
            clear e1 e2 e3 e0
            go_wp2_with fail
            refine HG.out.mono ?_
            rintro e w' ⟨⟨c, hc0, hc1, rfl⟩, rfl⟩
            go_wp2
            go_ret2
            (refine ⟨⟨_, ?_, by rw [HE.out]; rfl⟩, rfl⟩; first | exact HZ0.out _ | (show 0 ≤ 16; omega))
  · have e : numSize s = numEnd 10 s 2 := by unfold numSize; rw [if_neg hx]
    rw [e]; clear e
    have hx1 : ¬ (2 < s.size ∧ (bt s 2 = 120 ∨ bt s 2 = 88)) := by unfold isHex at hx; simpa using hx
    clear hx
    have hle : ∀ i, i ≤ s.size → dend 10 s i ≤ s.size := fun i h => scan_le h
    obtain ⟨ne, hne⟩ : ∃ x, x = numEnd 10 s 2 := ⟨_, rfl⟩
    rw [← hne]
    have HNE := hide hne
    clear hne
    by_cases hz : 2 < s.size
    · have hx2 : ¬ bt s 2 = 120 := fun h => hx1 ⟨hz, .inl h⟩
      have hx3 : ¬ bt s 2 = 88 := fun h => hx1 ⟨hz, .inr h⟩
      have hx4 : (bt s 2 == 120) = false := beq_eq_false_iff_ne.2 hx2
      have hx5 : (bt s 2 == 88) = false := beq_eq_false_iff_ne.2 hx3
      clear hx1 hx2 hx3
      go_enter Tryz.func77, Tryz.ntmps77
      go_wp2_with fail
      go_loopw [6, 7] (fun nv iv wr => wr = w ∧ ∃ (k : Int) (i : Nat), nv = .int .i64 k ∧ iv = .int .i64 i ∧ 0 ≤ k ∧ k ≤ 1114112 ∧ 2 ≤ i ∧ i ≤ s.size ∧ dend 10 s i = dend 10 s 2) (fun _ iv _ => s.size - (intOf iv).toNat)
      case atStart => exact ⟨rfl, 0, 2, rfl, rfl, by omega, by omega, Nat.le_refl _, by omega, rfl⟩
      case round =>
        obtain ⟨rfl, k, i, rfl, rfl, hk0, hk1, hi0, hi1, hd⟩ := hrel
        have HD := hide hd
        clear hd
        by_cases hlt : i < s.size
        · have hb := hbt i hlt
          have h0 := bt_nonneg s i
          have h1 := bt_le s i
          have r := digitI_range (bt s i)
          have C := hide (D.out (bt s i) h0 h1)
          by_cases hq : digitI (bt s i) ≥ 10
          · have e1 : dend 10 s i = i := scan_yes (by simpa using hq)
            have e2 : dend 10 s 2 = i := by rw [← HD.out, e1]
            by_cases hf : i = 2
            · have e3 : ne = 0 := by rw [HNE.out]; unfold numEnd; rw [e2, if_pos hf]
              have HE := hide e3
              have HF := hide hf
              clear e1 e2 e3
              subst hf
              go_wp2_with fail
              refine C.out.mono ?_
              rintro e w' ⟨rfl, rfl⟩
              go_wp2
              go_ret2
              (refine ⟨⟨_, ?_, by rw [HE.out]; rfl⟩, rfl⟩; first | exact HZ0.out _ | (show 0 ≤ 16; omega))
            · by_cases hsc : bt s i = 59
              · have e3 : ne = i + 1 := by rw [HNE.out]; unfold numEnd; rw [e2, if_neg hf, if_pos ⟨hlt, hsc⟩]
                have HE := hide e3
                have HG := hide (G.out k hk0 hk1)
                rw [hsc] at C hb h0 h1 r hq
                rw [show digitI 59 = 99 from by decide] at C
                clear e1 e2 e3 r hq h0 h1
                go_wp2_with fail
                refine C.out.mono ?_
                rintro e w' ⟨rfl, rfl⟩
                go_wp2_with fail
                refine HG.out.mono ?_
                rintro e w' ⟨⟨c, hc0, hc1, rfl⟩, rfl⟩
                go_wp2
                go_ret2
                (refine ⟨⟨_, ?_, by rw [HE.out, show ((i + 1 : Nat) : Int) = (i : Int) + 1 from rfl]; rfl⟩, rfl⟩; first | exact HZ0.out _ | (show 0 ≤ 16; omega))
              · have e3 : ne = i := by rw [HNE.out]; unfold numEnd; rw [e2, if_neg hf, if_neg (by omega)]
                have HE := hide e3
                have HG := hide (G.out k hk0 hk1)
                clear e1 e2 e3
                go_wp2_with fail
                refine C.out.mono ?_
                rintro e w' ⟨rfl, rfl⟩
                go_wp2_with fail
                refine HG.out.mono ?_
                rintro e w' ⟨⟨c, hc0, hc1, rfl⟩, rfl⟩
                go_wp2
                go_ret2
                (refine ⟨⟨_, ?_, by rw [HE.out]; rfl⟩, rfl⟩; first | exact HZ0.out _ | (show 0 ≤ 16; omega))
          · have e1 : dend 10 s (i + 1) = dend 10 s 2 := by rw [← HD.out]; exact (scan_no hlt (by simpa using hq)).symm
            have HE := hide e1
            clear e1
            generalize digitI (bt s i) = d at *
            go_wp2_with fail
            refine C.out.mono ?_
            rintro e w' ⟨rfl, rfl⟩
            go_wp2
            all_goals (refine ⟨⟨trivial, _, i + 1, rfl, by go_num, by omega, by omega, by omega, by omega, HE.out⟩, ?_⟩; simp [intOf]; omega)
        · have e0 : i = s.size := by omega
          have e1 : dend 10 s i = i := scan_end (by omega)
          have e2 : dend 10 s 2 = i := by rw [← HD.out, e1]
          have HG := hide (G.out k hk0 hk1)
          by_cases hf : i = 2
          · exfalso; omega
          · have e3 : ne = i := by rw [HNE.out]; unfold numEnd; rw [e2, if_neg hf, if_neg (by omega)]
            have HE := hide e3
            clear e1 e2 e3 e0
            go_wp2_with fail
            refine HG.out.mono ?_
            rintro e w' ⟨⟨c, hc0, hc1, rfl⟩, rfl⟩
            go_wp2
            go_ret2
            (refine ⟨⟨_, ?_, by rw [HE.out]; rfl⟩, rfl⟩; first | exact HZ0.out _ | (show 0 ≤ 16; omega))
    · clear hx1
      go_enter Tryz.func77, Tryz.ntmps77
      go_wp2_with fail
      go_loopw [6, 7] (fun nv iv wr => wr = w ∧ ∃ (k : Int) (i : Nat), nv = .int .i64 k ∧ iv = .int .i64 i ∧ 0 ≤ k ∧ k ≤ 1114112 ∧ 2 ≤ i ∧ i ≤ s.size ∧ dend 10 s i = dend 10 s 2) (fun _ iv _ => s.size - (intOf iv).toNat)
      case atStart => exact ⟨rfl, 0, 2, rfl, rfl, by omega, by omega, Nat.le_refl _, by omega, rfl⟩
      case round =>
        obtain ⟨rfl, k, i, rfl, rfl, hk0, hk1, hi0, hi1, hd⟩ := hrel
        have HD := hide hd
        clear hd
        by_cases hlt : i < s.size
        · exfalso; omega
        · have e0 : i = s.size := by omega
          have e1 : dend 10 s i = i := scan_end (by omega)
          have e2 : dend 10 s 2 = i := by rw [← HD.out, e1]
          have HG := hide (G.out k hk0 hk1)
          by_cases hf : i = 2
          · have e3 : ne = 0 := by rw [HNE.out]; unfold numEnd; rw [e2, if_pos hf]
            have HE := hide e3
            clear e1 e2 e3 e0
            subst hf
            go_wp2
            go_ret2
            (refine ⟨⟨_, ?_, by rw [HE.out]; rfl⟩, rfl⟩; first | exact HZ0.out _ | (show 0 ≤ 16; omega))
          · exfalso; omega
end Go.Proofs.YtnlmfklpebekdaaGreatDoor
