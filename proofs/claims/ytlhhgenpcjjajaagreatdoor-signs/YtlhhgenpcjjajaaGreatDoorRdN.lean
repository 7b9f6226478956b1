import Derived.Test.YtlhhgenpcjjajaaGreatDoorRlB
import Derived.Test.YtlhhgenpcjjajaaGreatDoorRd
import Derived.Deep.RegionWith
set_option linter.unusedSimpArgs false
set_option linter.unusedVariables false
namespace Go.Proofs.YtlhhgenpcjjajaaGreatDoor
open Go.RowKit Go.PlainAid
def dend (base : Int) (s : ByteArray) (i : Nat) : Nat := scan (fun c => decide (digitI c ≥ base)) s i
def numEnd (base : Int) (s : ByteArray) (f : Nat) : Nat :=
  if dend base s f = f then 0 else if dend base s f < s.size ∧ bt s (dend base s f) = 59 then dend base s f + 1 else dend base s f
def isHex (s : ByteArray) : Bool := decide (2 < s.size ∧ (bt s 2 = 120 ∨ bt s 2 = 88))
def numSize (s : ByteArray) : Nat := if isHex s = true then numEnd 16 s 3 else numEnd 10 s 2
theorem numEnd_le {base : Int} {s : ByteArray} {f : Nat} (h : f ≤ s.size) : numEnd base s f ≤ s.size := by
  have := scan_le (q := fun c => decide (digitI c ≥ base)) h
  unfold numEnd; split
  · omega
  · split
    · omega
    · exact this
theorem numSize_le {s : ByteArray} (h : 2 ≤ s.size) : numSize s ≤ s.size := by
  unfold numSize; split
  · rename_i h'; unfold isHex at h'; simp at h'; exact numEnd_le (by omega)
  · exact numEnd_le h
def numV (base : Int) (s : ByteArray) (k : Int) (i : Nat) : Int :=
  if i < s.size then (if digitI (bt s i) ≥ base then k else numV base s (min (k * base + digitI (bt s i)) 1114112) (i + 1)) else k
  termination_by s.size - i
theorem numV_end {base : Int} {s : ByteArray} {k : Int} {i : Nat} (h : ¬ i < s.size) : numV base s k i = k := by rw [numV, if_neg h]
theorem numV_stop {base : Int} {s : ByteArray} {k : Int} {i : Nat} (h : i < s.size) (hq : digitI (bt s i) ≥ base) : numV base s k i = k := by rw [numV, if_pos h, if_pos hq]
theorem numV_on {base : Int} {s : ByteArray} {k : Int} {i : Nat} (h : i < s.size) (hq : ¬ digitI (bt s i) ≥ base) : numV base s (min (k * base + digitI (bt s i)) 1114112) (i + 1) = numV base s k i := by rw [numV.eq_1 base s k i, if_pos h, if_neg hq]
def numT (base : Int) (s : ByteArray) (f : Nat) : ByteArray := if numEnd base s f = 0 then ⟨#[]⟩ else Utf8.encode (cpt (numV base s 0 f))
def numText (s : ByteArray) : ByteArray := if isHex s = true then numT 16 s 3 else numT 10 s 2
theorem encode_short (c : Int) : (Utf8.encode c).size ≤ 16 := by
  unfold Utf8.encode
  dsimp only
  generalize (if Utf8.valid c = true then c.toNat else Utf8.runeError) = k
  repeat' split
  all_goals first | (show 1 ≤ 16; omega) | (show 2 ≤ 16; omega) | (show 3 ≤ 16; omega) | (show 4 ≤ 16; omega)
theorem numText_short (s : ByteArray) : (numText s).size ≤ 16 := by
  unfold numText numT
  repeat' split
  all_goals first | exact encode_short _ | (show 0 ≤ 16; omega)
theorem ret_num {t t' : ByteArray} {n n' : Nat} {m : Int} (h : t = t') (h2 : n = n') (h3 : m = (n' : Int)) : Ending.returned (.tuple #[.string t, .int .i64 m]) = .returned (.tuple #[.string t', .int .i64 (n : Int)]) := by rw [h, h2, h3]
set_option maxRecDepth 100000 in
set_option maxHeartbeats 2000000 in
theorem readNumber_any (s : ByteArray) (w : World) (hs : s.size ≤ 1048576) (h2 : 2 ≤ s.size) :
    Calls Tryz.prog 262 #[.string s] w fun e w' => e = .returned (.tuple #[.string (numText s), .int .i64 (numSize s : Int)]) ∧ w' = w := by
  have hbt := get_bt s
  obtain ⟨rs, hrz, hrs⟩ : ∃ rs : Int → ByteArray, (∀ c, rs c = Utf8.encode c) ∧ ∀ (c : Int) (w : World), (convert 21 9 (.int .i32 c)).run Tryz.prog w = .ok (.string (rs c)) w := ⟨_, fun _ => rfl, fun c w => run_convert_int_string w 21 9 .i32 c (by rw [Tryz.underlying21]; rfl) Tryz.underlying9⟩
  have HZ0 := hide hrz
  clear hrz
  have D := hide (fun c (h0 : 0 ≤ c) (h1 : c ≤ 255) => digit_any c w h0 h1)
  have G := hide (fun n (h0 : 0 ≤ n) (h1 : n ≤ 1114112) => codePoint_any n w h0 h1)
  by_cases hx : isHex s = true
  · have e : numSize s = numEnd 16 s 3 := by unfold numSize; rw [if_pos hx]
    have e' : numText s = numT 16 s 3 := by unfold numText; rw [if_pos hx]
    rw [e, e']; clear e e'
    unfold isHex at hx
    have ⟨hx1, hx2⟩ := of_decide_eq_true hx
    clear hx
    obtain ⟨ne, hne⟩ : ∃ x, x = numEnd 16 s 3 := ⟨_, rfl⟩
    obtain ⟨nt, hnt⟩ : ∃ x, x = numT 16 s 3 := ⟨_, rfl⟩
    have hnt' : nt = if ne = 0 then ⟨#[]⟩ else Utf8.encode (cpt (numV 16 s 0 3)) := by rw [hnt, hne, numT]
    rw [← hne, ← hnt]
    have HNE := hide hne
    have HNT := hide hnt'
    clear hne hnt hnt'
    rcases hx2 with hx2 | hx2
    all_goals
      go_enter Tryz.func262, Tryz.ntmps262
      go_wp2_with fail
      go_loopw [6, 7] (fun nv iv wr => wr = w ∧ ∃ (k : Int) (i : Nat), nv = .int .i64 k ∧ iv = .int .i64 i ∧ 0 ≤ k ∧ k ≤ 1114112 ∧ 3 ≤ i ∧ i ≤ s.size ∧ dend 16 s i = dend 16 s 3 ∧ numV 16 s k i = numV 16 s 0 3) (fun _ iv _ => s.size - (intOf iv).toNat)
      case atStart => exact ⟨rfl, 0, 3, rfl, rfl, by omega, by omega, Nat.le_refl _, by omega, rfl, rfl⟩
      case round =>
        obtain ⟨rfl, k, i, rfl, rfl, hk0, hk1, hi0, hi1, hd, hv⟩ := hrel
        have HD := hide hd
        have HV := hide hv
        clear hd hv
        by_cases hlt : i < s.size
        · have hb := hbt i hlt
          have h0 := bt_nonneg s i
          have h1 := bt_le s i
          have r := digitI_range (bt s i)
          have C := hide (D.out (bt s i) h0 h1)
          by_cases hq : digitI (bt s i) ≥ 16
          · have e1 : dend 16 s i = i := scan_yes (by simpa using hq)
            have e2 : dend 16 s 3 = i := by rw [← HD.out, e1]
            have e4 : numV 16 s 0 3 = k := by rw [← HV.out, numV_stop hlt hq]
            by_cases hf : i = 3
            · have e3 : ne = 0 := by rw [HNE.out]; unfold numEnd; rw [e2, if_pos hf]
              have HE := hide e3
              have HT := hide (show nt = ⟨#[]⟩ by rw [HNT.out, if_pos e3])
              clear e1 e2 e3 e4
              subst hf
              go_wp2_with fail
              refine C.out.mono ?_
              rintro e w' ⟨rfl, rfl⟩
              go_wp2
              go_ret2
              exact ⟨ret_num HT.out.symm HE.out rfl, rfl⟩
            · have HG := hide (G.out k hk0 hk1)
              by_cases hsc : bt s i = 59
              · have e3 : ne = i + 1 := by rw [HNE.out]; unfold numEnd; rw [e2, if_neg hf, if_pos ⟨hlt, hsc⟩]
                have HE := hide e3
                have HT := hide (show nt = rs (cpt k) by rw [HNT.out, if_neg (by omega), e4, HZ0.out])
                rw [hsc] at C hb h0 h1 r hq
                rw [show digitI 59 = 99 from by decide] at C
                clear e1 e2 e3 e4 r hq h0 h1
                go_wp2_with fail
                refine C.out.mono ?_
                rintro e w' ⟨rfl, rfl⟩
                go_wp2_with fail
                refine HG.out.mono ?_
                rintro e w' ⟨rfl, rfl⟩
                go_wp2
                go_ret2
                exact ⟨ret_num HT.out.symm HE.out rfl, rfl⟩
              · have e3 : ne = i := by rw [HNE.out]; unfold numEnd; rw [e2, if_neg hf, if_neg (by omega)]
                have HE := hide e3
                have HT := hide (show nt = rs (cpt k) by rw [HNT.out, if_neg (by omega), e4, HZ0.out])
                clear e1 e2 e3 e4
                go_wp2_with fail
                refine C.out.mono ?_
                rintro e w' ⟨rfl, rfl⟩
                go_wp2_with fail
                refine HG.out.mono ?_
                rintro e w' ⟨rfl, rfl⟩
                go_wp2
                go_ret2
                exact ⟨ret_num HT.out.symm HE.out rfl, rfl⟩
          · have e1 : dend 16 s (i + 1) = dend 16 s 3 := by rw [← HD.out]; exact (scan_no hlt (by simpa using hq)).symm
            have e4 : numV 16 s (min (k * 16 + digitI (bt s i)) 1114112) (i + 1) = numV 16 s 0 3 := by rw [numV_on hlt hq, HV.out]
            have HE := hide e1
            have HU := hide e4
            clear e1 e4
            generalize digitI (bt s i) = d at *
            go_wp2_with fail
            refine C.out.mono ?_
            rintro e w' ⟨rfl, rfl⟩
            go_wp2
            all_goals (refine ⟨⟨trivial, min (k * 16 + d) 1114112, i + 1, ?_, by go_num, by omega, by omega, by omega, by omega, HE.out, HU.out⟩, ?_⟩; (first | rfl | (congr 1; omega)); (simp [intOf]; omega))
        · have e1 : dend 16 s i = i := scan_end (by omega)
          have e2 : dend 16 s 3 = i := by rw [← HD.out, e1]
          have e4 : numV 16 s 0 3 = k := by rw [← HV.out, numV_end hlt]
          have HG := hide (G.out k hk0 hk1)
          have e0 : i = s.size := by omega
          by_cases hf : i = 3
          · have e3 : ne = 0 := by rw [HNE.out]; unfold numEnd; rw [e2, if_pos hf]
            have HE := hide e3
            have HT := hide (show nt = ⟨#[]⟩ by rw [HNT.out, if_pos e3])
            clear e1 e2 e3 e4 e0
            subst hf
            first
              | (exfalso; omega)
              | (go_wp2
                 go_ret2
                 exact ⟨ret_num HT.out.symm HE.out rfl, rfl⟩)
          · have e3 : ne = i := by rw [HNE.out]; unfold numEnd; rw [e2, if_neg hf, if_neg (by omega)]
            have HE := hide e3
            have HT := hide (show nt = rs (cpt k) by rw [HNT.out, if_neg (by omega), e4, HZ0.out])
            clear e1 e2 e3 e4 e0
            go_wp2_with fail
            refine HG.out.mono ?_
            rintro e w' ⟨rfl, rfl⟩
            go_wp2
            go_ret2
            exact ⟨ret_num HT.out.symm HE.out rfl, rfl⟩
  · have e : numSize s = numEnd 10 s 2 := by unfold numSize; rw [if_neg hx]
    have e' : numText s = numT 10 s 2 := by unfold numText; rw [if_neg hx]
    rw [e, e']; clear e e'
    have hx1 : ¬ (2 < s.size ∧ (bt s 2 = 120 ∨ bt s 2 = 88)) := by unfold isHex at hx; simpa using hx
    clear hx
    obtain ⟨ne, hne⟩ : ∃ x, x = numEnd 10 s 2 := ⟨_, rfl⟩
    obtain ⟨nt, hnt⟩ : ∃ x, x = numT 10 s 2 := ⟨_, rfl⟩
    have hnt' : nt = if ne = 0 then ⟨#[]⟩ else Utf8.encode (cpt (numV 10 s 0 2)) := by rw [hnt, hne, numT]
    rw [← hne, ← hnt]
    have HNE := hide hne
    have HNT := hide hnt'
    clear hne hnt hnt'
    by_cases hz : 2 < s.size
    · have hx2 : ¬ bt s 2 = 120 := fun h => hx1 ⟨hz, .inl h⟩
      have hx3 : ¬ bt s 2 = 88 := fun h => hx1 ⟨hz, .inr h⟩
      have hx4 : (bt s 2 == 120) = false := beq_eq_false_iff_ne.2 hx2
      have hx5 : (bt s 2 == 88) = false := beq_eq_false_iff_ne.2 hx3
      clear hx1 hx2 hx3
      go_enter Tryz.func262, Tryz.ntmps262
      go_wp2_with fail
      go_loopw [6, 7] (fun nv iv wr => wr = w ∧ ∃ (k : Int) (i : Nat), nv = .int .i64 k ∧ iv = .int .i64 i ∧ 0 ≤ k ∧ k ≤ 1114112 ∧ 2 ≤ i ∧ i ≤ s.size ∧ dend 10 s i = dend 10 s 2 ∧ numV 10 s k i = numV 10 s 0 2) (fun _ iv _ => s.size - (intOf iv).toNat)
      case atStart => exact ⟨rfl, 0, 2, rfl, rfl, by omega, by omega, Nat.le_refl _, by omega, rfl, rfl⟩
      case round =>
        obtain ⟨rfl, k, i, rfl, rfl, hk0, hk1, hi0, hi1, hd, hv⟩ := hrel
        have HD := hide hd
        have HV := hide hv
        clear hd hv
        by_cases hlt : i < s.size
        · have hb := hbt i hlt
          have h0 := bt_nonneg s i
          have h1 := bt_le s i
          have r := digitI_range (bt s i)
          have C := hide (D.out (bt s i) h0 h1)
          by_cases hq : digitI (bt s i) ≥ 10
          · have e1 : dend 10 s i = i := scan_yes (by simpa using hq)
            have e2 : dend 10 s 2 = i := by rw [← HD.out, e1]
            have e4 : numV 10 s 0 2 = k := by rw [← HV.out, numV_stop hlt hq]
            by_cases hf : i = 2
            · have e3 : ne = 0 := by rw [HNE.out]; unfold numEnd; rw [e2, if_pos hf]
              have HE := hide e3
              have HT := hide (show nt = ⟨#[]⟩ by rw [HNT.out, if_pos e3])
              clear e1 e2 e3 e4
              subst hf
              go_wp2_with fail
              refine C.out.mono ?_
              rintro e w' ⟨rfl, rfl⟩
              go_wp2
              go_ret2
              exact ⟨ret_num HT.out.symm HE.out rfl, rfl⟩
            · have HG := hide (G.out k hk0 hk1)
              by_cases hsc : bt s i = 59
              · have e3 : ne = i + 1 := by rw [HNE.out]; unfold numEnd; rw [e2, if_neg hf, if_pos ⟨hlt, hsc⟩]
                have HE := hide e3
                have HT := hide (show nt = rs (cpt k) by rw [HNT.out, if_neg (by omega), e4, HZ0.out])
                rw [hsc] at C hb h0 h1 r hq
                rw [show digitI 59 = 99 from by decide] at C
                clear e1 e2 e3 e4 r hq h0 h1
                go_wp2_with fail
                refine C.out.mono ?_
                rintro e w' ⟨rfl, rfl⟩
                go_wp2_with fail
                refine HG.out.mono ?_
                rintro e w' ⟨rfl, rfl⟩
                go_wp2
                go_ret2
                exact ⟨ret_num HT.out.symm HE.out rfl, rfl⟩
              · have e3 : ne = i := by rw [HNE.out]; unfold numEnd; rw [e2, if_neg hf, if_neg (by omega)]
                have HE := hide e3
                have HT := hide (show nt = rs (cpt k) by rw [HNT.out, if_neg (by omega), e4, HZ0.out])
                clear e1 e2 e3 e4
                go_wp2_with fail
                refine C.out.mono ?_
                rintro e w' ⟨rfl, rfl⟩
                go_wp2_with fail
                refine HG.out.mono ?_
                rintro e w' ⟨rfl, rfl⟩
                go_wp2
                go_ret2
                exact ⟨ret_num HT.out.symm HE.out rfl, rfl⟩
          · have e1 : dend 10 s (i + 1) = dend 10 s 2 := by rw [← HD.out]; exact (scan_no hlt (by simpa using hq)).symm
            have e4 : numV 10 s (min (k * 10 + digitI (bt s i)) 1114112) (i + 1) = numV 10 s 0 2 := by rw [numV_on hlt hq, HV.out]
            have HE := hide e1
            have HU := hide e4
            clear e1 e4
            generalize digitI (bt s i) = d at *
            go_wp2_with fail
            refine C.out.mono ?_
            rintro e w' ⟨rfl, rfl⟩
            go_wp2
            all_goals (refine ⟨⟨trivial, min (k * 10 + d) 1114112, i + 1, ?_, by go_num, by omega, by omega, by omega, by omega, HE.out, HU.out⟩, ?_⟩; (first | rfl | (congr 1; omega)); (simp [intOf]; omega))
        · have e1 : dend 10 s i = i := scan_end (by omega)
          have e2 : dend 10 s 2 = i := by rw [← HD.out, e1]
          have e4 : numV 10 s 0 2 = k := by rw [← HV.out, numV_end hlt]
          have HG := hide (G.out k hk0 hk1)
          have e0 : i = s.size := by omega
          by_cases hf : i = 2
          · have e3 : ne = 0 := by rw [HNE.out]; unfold numEnd; rw [e2, if_pos hf]
            have HE := hide e3
            have HT := hide (show nt = ⟨#[]⟩ by rw [HNT.out, if_pos e3])
            clear e1 e2 e3 e4 e0
            subst hf
            first
              | (exfalso; omega)
              | (go_wp2
                 go_ret2
                 exact ⟨ret_num HT.out.symm HE.out rfl, rfl⟩)
          · have e3 : ne = i := by rw [HNE.out]; unfold numEnd; rw [e2, if_neg hf, if_neg (by omega)]
            have HE := hide e3
            have HT := hide (show nt = rs (cpt k) by rw [HNT.out, if_neg (by omega), e4, HZ0.out])
            clear e1 e2 e3 e4 e0
            go_wp2_with fail
            refine HG.out.mono ?_
            rintro e w' ⟨rfl, rfl⟩
            go_wp2
            go_ret2
            exact ⟨ret_num HT.out.symm HE.out rfl, rfl⟩
    · clear hx1
      have n0 : dend 10 s 2 = 2 := scan_end (by omega)
      have n1 : ne = 0 := by rw [HNE.out]; unfold numEnd; rw [if_pos n0]
      have n2 : nt = ⟨#[]⟩ := by rw [HNT.out, if_pos n1]
      have e0 : s.size = 2 := by omega
      have HE := hide n1
      have HT := hide n2
      clear n0 n1 n2
      go_enter Tryz.func262, Tryz.ntmps262
      go_wp2_with fail
      refine wp_loop_rounds 1 ?_
      rw [rounds_succ]
      go_wp2
      go_ret2
      exact ⟨ret_num HT.out.symm HE.out rfl, rfl⟩
end Go.Proofs.YtlhhgenpcjjajaaGreatDoor
namespace Go.Proofs.YtlhhgenpcjjajaaGreatDoor
open Go.RowKit Go.PlainAid
theorem Kept.ofBelow {w w' : World} (h : Below w.heap.size w w') : Kept [] w w' := ⟨h.os, h.tape, h.output, h.size, fun k hk _ => h.block k hk⟩
def Gl (w : World) (r : Nat) : Prop := (∃ m, w.cell? ⟨3, 0, none⟩ = some (.int .i64 m)) ∧ 3 < w.heap.size ∧ r ≠ 3
theorem Gl.kept {w w' : World} {r : Nat} (h : Gl w r) (hk : Kept [r] w w') : Gl w' r := by
  obtain ⟨⟨m, hm⟩, hl, hn⟩ := h
  exact ⟨⟨m, (hk.cell (p := ⟨3, 0, none⟩) hl (by simp; exact fun e => hn e.symm)).trans hm⟩, Nat.lt_of_lt_of_le hl hk.size, hn⟩
def noNul (s : ByteArray) : ByteArray := ⟨(Lib.replaceAll s.data.toList (ByteArray.mk #[0]).data.toList (ByteArray.mk #[239, 191, 189]).data.toList).toArray⟩
set_option maxRecDepth 100000 in
set_option maxHeartbeats 400000 in
theorem noNul_any (r : Nat) (s : ByteArray) (w : World) (hs : s.size ≤ 1048576) (hg : Gl w r) :
    Calls Tryz.prog 158 #[.string s] w fun e w' => e = .returned (.string (noNul s)) ∧ Kept [] w w' := by
  obtain ⟨⟨m, hm⟩, _, _⟩ := hg
  have hc := Lib.countB_le ⟨#[0]⟩ (by decide) s.size s (Nat.le_refl _)
  have C := hide (Tryz.strings_ReplaceAll s ⟨#[0]⟩ ⟨#[239, 191, 189]⟩ m w (by omega) hm (by decide) (by have : (ByteArray.mk #[239, 191, 189]).size = 3 := rfl; rw [this]; omega))
  clear hm hc
  go_enter Tryz.func158, Tryz.ntmps158
  go_wp2_with fail
  refine C.out.mono ?_
  rintro e w' ⟨rfl, hb⟩
  have HB := hide hb
  clear hb
  go_wp2
  go_ret
  exact ⟨rfl, Kept.ofBelow HB.out⟩
def low (c : Int) : Int := if 65 ≤ c ∧ c ≤ 90 then c + 32 else c
def small (s : ByteArray) : ByteArray := ⟨s.data.map fun b => if 65 ≤ b.toNat ∧ b.toNat ≤ 90 then b + 32 else b⟩
theorem small_size (s : ByteArray) : (small s).size = s.size := Array.size_map ..
theorem bt_small (s : ByteArray) (j : Nat) (h : j < s.size) : bt (small s) j = low (bt s j) := by
  have hj : j < s.data.size := h
  have h2 : j < (small s).size := by rw [small_size]; exact h
  unfold bt low
  rw [dif_pos h, dif_pos h2]
  show (((small s).data[j]'h2).toNat : Int) = _
  have e : (small s).data[j]'h2 = (if 65 ≤ (s.data[j]).toNat ∧ (s.data[j]).toNat ≤ 90 then s.data[j] + 32 else s.data[j]) := by simp [small]
  rw [e]
  show _ = (if 65 ≤ ((s.data[j]).toNat : Int) ∧ ((s.data[j]).toNat : Int) ≤ 90 then ((s.data[j]).toNat : Int) + 32 else ((s.data[j]).toNat : Int))
  by_cases hc : 65 ≤ (s.data[j]).toNat ∧ (s.data[j]).toNat ≤ 90
  · rw [if_pos hc, if_pos (by omega), UInt8.toNat_add]
    have : (32 : UInt8).toNat = 32 := rfl
    omega
  · rw [if_neg hc, if_neg (by omega)]
def Halfway (g sz : Nat) (s : ByteArray) (k : Nat) (w wr : World) : Prop :=
  (∃ C : Array Value, wr.heap[g]? = some (.cells C 5 (sz, sz + 1)) ∧ C.size = sz ∧ ∀ j, j < s.size → C[j]? = some (.int .u8 (if j < k then low (bt s j) else bt s j))) ∧ Kept [] w wr
theorem Halfway.cell {g sz : Nat} {s : ByteArray} {k : Nat} {w wr : World} (h : Halfway g sz s k w wr) (hz : s.size ≤ sz) (j : Nat) (hj : j < s.size) : wr.cell? ⟨g, j, none⟩ = some (.int .u8 (if j < k then low (bt s j) else bt s j)) ∧ wr.frozen? ⟨g, j, none⟩ = false := by
  obtain ⟨⟨C, hC, _, h⟩, _⟩ := h
  exact ⟨by rw [cell_mark hC]; exact h j hj, free_mark hC j (by omega)⟩
theorem Halfway.keep {g sz : Nat} {s : ByteArray} {k : Nat} {w wr : World} (h : Halfway g sz s k w wr) (hl : low (bt s k) = bt s k) : Halfway g sz s (k + 1) w wr := by
  obtain ⟨⟨C, hC, hs, h⟩, hk⟩ := h
  refine ⟨⟨C, hC, hs, fun j hj => ?_⟩, hk⟩
  rw [h j hj]
  by_cases e : j = k
  · subst e; simp [hl]
  · by_cases e1 : j < k
    · rw [if_pos e1, if_pos (by omega)]
    · rw [if_neg e1, if_neg (by omega)]
theorem Halfway.store {g sz : Nat} {s : ByteArray} {k : Nat} {w wr : World} (h : Halfway g sz s k w wr) (hg : w.heap.size ≤ g) (hz : k < sz) : Halfway g sz s (k + 1) w (wr.setCell ⟨g, k, none⟩ (.int .u8 (low (bt s k)))) := by
  obtain ⟨⟨C, hC, hs, h⟩, hk⟩ := h
  refine ⟨⟨_, mark_setCell hC k _, by simpa using hs, fun j hj => ?_⟩, hk.setCell (.inr hg) _⟩
  by_cases e : j = k
  · subst e; simp [Array.getElem?_setIfInBounds, hs, hz]
  · rw [Array.getElem?_setIfInBounds_ne (fun h => e h.symm), h j hj]
    by_cases e1 : j < k
    · rw [if_pos e1, if_pos (by omega)]
    · rw [if_neg e1, if_neg (by omega)]
set_option maxRecDepth 100000 in
set_option maxHeartbeats 1000000 in
theorem small_any (s : ByteArray) (w : World) (hs : s.size ≤ 1048576) :
    Calls Tryz.prog 250 #[.string s] w fun e w' => e = .returned (.string (small s)) ∧ Kept [] w w' := by
  have hcv := run_bytes_of_string (P := Tryz.prog) w 9 55 5 s Tryz.underlying9 Tryz.underlying55 Tryz.underlying5
  obtain ⟨cp, hcp⟩ : ∃ cp, cp = grownCap w s.size 0 5 := ⟨_, rfl⟩
  rw [← hcp] at hcv
  clear hcp
  have hrz := bytesRow_size s cp
  have hrc : ∀ j, j < s.size → (bytesRow s cp)[j]? = some (.int .u8 (bt s j)) := fun j hj => by rw [bytesRow_at s cp j hj, ← get_bt s j hj]; rfl
  generalize bytesRow s cp = R at hcv hrz hrc
  obtain ⟨W1, hW1⟩ : ∃ W1, W1 = w.drew.alloc (.cells R 5 (R.size, R.size + 1)) := ⟨_, rfl⟩
  rw [← hW1] at hcv
  have hB : W1.heap[w.heap.size]? = some (.cells R 5 (R.size, R.size + 1)) := by rw [hW1]; exact heap_alloc_at w.drew _
  have K1 : Kept [] w W1 := by rw [hW1]; exact (Kept.refl [] w).drew.alloc _
  clear hW1
  have HT : Hid (Halfway w.heap.size R.size s 0 w W1) := ⟨⟨R, hB, rfl, fun j hj => by rw [hrc j hj]; simp⟩, K1⟩
  have HZ := hide hrz
  clear hB K1 hrc hrz
  generalize R.size = sz at *
  go_enter Tryz.func250, Tryz.ntmps250
  go_wp2_with fail
  clear hcv
  go_loopw [10] (fun i wr => ∃ k : Nat, k ≤ s.size ∧ i = .int .i64 k ∧ Halfway w.heap.size sz s k w wr) (fun i _ => s.size - (intOf i).toNat)
  case atStart => exact ⟨0, Nat.zero_le _, rfl, HT.out⟩
  case round =>
    obtain ⟨k, hk, rfl, hT⟩ := hrel
    have HT2 := hide hT
    clear hT
    by_cases hlt : k < s.size
    · have ⟨c1, f1⟩ := HT2.out.cell HZ.out k hlt
      rw [if_neg (by omega)] at c1
      have h0 := bt_nonneg s k
      have h1 := bt_le s k
      by_cases a : 65 ≤ bt s k
      · by_cases b : bt s k ≤ 90
        · have HN := hide (HT2.out.store (Nat.le_refl _) (by have := HZ.out; omega))
          have hlow : low (bt s k) = bt s k - 65 + 97 := by unfold low; rw [if_pos ⟨a, b⟩]; omega
          rw [hlow] at HN
          clear hlow
          generalize bt s k = c at *
          go_wp2
          go_roundw
          case rel => exact ⟨k + 1, by omega, by go_num, HN.out⟩
          case measure => simp [intOf]; omega
        · have HN := hide (HT2.out.keep (by unfold low; rw [if_neg (by omega)]))
          generalize bt s k = c at *
          go_wp2
          go_roundw
          case rel => exact ⟨k + 1, by omega, by go_num, HN.out⟩
          case measure => simp [intOf]; omega
      · have HN := hide (HT2.out.keep (by unfold low; rw [if_neg (by omega)]))
        generalize bt s k = c at *
        go_wp2
        go_roundw
        case rel => exact ⟨k + 1, by omega, by go_num, HN.out⟩
        case measure => simp [intOf]; omega
    · have e : k = s.size := by omega
      subst e
      have hback : (convert 55 9 (.slice (some ⟨w.heap.size, 0, none⟩) s.size cp)).run Tryz.prog wr = .ok (.string (small s)) wr := by
        have := run_convert_bytes_back (P := Tryz.prog) wr 55 9 5 ⟨w.heap.size, 0, none⟩ cp (small s).data.toList Tryz.underlying55 Tryz.underlying5 Tryz.underlying9 (fun j hj => by
          have hj2 : j < s.size := by have := small_size s; simp at hj; have e : (small s).data.size = (small s).size := rfl; omega
          rw [addr_add]
          have := (HT2.out.cell HZ.out j hj2).1
          rw [if_pos hj2] at this
          rw [this, ← bt_small s j hj2, ← get_bt (small s) j (by rw [small_size]; exact hj2)]
          simp; rfl)
        have e2 : (small s).data.toList.length = s.size := by simp; exact small_size s
        rw [e2] at this
        simpa using this
      have HK := hide HT2.out.2
      go_wp2
      go_ret
      exact ⟨rfl, HK.out⟩
end Go.Proofs.YtlhhgenpcjjajaaGreatDoor
namespace Go.Proofs.YtlhhgenpcjjajaaGreatDoor
open Go.RowKit Go.PlainAid
set_option maxRecDepth 100000 in
set_option maxHeartbeats 400000 in
theorem readName_any (r : Nat) (s : ByteArray) (w : World) (hs : s.size ≤ 1048576) (hg : Gl w r) :
    Calls Tryz.prog 257 #[.string s] w fun e w' => e = .returned (.string (noNul (small s))) ∧ Kept [] w w' := by
  have HG := hide hg
  clear hg
  go_enter Tryz.func257, Tryz.ntmps257
  go_wp2_with fail
  refine (small_any s w hs).mono ?_
  rintro e w1 ⟨rfl, hk⟩
  have C := hide (noNul_any r (small s) w1 (by rw [small_size]; exact hs) (HG.out.kept (hk.mono (by simp))))
  have HK := hide hk
  clear hk
  go_wp2_with fail
  refine C.out.mono ?_
  rintro e w2 ⟨rfl, hk2⟩
  have HK2 := hide (HK.out.trans hk2)
  clear hk2
  go_wp2
  go_ret
  exact ⟨rfl, HK2.out⟩
theorem upToOne (r : Nat) (R : RC) (bg ps : Nat) (s : ByteArray) (w : World) (h : Rd w r R bg ps) (hp : ps ≤ R.cs.size) (hs : R.cs.size ≤ 1024) :
    Calls Tryz.prog 258 #[.pointer (some ⟨r, 0, none⟩), .func (.func 260) #[] #[.pointer (some ⟨w.heap.size, 0, none⟩)]] (w.alloc (.cells #[.string s] 9))
      fun e w' => e = .returned (.string (R.cs.extract ps (scan (inSet s) R.cs ps))) ∧ Kept [r] w w' ∧ Rd w' r R bg (scan (inSet s) R.cs ps) := by
  have hr := lt_of_block h
  have k : Kept [] w (w.alloc (.cells #[.string s] 9)) := (Kept.refl _ _).alloc _
  have b := heap_alloc_at w (.cells #[.string s] 9)
  refine (upTo_any r R bg ps _ _ _ _ (k.at h (by simp)) hp hs (asks_oneOf _ [r] w.heap.size s (by rw [cell_at b]; rfl) (by simp) (by simp; omega))).mono ?_
  rintro e w' ⟨h1, h2, h3⟩
  exact ⟨h1, (k.mono (by simp)).trans h2, h3⟩
set_option maxRecDepth 100000 in
set_option maxHeartbeats 1000000 in
theorem isNext_any (r : Nat) (R : RC) (bg ps : Nat) (k : Nat) (caps : Array Value) (q : Int → Bool) (w : World) (h : Rd w r R bg ps) (hp : ps ≤ R.cs.size) (hs : R.cs.size ≤ 1024) (hq : Asks w [r] k caps q) :
    Calls Tryz.prog 161 #[.pointer (some ⟨r, 0, none⟩), .func (.func k) #[] caps] w fun e w' => e = .returned (.bool (decide (ps < R.cs.size) && q (bt R.cs ps))) ∧ ∃ n, w' = w.drewN n := by
  have HQ := hide hq
  have t := h.text
  have p := h.ps
  have H := hide h
  clear h hq
  have hbt := get_bt R.cs
  have hent := HQ.out.ent
  have C := hide (fun w' (h : Rd w' r R bg ps) => atEnd_any r R bg ps w' h)
  by_cases e : ps = R.cs.size
  · have e3 : decide (ps = R.cs.size) = true := by simp [e]
    rw [e3] at C
    go_enter Tryz.func161, Tryz.ntmps161
    go_wp2_with fail
    go_quiet ((go_at_call 87; refine Calls.quiet_of (C.out _ ?_); exact H.out))
    go_wp2
    go_ret
    exact ⟨by simp [e], ⟨_, rfl⟩⟩
  · have hlt : ps < R.cs.size := by omega
    have e3 : decide (ps = R.cs.size) = false := by simp [e]
    rw [e3] at C
    have hb := hbt ps hlt
    have h0 := bt_nonneg R.cs ps
    have h1 := bt_le R.cs ps
    have D := hide (fun w' h => HQ.out.ask (bt R.cs ps) w' h0 h1 h)
    have e4 : (decide (ps < R.cs.size) && q (bt R.cs ps)) = q (bt R.cs ps) := by simp [hlt]
    rw [e4]
    clear e4
    have HK : Hid (∀ n, Kept [r] w (w.drewN n)) := fun n => (Kept.refl _ _).drewN n
    cases hqv : q (bt R.cs ps)
    all_goals
      rw [hqv] at D
      go_enter Tryz.func161, Tryz.ntmps161
      go_wp2_with fail
      go_quiet (first | (go_at_call 87; refine Calls.quiet_of (C.out _ ?_); exact H.out) | (refine Calls.quiet_of (D.out _ ?_); exact HK.out _))
      go_wp2
      go_ret
      exact ⟨rfl, ⟨_, rfl⟩⟩
end Go.Proofs.YtlhhgenpcjjajaaGreatDoor
namespace Go.Proofs.YtlhhgenpcjjajaaGreatDoor
open Go.RowKit Go.PlainAid
def nameEnd (R : RC) (ps : Nat) : Nat := scan (inSet ⟨#[32, 9, 10, 12, 47, 62, 61]⟩) R.cs (ps + 1)
set_option maxRecDepth 100000 in
set_option maxHeartbeats 1000000 in
theorem attributeName_any (r : Nat) (R : RC) (bg ps : Nat) (w : World) (h : Rd w r R bg ps) (hp : ps < R.cs.size) (hs : R.cs.size ≤ 1024) (hg : Gl w r) :
    Calls Tryz.prog 337 #[.pointer (some ⟨r, 0, none⟩)] w fun e w' => e = .returned (.string (noNul (small (R.cs.extract ps (nameEnd R ps))))) ∧ Kept [r] w w' ∧ Rd w' r R bg (nameEnd R ps) := by
  have p := h.ps
  have fz := h.free 3
  have HG := hide hg
  have HR1 := hide (h.setPs (ps + 1))
  have HK1 := hide ((Kept.refl [r] w).setCell (p := ⟨r, 3, none⟩) (.inl (by simp)) (.int .i64 ((ps + 1 : Nat) : Int)))
  clear h hg
  obtain ⟨w1, hw1⟩ : ∃ w1, w1 = w.setCell ⟨r, 3, none⟩ (.int .i64 ((ps + 1 : Nat) : Int)) := ⟨_, rfl⟩
  rw [← hw1] at HR1 HK1
  have hw1' : w.setCell ⟨r, 3, none⟩ (.int .i64 ((ps : Int) + 1)) = w1 := by rw [hw1]; congr 1
  have HW1 := hide hw1'
  clear hw1 hw1'
  have C := hide (upToOne r R bg (ps + 1) ⟨#[32, 9, 10, 12, 47, 62, 61]⟩ w1 HR1.out (by omega) hs)
  rw [show scan (inSet ⟨#[32, 9, 10, 12, 47, 62, 61]⟩) R.cs (ps + 1) = nameEnd R ps from rfl] at C
  have hle : nameEnd R ps ≤ R.cs.size := scan_le (by omega)
  have hge : ps + 1 ≤ nameEnd R ps := scan_ge
  generalize nameEnd R ps = n at *
  go_enter Tryz.func337, Tryz.ntmps337
  go_wp2_with fail
  rw [HW1.out]
  clear p fz
  refine (oneOf_any _ w1).mono ?_
  rintro e w' ⟨rfl, rfl⟩
  go_wp2_with fail
  refine C.out.mono ?_
  rintro e w2 ⟨rfl, hk2, hr2⟩
  have t2 := hr2.text
  have p2 := hr2.ps
  have HR2 := hide hr2
  have hk3 := HK1.out.trans hk2
  have HK3 := hide hk3
  have D := hide (fun q => readName_any r (R.cs.extract ps n) (w2.drewN q) (by simp; omega) (show Gl (w2.drewN q) r from HG.out.kept (hk3.drewN q)))
  clear hk2 hr2 hk3 C
  generalize hm : noNul (small (R.cs.extract ps n)) = m at D ⊢
  have Hm := hide hm
  clear hm
  go_wp2_with fail
  go_region_with (refine (D.out _).mono ?_; rintro e w3 ⟨rfl, hk4⟩)
  all_goals (try go_wp2)
  all_goals
    (go_ret
     exact ⟨by rw [Hm.out]; rfl, HK3.out.trans (((Kept.refl [r] w2).drewN 1).trans (hk4.mono (by simp))), hk4.at (show Rd (w2.drewN 1) r R bg n from HR2.out) (by simp)⟩)
theorem toList_eq {a b : ByteArray} (h : a.toList = b.toList) : a = b := by
  rw [ByteArray.toList_eq, ByteArray.toList_eq] at h
  exact ByteArray.ext (Array.toList_inj.1 h)
end Go.Proofs.YtlhhgenpcjjajaaGreatDoor
namespace Go.Proofs.YtlhhgenpcjjajaaGreatDoor
open Go.RowKit Go.PlainAid
def quoted (R : RC) (q : ByteArray) (ps : Nat) : Nat := taken R q (scan (inSet q) R.cs (ps + 1))
def rawEnd (R : RC) (ps : Nat) : Nat :=
  if pre (R.cs.extract ps R.cs.size) ⟨#[34]⟩ = true then quoted R ⟨#[34]⟩ ps else if pre (R.cs.extract ps R.cs.size) ⟨#[39]⟩ = true then quoted R ⟨#[39]⟩ ps else scan (inSet ⟨#[32, 9, 10, 12, 62]⟩) R.cs ps
theorem quoted_le {R : RC} {q : ByteArray} {ps : Nat} (h : ps < R.cs.size) : quoted R q ps ≤ R.cs.size := taken_le (scan_le (by omega))
theorem quoted_ge {R : RC} {q : ByteArray} {ps : Nat} : ps ≤ quoted R q ps := Nat.le_trans (by omega) (Nat.le_trans (scan_ge (i := ps + 1)) taken_ge)
theorem pre_lt {s p : ByteArray} {ps : Nat} (h : pre (s.extract ps s.size) p = true) (hp : ps ≤ s.size) (hz : 0 < p.size) : ps < s.size := by
  have := pre_rest h hp; omega
theorem rawEnd_le {R : RC} {ps : Nat} (h : ps ≤ R.cs.size) : rawEnd R ps ≤ R.cs.size := by
  unfold rawEnd; split
  · rename_i h'; exact quoted_le (pre_lt h' h (by decide))
  · split
    · rename_i h'; exact quoted_le (pre_lt h' h (by decide))
    · exact scan_le h
theorem rawEnd_ge {R : RC} {ps : Nat} : ps ≤ rawEnd R ps := by
  unfold rawEnd; split
  · exact quoted_ge
  · split
    · exact quoted_ge
    · exact scan_ge
def rawText (R : RC) (ps : Nat) : ByteArray :=
  if pre (R.cs.extract ps R.cs.size) ⟨#[34]⟩ = true then R.cs.extract (ps + 1) (scan (inSet ⟨#[34]⟩) R.cs (ps + 1)) else if pre (R.cs.extract ps R.cs.size) ⟨#[39]⟩ = true then R.cs.extract (ps + 1) (scan (inSet ⟨#[39]⟩) R.cs (ps + 1)) else R.cs.extract ps (scan (inSet ⟨#[32, 9, 10, 12, 62]⟩) R.cs ps)
theorem rawText_le {R : RC} {ps : Nat} : (rawText R ps).size ≤ R.cs.size := by
  unfold rawText; repeat' split
  all_goals (simp; omega)
theorem quote_rest (r : Nat) (R : RC) (bg ps : Nat) (q : ByteArray) (hq : q.size = 1) (w w1 : World) (hk : Kept [r] w w1) (h : Rd w1 r R bg (ps + 1)) (hp : ps + 1 ≤ R.cs.size) (hs : R.cs.size ≤ 1024) :
    Calls Tryz.prog 258 #[.pointer (some ⟨r, 0, none⟩), .func (.func 260) #[] #[.pointer (some ⟨w1.heap.size, 0, none⟩)]] (w1.alloc (.cells #[.string q] 9))
      fun e w2 => e = .returned (.string (R.cs.extract (ps + 1) (scan (inSet q) R.cs (ps + 1)))) ∧
        Calls Tryz.prog 91 #[.pointer (some ⟨r, 0, none⟩), .string q] w2 fun e w3 => (∃ b, e = .returned (.bool b)) ∧ Kept [r] w w3 ∧ Rd w3 r R bg (quoted R q ps) := by
  refine (upToOne r R bg (ps + 1) q w1 h hp hs).mono ?_
  rintro e w2 ⟨h1, hk2, hr2⟩
  refine ⟨h1, ?_⟩
  refine (take_any r R bg _ q w2 hr2 (scan_le hp) hs (by omega)).mono ?_
  rintro e w3 ⟨h3, hk3, hr3⟩
  exact ⟨⟨_, h3⟩, (hk.trans hk2).trans hk3, hr3⟩
set_option maxRecDepth 100000 in
set_option maxHeartbeats 1000000 in
theorem rawValue_any (r : Nat) (R : RC) (bg ps : Nat) (w : World) (h : Rd w r R bg ps) (hp : ps ≤ R.cs.size) (hs : R.cs.size ≤ 1024) :
    Calls Tryz.prog 365 #[.pointer (some ⟨r, 0, none⟩)] w fun e w' => e = .returned (.string (rawText R ps)) ∧ Kept [r] w w' ∧ Rd w' r R bg (rawEnd R ps) := by
  have hr := lt_of_block h
  obtain ⟨w0, hw0⟩ : ∃ w0, w0 = w.alloc (.cells #[.string ⟨#[34]⟩, .string ⟨#[39]⟩] 9) := ⟨_, rfl⟩
  have k0 : Kept [] w w0 := by rw [hw0]; exact (Kept.refl _ _).alloc _
  have b0 : w0.heap[w.heap.size]? = some (.cells #[.string ⟨#[34]⟩, .string ⟨#[39]⟩] 9 (0, 0)) := by rw [hw0]; exact heap_alloc_at w _
  have r0 : Rd w0 r R bg ps := k0.at h (by simp)
  have z0 : w.heap.size < w0.heap.size := lt_of_block b0
  have HW := hide hw0.symm
  clear hw0
  have D1 := hide (take_any r R bg ps ⟨#[34]⟩ w0 r0 hp hs (by decide))
  have D2 := hide (fun w' (h : Rd w' r R bg ps) => take_any r R bg ps ⟨#[39]⟩ w' h hp hs (by decide))
  have c0 : w0.cell? ⟨w.heap.size, 0, none⟩ = some (.string ⟨#[34]⟩) := by rw [cell_at b0]; rfl
  have K0 := hide k0
  have HB := hide b0
  have HZ := hide z0
  clear h k0 b0 z0 r0
  cases h1 : pre (R.cs.extract ps R.cs.size) ⟨#[34]⟩
  · have k1 : taken R ⟨#[34]⟩ ps = ps := by unfold taken; rw [if_neg (by simp [h1])]
    rw [h1, k1] at D1
    cases h2 : pre (R.cs.extract ps R.cs.size) ⟨#[39]⟩
    · have k2 : taken R ⟨#[39]⟩ ps = ps := by unfold taken; rw [if_neg (by simp [h2])]
      rw [h2, k2] at D2
      have q1 : rawEnd R ps = scan (inSet ⟨#[32, 9, 10, 12, 62]⟩) R.cs ps := by unfold rawEnd; rw [if_neg (by simp [h1]), if_neg (by simp [h2])]
      have U := hide (fun w' (h : Rd w' r R bg ps) => upToOne r R bg ps ⟨#[32, 9, 10, 12, 62]⟩ w' h hp hs)
      rw [← q1] at U
      have q2 : rawText R ps = R.cs.extract ps (rawEnd R ps) := by unfold rawText; rw [if_neg (by simp [h1]), if_neg (by simp [h2]), q1]
      rw [q2]
      clear h1 h2 k1 k2 q1 q2
      generalize rawEnd R ps = m at *
      go_enter Tryz.func365, Tryz.ntmps365
      go_wp2_with fail
      refine wp_loop_rounds 3 ?_
      rw [rounds_succ, HW.out]
      go_wp2_with fail
      refine D1.out.mono ?_
      rintro e w1 ⟨rfl, hk1, hr1⟩
      have c1 : w1.cell? ⟨w.heap.size, 1, none⟩ = some (.string ⟨#[39]⟩) := by rw [hk1.cell (p := ⟨w.heap.size, 1, none⟩) HZ.out (by simp; omega), cell_at HB.out]; rfl
      have HK1 := hide ((K0.out.mono (S' := [r]) (by simp)).trans hk1)
      have HR1 := hide hr1
      clear hk1 hr1
      go_wp2_with fail
      rw [rounds_succ]
      go_wp2_with fail
      refine (D2.out _ HR1.out).mono ?_
      rintro e w2 ⟨rfl, hk2, hr2⟩
      have HK2 := hide (HK1.out.trans hk2)
      have HR2 := hide hr2
      clear hk2 hr2
      go_wp2_with fail
      rw [rounds_succ]
      go_wp2_with fail
      refine (oneOf_any _ w2).mono ?_
      rintro e w' ⟨rfl, rfl⟩
      go_wp2_with fail
      refine (U.out _ HR2.out).mono ?_
      rintro e w3 ⟨rfl, hk3, hr3⟩
      have HK3 := hide (HK2.out.trans hk3)
      have HR3 := hide hr3
      clear hk3 hr3
      go_wp2
      go_ret
      exact ⟨rfl, HK3.out, HR3.out⟩
    · have k2 : taken R ⟨#[39]⟩ ps = ps + 1 := by unfold taken; rw [if_pos h2]; rfl
      rw [h2, k2] at D2
      have q1 : rawEnd R ps = quoted R ⟨#[39]⟩ ps := by unfold rawEnd; rw [if_neg (by simp [h1]), if_pos h2]
      have q2 : rawText R ps = R.cs.extract (ps + 1) (scan (inSet ⟨#[39]⟩) R.cs (ps + 1)) := by unfold rawText; rw [if_neg (by simp [h1]), if_pos h2]
      rw [q1, q2]
      have hp1 := pre_lt h2 hp (by decide)
      clear h1 h2 k1 k2 q1 q2
      have U := hide (fun w1 (hk : Kept [r] w w1) (h : Rd w1 r R bg (ps + 1)) => quote_rest r R bg ps ⟨#[39]⟩ rfl w w1 hk h hp1 hs)
      generalize R.cs.extract (ps + 1) (scan (inSet ⟨#[39]⟩) R.cs (ps + 1)) = t at *
      generalize quoted R ⟨#[39]⟩ ps = m at *
      go_enter Tryz.func365, Tryz.ntmps365
      go_wp2_with fail
      refine wp_loop_rounds 3 ?_
      rw [rounds_succ, HW.out]
      go_wp2_with fail
      refine D1.out.mono ?_
      rintro e w1 ⟨rfl, hk1, hr1⟩
      have c1 : w1.cell? ⟨w.heap.size, 1, none⟩ = some (.string ⟨#[39]⟩) := by rw [hk1.cell (p := ⟨w.heap.size, 1, none⟩) HZ.out (by simp; omega), cell_at HB.out]; rfl
      have HK1 := hide ((K0.out.mono (S' := [r]) (by simp)).trans hk1)
      have HR1 := hide hr1
      clear hk1 hr1
      go_wp2_with fail
      rw [rounds_succ]
      go_wp2_with fail
      refine (D2.out _ HR1.out).mono ?_
      rintro e w2 ⟨rfl, hk2, hr2⟩
      have V := hide (U.out w2 (HK1.out.trans hk2) hr2)
      clear hk2 hr2
      go_wp2_with fail
      refine (oneOf_any _ w2).mono ?_
      rintro e w' ⟨rfl, rfl⟩
      go_wp2_with fail
      refine V.out.mono ?_
      rintro e w3 ⟨rfl, hv⟩
      have HV := hide hv
      clear hv
      go_wp2_with fail
      refine HV.out.mono ?_
      rintro e w4 ⟨⟨b, rfl⟩, hk4, hr4⟩
      have HK4 := hide hk4
      have HR4 := hide hr4
      clear hk4 hr4
      go_wp2
      go_ret
      exact ⟨rfl, HK4.out, HR4.out⟩
  · have k1 : taken R ⟨#[34]⟩ ps = ps + 1 := by unfold taken; rw [if_pos h1]; rfl
    rw [h1, k1] at D1
    have q1 : rawEnd R ps = quoted R ⟨#[34]⟩ ps := by unfold rawEnd; rw [if_pos h1]
    have q2 : rawText R ps = R.cs.extract (ps + 1) (scan (inSet ⟨#[34]⟩) R.cs (ps + 1)) := by unfold rawText; rw [if_pos h1]
    rw [q1, q2]
    have hp1 := pre_lt h1 hp (by decide)
    clear h1 k1 q1 q2 D2
    have U := hide (fun w1 (hk : Kept [r] w w1) (h : Rd w1 r R bg (ps + 1)) => quote_rest r R bg ps ⟨#[34]⟩ rfl w w1 hk h hp1 hs)
    generalize R.cs.extract (ps + 1) (scan (inSet ⟨#[34]⟩) R.cs (ps + 1)) = t at *
    generalize quoted R ⟨#[34]⟩ ps = m at *
    go_enter Tryz.func365, Tryz.ntmps365
    go_wp2_with fail
    refine wp_loop_rounds 3 ?_
    rw [rounds_succ, HW.out]
    go_wp2_with fail
    refine D1.out.mono ?_
    rintro e w2 ⟨rfl, hk2, hr2⟩
    have V := hide (U.out w2 ((K0.out.mono (S' := [r]) (by simp)).trans hk2) hr2)
    clear hk2 hr2
    go_wp2_with fail
    refine (oneOf_any _ w2).mono ?_
    rintro e w' ⟨rfl, rfl⟩
    go_wp2_with fail
    refine V.out.mono ?_
    rintro e w3 ⟨rfl, hv⟩
    have HV := hide hv
    clear hv
    go_wp2_with fail
    refine HV.out.mono ?_
    rintro e w4 ⟨⟨b, rfl⟩, hk4, hr4⟩
    have HK4 := hide hk4
    have HR4 := hide hr4
    clear hk4 hr4
    go_wp2
    go_ret
    exact ⟨rfl, HK4.out, HR4.out⟩
end Go.Proofs.YtlhhgenpcjjajaaGreatDoor
namespace Go.Proofs.YtlhhgenpcjjajaaGreatDoor
open Go.RowKit Go.PlainAid
def goOn (s : ByteArray) : Bool := decide (0 < s.size) && (decide (bt s 0 = 61) || decide (97 ≤ bt s 0 ∧ bt s 0 ≤ 122 ∨ 65 ≤ bt s 0 ∧ bt s 0 ≤ 90) || decide (48 ≤ bt s 0 ∧ bt s 0 ≤ 57))
set_option maxRecDepth 100000 in
set_option maxHeartbeats 1000000 in
theorem goesOn_any (s : ByteArray) (w : World) :
    Calls Tryz.prog 315 #[.string s] w fun e w' => e = .returned (.bool (goOn s)) ∧ w' = w := by
  have hbt := get_bt s
  by_cases hz : 0 < s.size
  · have h0 := bt_nonneg s 0
    have h1 := bt_le s 0
    have hb := hbt 0 hz
    have he : s.toList.isEmpty = false := by
      rw [ByteArray.toList_eq]
      cases h : s.data.toList with
      | nil =>
        exfalso
        have e1 : s.data.toList.length = 0 := by rw [h]; rfl
        rw [Array.length_toList] at e1
        have e2 : s.data.size = s.size := rfl
        omega
      | cons => rfl
    have hn2 : ¬ s.toList = [] := by intro h; rw [h] at he; cases he
    have L := hide (letter_any (bt s 0) w h0 h1)
    have D := hide (cdigit_any (bt s 0) w h0 h1)
    have hg : goOn s = (decide (bt s 0 = 61) || decide (97 ≤ bt s 0 ∧ bt s 0 ≤ 122 ∨ 65 ≤ bt s 0 ∧ bt s 0 ≤ 90) || decide (48 ≤ bt s 0 ∧ bt s 0 ≤ 57)) := by unfold goOn; simp [hz]
    rw [hg]
    clear hg
    by_cases a : bt s 0 = 61
    · rw [show decide (bt s 0 = 61) = true from by simp [a]]
      clear L D
      go_enter Tryz.func315, Tryz.ntmps315
      go_wp2
      go_ret
      exact ⟨by simp [he], rfl⟩
    · rw [show decide (bt s 0 = 61) = false from by simp [a]]
      have a2 : (bt s 0 == 61) = false := beq_eq_false_iff_ne.2 a
      clear a
      cases hl : decide (97 ≤ bt s 0 ∧ bt s 0 ≤ 122 ∨ 65 ≤ bt s 0 ∧ bt s 0 ≤ 90)
      · rw [hl] at L
        clear hl
        cases hd : decide (48 ≤ bt s 0 ∧ bt s 0 ≤ 57)
        all_goals
          rw [hd] at D
          clear hd
          go_enter Tryz.func315, Tryz.ntmps315
          go_wp2_with fail
          refine L.out.mono ?_
          rintro e w' ⟨rfl, rfl⟩
          go_wp2_with fail
          refine D.out.mono ?_
          rintro e w' ⟨rfl, rfl⟩
          go_wp2
          go_ret
          exact ⟨by simp [he], rfl⟩
      · rw [hl] at L
        clear hl
        go_enter Tryz.func315, Tryz.ntmps315
        go_wp2_with fail
        refine L.out.mono ?_
        rintro e w' ⟨rfl, rfl⟩
        go_wp2
        go_ret
        exact ⟨by simp [he], rfl⟩
  · have e0 : s = ⟨#[]⟩ := ByteArray.ext (Array.eq_empty_of_size_eq_zero (by have e : s.data.size = s.size := rfl; omega))
    subst e0
    go_enter Tryz.func315, Tryz.ntmps315
    go_wp2
    go_ret
    exact ⟨rfl, rfl⟩
end Go.Proofs.YtlhhgenpcjjajaaGreatDoor
