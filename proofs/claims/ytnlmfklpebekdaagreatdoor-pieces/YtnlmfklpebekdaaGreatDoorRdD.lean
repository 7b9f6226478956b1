import Derived.Test.YtnlmfklpebekdaaGreatDoorRd
set_option linter.unusedSimpArgs false
set_option linter.unusedVariables false
namespace Go.Proofs.YtnlmfklpebekdaaGreatDoor
open Go.RowKit Go.PlainAid

/-- The first place from i on of which q says true, or the end. -/
def scan (q : Int → Bool) (s : ByteArray) (i : Nat) : Nat := if h : i < s.size then (if q (bt s i) then i else scan q s (i + 1)) else i
  termination_by s.size - i
theorem scan_end {q : Int → Bool} {s : ByteArray} {i : Nat} (h : s.size ≤ i) : scan q s i = i := by rw [scan, dif_neg (by omega)]
theorem scan_yes {q : Int → Bool} {s : ByteArray} {i : Nat} (h : q (bt s i) = true) : scan q s i = i := by rw [scan]; split <;> simp_all
theorem scan_no {q : Int → Bool} {s : ByteArray} {i : Nat} (hi : i < s.size) (h : q (bt s i) = false) : scan q s i = scan q s (i + 1) := by rw [scan, dif_pos hi, h]; simp
theorem scan_ge {q : Int → Bool} {s : ByteArray} {i : Nat} : i ≤ scan q s i := by
  fun_induction scan q s i with
  | case1 => omega
  | case2 => omega
  | case3 => omega
theorem scan_le {q : Int → Bool} {s : ByteArray} {i : Nat} (h : i ≤ s.size) : scan q s i ≤ s.size := by
  fun_induction scan q s i with
  | case1 => omega
  | case2 _ _ _ ih => exact ih (by omega)
  | case3 => omega
theorem scan_at {q : Int → Bool} {s : ByteArray} {i : Nat} : scan q s i < s.size → q (bt s (scan q s i)) = true := by
  fun_induction scan q s i with
  | case1 _ _ h => intro _; exact h
  | case2 _ _ _ ih => exact ih
  | case3 _ h => intro h'; exact absurd h' h

/-- The function k, with what it has captured, answers q, and leaves the world alone. -/
structure Asks (w : World) (S : List Nat) (k : Nat) (caps : Array Value) (q : Int → Bool) : Prop where
  ent : ∀ (args : Array Value) (w : World), (callFunc k args).run Tryz.prog w = .ok (.enter k args) w
  ask : ∀ (c : Int) (w' : World), 0 ≤ c → c ≤ 255 → Kept S w w' → Calls Tryz.prog k (#[.int .u8 c] ++ caps) w' fun e w'' => e = .returned (.bool (q c)) ∧ ∃ n, w'' = w'.drewN n

set_option maxRecDepth 100000 in
set_option maxHeartbeats 1000000 in
theorem upTo_any (r : Nat) (R : RC) (bg ps : Nat) (k : Nat) (caps : Array Value) (q : Int → Bool) (w : World) (h : Rd w r R bg ps) (hp : ps ≤ R.cs.size) (hs : R.cs.size ≤ 1024) (hq : Asks w [r] k caps q) :
    Calls Tryz.prog 73 #[.pointer (some ⟨r, 0, none⟩), .func (.func k) #[] caps] w fun e w' => e = .returned (.string (R.cs.extract ps (scan q R.cs ps))) ∧ Kept [r] w w' ∧ Rd w' r R bg (scan q R.cs ps) := by
  have HQ := hide hq
  have p0 := h.ps
  have H := hide h
  clear h hq
  have hbt := get_bt R.cs
  have hent := HQ.out.ent
  go_enter Tryz.func73, Tryz.ntmps73
  go_wp2_with fail
  clear p0
  go_loopw [] (fun wr => ∃ i : Nat, ps ≤ i ∧ i ≤ R.cs.size ∧ scan q R.cs i = scan q R.cs ps ∧ Rd wr r R bg i ∧ Kept [r] w wr) (fun wr => R.cs.size - (match wr.cell? ⟨r, 3, none⟩ with | some v => (intOf v).toNat | none => 0))
  case atStart => exact ⟨ps, Nat.le_refl _, hp, rfl, H.out, Kept.refl _ _⟩
  case round =>
    obtain ⟨i, hi0, hi1, hsc, hrd, hkw⟩ := hrel
    have HR := hide hrd
    have HKW := hide hkw
    have t := hrd.text
    have p := hrd.ps
    have fz := hrd.free 3
    clear hrd hkw
    by_cases e : i = R.cs.size
    · have C := hide (fun w' (h : Rd w' r R bg i) => atEnd_any r R bg i w' h)
      have e2 : scan q R.cs ps = i := by rw [← hsc]; exact scan_end (by omega)
      have e3 : decide (i = R.cs.size) = true := by simp [e]
      rw [e2]
      rw [e3] at C
      go_wp2_with fail
      go_quiet ((go_at_call 48; refine Calls.quiet_of (C.out _ ?_); exact HR.out))
      go_wp2_with fail
      go_quiet (fail)
      go_wp2
      go_ret
      exact ⟨by rw [e2, e]; rfl, ((HKW.out.drewN _).drewN _), by rw [e2]; exact HR.out⟩
    · have hlt : i < R.cs.size := by omega
      have C := hide (fun w' (h : Rd w' r R bg i) => atEnd_any r R bg i w' h)
      have e3 : decide (i = R.cs.size) = false := by simp [e]
      rw [e3] at C
      have hb := hbt i hlt
      have h0 := bt_nonneg R.cs i
      have h1 := bt_le R.cs i
      by_cases hqv : q (bt R.cs i) = true
      · have e2 : scan q R.cs ps = i := by rw [← hsc]; exact scan_yes hqv
        rw [e2]
        have D := hide (fun w' h => HQ.out.ask (bt R.cs i) w' h0 h1 h)
        rw [hqv] at D
        go_wp2_with fail
        go_quiet (first | (go_at_call 48; refine Calls.quiet_of (C.out _ ?_); exact HR.out) | (refine Calls.quiet_of (D.out _ ?_); exact HKW.out.drewN _))
        go_wp2_with fail
        go_quiet (fail)
        go_wp2
        go_ret
        exact ⟨by rw [e2]; rfl, ((HKW.out.drewN _).drewN _), by rw [e2]; exact HR.out⟩
      · have hqf : q (bt R.cs i) = false := by simpa using hqv
        have e2 : scan q R.cs (i + 1) = scan q R.cs ps := by rw [← hsc, scan_no hlt hqf]
        have D := hide (fun w' h => HQ.out.ask (bt R.cs i) w' h0 h1 h)
        rw [hqf] at D
        have HS := hide e2
        clear e2 hsc hqv hqf
        go_wp2_with fail
        go_quiet (first | (go_at_call 48; refine Calls.quiet_of (C.out _ ?_); exact HR.out) | (refine Calls.quiet_of (D.out _ ?_); exact HKW.out.drewN _))
        have HRN := hide (Rd.setPs (w := wr.drewN nq) HR.out (i + 1))
        have HKN := hide ((HKW.out.drewN nq).setCell (p := ⟨r, 3, none⟩) (.inl (by simp)) (.int .i64 ((i + 1 : Nat) : Int)))
        go_wp2
        go_roundw
        case rel => exact ⟨i + 1, by omega, by omega, HS.out, HRN.out, HKN.out⟩
        case measure =>
          have m1 := HRN.out.ps
          rw [show ((i : Int) + 1) = ((i + 1 : Nat) : Int) from by omega, m1, p]
          simp [intOf]; omega
end Go.Proofs.YtnlmfklpebekdaaGreatDoor
