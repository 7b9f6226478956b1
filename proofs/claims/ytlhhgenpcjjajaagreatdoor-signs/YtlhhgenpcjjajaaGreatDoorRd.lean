import Derived.Test.YtlhhgenpcjjajaaGreatDoorBdR
import Derived.Deep.QuietTactic
import Derived.BigQuiet
import Derived.PlainAid
import Derived.Test.YtlhhgenpcjjajaaGreatDoorShelf
import Derived.Lib.IndexAny
import Derived.BigRegion
import Derived.Test.YtlhhgenpcjjajaaGreatDoorLsE
import Derived.Deep.RegionWith
import Derived.Deep.CutRange
set_option linter.unusedSimpArgs false
set_option linter.unusedVariables false
namespace Go.Proofs.YtlhhgenpcjjajaaGreatDoor
open Go.RowKit Go.PlainAid
structure RC where
  cs : ByteArray
  av : Value
  at_ : Int
  mv : Value
  lg : Int
  ofT : ByteArray := ⟨#[]⟩
  plT : Bool := false
def rcells (R : RC) (bg ps : Nat) : Array Value := #[.string R.cs, R.av, .int .i64 (bg : Int), .int .i64 (ps : Int), .int .i64 R.at_, R.mv, .int .i64 R.lg, .string R.ofT, .bool R.plT]
def Rd (w : World) (r : Nat) (R : RC) (bg ps : Nat) : Prop := w.heap[r]? = some (.cells (rcells R bg ps) 165 (0, 0))
theorem Rd.text {w : World} {r : Nat} {R : RC} {bg ps : Nat} (h : Rd w r R bg ps) : w.cell? ⟨r, 0, none⟩ = some (.string R.cs) := by rw [cell_at h]; rfl
theorem Rd.ats {w : World} {r : Nat} {R : RC} {bg ps : Nat} (h : Rd w r R bg ps) : w.cell? ⟨r, 1, none⟩ = some R.av := by rw [cell_at h]; rfl
theorem Rd.bg {w : World} {r : Nat} {R : RC} {bg ps : Nat} (h : Rd w r R bg ps) : w.cell? ⟨r, 2, none⟩ = some (.int .i64 (bg : Int)) := by rw [cell_at h]; rfl
theorem Rd.ps {w : World} {r : Nat} {R : RC} {bg ps : Nat} (h : Rd w r R bg ps) : w.cell? ⟨r, 3, none⟩ = some (.int .i64 (ps : Int)) := by rw [cell_at h]; rfl
theorem Rd.mv {w : World} {r : Nat} {R : RC} {bg ps : Nat} (h : Rd w r R bg ps) : w.cell? ⟨r, 5, none⟩ = some R.mv := by rw [cell_at h]; rfl
theorem Rd.lg {w : World} {r : Nat} {R : RC} {bg ps : Nat} (h : Rd w r R bg ps) : w.cell? ⟨r, 6, none⟩ = some (.int .i64 R.lg) := by rw [cell_at h]; rfl
theorem Rd.ofT {w : World} {r : Nat} {R : RC} {bg ps : Nat} (h : Rd w r R bg ps) : w.cell? ⟨r, 7, none⟩ = some (.string R.ofT) := by rw [cell_at h]; rfl
theorem Rd.plT {w : World} {r : Nat} {R : RC} {bg ps : Nat} (h : Rd w r R bg ps) : w.cell? ⟨r, 8, none⟩ = some (.bool R.plT) := by rw [cell_at h]; rfl
theorem Rd.free {w : World} {r : Nat} {R : RC} {bg ps : Nat} (h : Rd w r R bg ps) (j : Nat) : w.frozen? ⟨r, j, none⟩ = false := by unfold Rd at h; simp [World.frozen?, h]
theorem Rd.setPs {w : World} {r : Nat} {R : RC} {bg ps : Nat} (h : Rd w r R bg ps) (ps' : Nat) : Rd (w.setCell ⟨r, 3, none⟩ (.int .i64 (ps' : Int))) r R bg ps' := block_setCell h 3 _
theorem Rd.setBg {w : World} {r : Nat} {R : RC} {bg ps : Nat} (h : Rd w r R bg ps) (bg' : Nat) : Rd (w.setCell ⟨r, 2, none⟩ (.int .i64 (bg' : Int))) r R bg' ps := block_setCell h 2 _
theorem Rd.kept {w w' : World} {r : Nat} {R : RC} {bg ps : Nat} {S : List Nat} (h : Rd w r R bg ps) (hk : Kept S w w') (hs : r ∉ S) : Rd w' r R bg ps := hk.at h hs
set_option maxRecDepth 100000 in
set_option maxHeartbeats 400000 in
theorem atEnd_any (r : Nat) (R : RC) (bg ps : Nat) (w : World) (h : Rd w r R bg ps) :
    Calls Tryz.prog 87 #[.pointer (some ⟨r, 0, none⟩)] w fun e w' => e = .returned (.bool (decide (ps = R.cs.size))) ∧ ∃ q, w' = w.drewN q := by
  have t := h.text
  have p := h.ps
  clear h
  generalize R.cs = s at t
  by_cases e : ps = s.size
  · subst e
    go_enter Tryz.func87, Tryz.ntmps87
    go_wp2_with fail
    go_quiet (fail)
    go_wp2
    go_ret
    exact ⟨by simp, ⟨_, rfl⟩⟩
  · have e' : ((ps : Int) == (s.size : Int)) = false := beq_eq_false_iff_ne.2 (by omega)
    go_enter Tryz.func87, Tryz.ntmps87
    go_wp2_with fail
    go_quiet (fail)
    go_wp2
    go_ret
    exact ⟨by simp [e], ⟨_, rfl⟩⟩
set_option maxRecDepth 100000 in
set_option maxHeartbeats 400000 in
theorem rest_any (r : Nat) (R : RC) (bg ps : Nat) (w : World) (h : Rd w r R bg ps) (hp : ps ≤ R.cs.size) (_hs : R.cs.size ≤ 1024) :
    Calls Tryz.prog 160 #[.pointer (some ⟨r, 0, none⟩)] w fun e w' => e = .returned (.string (R.cs.extract ps R.cs.size)) ∧ ∃ q, w' = w.drewN q := by
  have t := h.text
  have p := h.ps
  clear h
  generalize R.cs = s at *
  go_enter Tryz.func160, Tryz.ntmps160
  go_wp2_with fail
  go_quiet (fail)
  go_wp2
  go_ret
  exact ⟨rfl, ⟨_, rfl⟩⟩
theorem letter_any (c : Int) (w : World) (h0 : 0 ≤ c) (h1 : c ≤ 255) :
    Calls Tryz.prog 162 #[.int .u8 c] w fun e w' => e = .returned (.bool (decide (97 ≤ c ∧ c ≤ 122 ∨ 65 ≤ c ∧ c ≤ 90))) ∧ w' = w := by
  by_cases a1 : 97 ≤ c <;> by_cases a2 : c ≤ 122 <;> by_cases a3 : 65 ≤ c <;> by_cases a4 : c ≤ 90
  all_goals first | (exfalso; omega) | skip
  all_goals (go_enter Tryz.func162, Tryz.ntmps162; go_wp2; go_ret; exact ⟨by first | (simp; done) | (simp; omega), rfl⟩)
end Go.Proofs.YtlhhgenpcjjajaaGreatDoor
namespace Go.Proofs.YtlhhgenpcjjajaaGreatDoor
open Go.RowKit Go.PlainAid
def pre (s p : ByteArray) : Bool := decide (p.size ≤ s.size) && ((s.extract 0 p.size).toList == p.toList)
set_option maxRecDepth 100000 in
set_option maxHeartbeats 400000 in
theorem lite_hasPrefix (s p : ByteArray) (w : World) (hs : s.size ≤ 1048576) (hp : p.size ≤ 1048576) :
    Calls Tryz.prog 252 #[.string s, .string p] w fun e w' => e = .returned (.bool (pre s p)) ∧ w' = w := by
  by_cases h : p.size ≤ s.size
  · go_enter Tryz.func252, Tryz.ntmps252
    go_wp2
    go_ret
    exact ⟨by simp [pre, h], rfl⟩
  · go_enter Tryz.func252, Tryz.ntmps252
    go_wp2
    go_ret
    exact ⟨by simp [pre, h], rfl⟩
end Go.Proofs.YtlhhgenpcjjajaaGreatDoor
namespace Go.Proofs.YtlhhgenpcjjajaaGreatDoor
open Go.RowKit Go.PlainAid
set_option maxRecDepth 100000 in
set_option maxHeartbeats 400000 in
theorem hasPrefix_any (s p : ByteArray) (w : World) (hs : s.size ≤ 1048576) (hp : p.size ≤ 1048576) :
    Calls Tryz.prog 159 #[.string s, .string p] w fun e w' => e = .returned (.bool (pre s p)) ∧ w' = w := by
  go_enter Tryz.func159, Tryz.ntmps159
  go_wp2_with fail
  refine (lite_hasPrefix s p w hs hp).mono ?_
  rintro e w' ⟨rfl, rfl⟩
  go_wp2
  go_ret
  exact ⟨rfl, rfl⟩
theorem pre_le {s p : ByteArray} (h : pre s p = true) : p.size ≤ s.size := by
  unfold pre at h; simp at h; exact h.1
theorem pre_rest {s p : ByteArray} {ps : Nat} (h : pre (s.extract ps s.size) p = true) (hp : ps ≤ s.size) : ps + p.size ≤ s.size := by
  have := pre_le h; simp at this; omega
def taken (R : RC) (p : ByteArray) (ps : Nat) : Nat := if pre (R.cs.extract ps R.cs.size) p = true then ps + p.size else ps
theorem taken_le {R : RC} {p : ByteArray} {ps : Nat} (h : ps ≤ R.cs.size) : taken R p ps ≤ R.cs.size := by
  unfold taken; split
  · rename_i h'; exact pre_rest h' h
  · exact h
theorem taken_ge {R : RC} {p : ByteArray} {ps : Nat} : ps ≤ taken R p ps := by unfold taken; split <;> omega
set_option maxRecDepth 100000 in
set_option maxHeartbeats 400000 in
theorem take_any (r : Nat) (R : RC) (bg ps : Nat) (s : ByteArray) (w : World) (h : Rd w r R bg ps) (hp : ps ≤ R.cs.size) (hs : R.cs.size ≤ 1024) (hss : s.size ≤ 1024) :
    Calls Tryz.prog 91 #[.pointer (some ⟨r, 0, none⟩), .string s] w fun e w' => e = .returned (.bool (pre (R.cs.extract ps R.cs.size) s)) ∧ Kept [r] w w' ∧ Rd w' r R bg (taken R s ps) := by
  have H := hide h
  clear h
  by_cases e : pre (R.cs.extract ps R.cs.size) s = true
  · have hle := pre_rest e hp
    have htk : taken R s ps = ps + s.size := by unfold taken; rw [if_pos e]
    rw [htk]
    clear htk
    go_enter Tryz.func91, Tryz.ntmps91
    go_wp2_with fail
    refine (rest_any r R bg ps w H.out hp hs).mono ?_
    rintro e w' ⟨rfl, q, rfl⟩
    go_wp2_with fail
    refine (hasPrefix_any _ s _ (by simp; omega) (by omega)).mono ?_
    rintro e w' ⟨rfl, rfl⟩
    have p : (w.drewN q).cell? ⟨r, 3, none⟩ = some (.int .i64 (ps : Int)) := H.out.ps
    have fz := H.out.free 3
    have HK : Hid (Kept [r] w ((w.drewN q).setCell ⟨r, 3, none⟩ (.int .i64 ((ps + s.size : Nat) : Int)))) := ((Kept.refl [r] w).drewN q).setCell (.inl (by simp)) _
    have HR : Hid (Rd ((w.drewN q).setCell ⟨r, 3, none⟩ (.int .i64 ((ps + s.size : Nat) : Int))) r R bg (ps + s.size)) := Rd.setPs (w := w.drewN q) H.out _
    rw [e]
    go_wp2
    go_ret
    exact ⟨by rw [e]; rfl, HK.out, HR.out⟩
  · have htk : taken R s ps = ps := by unfold taken; rw [if_neg e]
    rw [htk]
    have e' : pre (R.cs.extract ps R.cs.size) s = false := by simpa using e
    clear htk e
    go_enter Tryz.func91, Tryz.ntmps91
    go_wp2_with fail
    refine (rest_any r R bg ps w H.out hp hs).mono ?_
    rintro e w' ⟨rfl, q, rfl⟩
    go_wp2_with fail
    refine (hasPrefix_any _ s _ (by simp; omega) (by omega)).mono ?_
    rintro e w' ⟨rfl, rfl⟩
    rw [e']
    go_wp2
    go_ret
    exact ⟨by rw [e']; rfl, (Kept.refl [r] w).drewN q, H.out⟩
end Go.Proofs.YtlhhgenpcjjajaaGreatDoor
namespace Go.Proofs.YtlhhgenpcjjajaaGreatDoor
open Go.RowKit Go.PlainAid
def scan (q : Int → Bool) (s : ByteArray) (i : Nat) : Nat := if h : i < s.size then (if q (bt s i) then i else scan q s (i + 1)) else i
  termination_by s.size - i
theorem scan_end {q : Int → Bool} {s : ByteArray} {i : Nat} (h : s.size ≤ i) : scan q s i = i := by rw [scan, dif_neg (by omega)]
theorem scan_yes {q : Int → Bool} {s : ByteArray} {i : Nat} (h : q (bt s i) = true) : scan q s i = i := by rw [scan]; split <;> simp_all
theorem scan_no {q : Int → Bool} {s : ByteArray} {i : Nat} (hi : i < s.size) (h : q (bt s i) = false) : scan q s i = scan q s (i + 1) := by rw [scan, dif_pos hi, h]; simp
theorem scan_ge {q : Int → Bool} {s : ByteArray} {i : Nat} : i ≤ scan q s i := by
  fun_induction scan q s i with
  | case1 => omega
  | case2 => omega
  | case3 => omega
theorem scan_le {q : Int → Bool} {s : ByteArray} {i : Nat} (h : i ≤ s.size) : scan q s i ≤ s.size := by
  fun_induction scan q s i with
  | case1 => omega
  | case2 _ _ _ ih => exact ih (by omega)
  | case3 => omega
structure Asks (w : World) (S : List Nat) (k : Nat) (caps : Array Value) (q : Int → Bool) : Prop where
  ent : ∀ (args : Array Value) (w : World), (callFunc k args).run Tryz.prog w = .ok (.enter k args) w
  ask : ∀ (c : Int) (w' : World), 0 ≤ c → c ≤ 255 → Kept S w w' → Calls Tryz.prog k (#[.int .u8 c] ++ caps) w' fun e w'' => e = .returned (.bool (q c)) ∧ ∃ n, w'' = w'.drewN n
set_option maxRecDepth 100000 in
set_option maxHeartbeats 1000000 in
theorem upTo_any (r : Nat) (R : RC) (bg ps : Nat) (k : Nat) (caps : Array Value) (q : Int → Bool) (w : World) (h : Rd w r R bg ps) (hp : ps ≤ R.cs.size) (hs : R.cs.size ≤ 1024) (hq : Asks w [r] k caps q) :
    Calls Tryz.prog 258 #[.pointer (some ⟨r, 0, none⟩), .func (.func k) #[] caps] w fun e w' => e = .returned (.string (R.cs.extract ps (scan q R.cs ps))) ∧ Kept [r] w w' ∧ Rd w' r R bg (scan q R.cs ps) := by
  have HQ := hide hq
  have p0 := h.ps
  have H := hide h
  clear h hq
  have hbt := get_bt R.cs
  have hent := HQ.out.ent
  go_enter Tryz.func258, Tryz.ntmps258
  go_wp2_with fail
  clear p0
  go_loopw [] (fun wr => ∃ i : Nat, ps ≤ i ∧ i ≤ R.cs.size ∧ scan q R.cs i = scan q R.cs ps ∧ Rd wr r R bg i ∧ Kept [r] w wr) (fun wr => R.cs.size - (match wr.cell? ⟨r, 3, none⟩ with | some v => (intOf v).toNat | none => 0))
  case atStart => exact ⟨ps, Nat.le_refl _, hp, rfl, H.out, Kept.refl _ _⟩
  case round =>
    obtain ⟨i, hi0, hi1, hsc, hrd, hkw⟩ := hrel
    have HR := hide hrd
    have HKW := hide hkw
    have t := hrd.text
    have p := hrd.ps
    have fz := hrd.free 3
    clear hrd hkw
    by_cases e : i = R.cs.size
    · have C := hide (fun w' (h : Rd w' r R bg i) => atEnd_any r R bg i w' h)
      have e2 : scan q R.cs ps = i := by rw [← hsc]; exact scan_end (by omega)
      have e3 : decide (i = R.cs.size) = true := by simp [e]
      rw [e2]
      rw [e3] at C
      go_wp2_with fail
      go_quiet ((go_at_call 87; refine Calls.quiet_of (C.out _ ?_); exact HR.out))
      go_wp2_with fail
      go_quiet (fail)
      go_wp2
      go_ret
      exact ⟨by rw [e2, e]; rfl, ((HKW.out.drewN _).drewN _), by rw [e2]; exact HR.out⟩
    · have hlt : i < R.cs.size := by omega
      have C := hide (fun w' (h : Rd w' r R bg i) => atEnd_any r R bg i w' h)
      have e3 : decide (i = R.cs.size) = false := by simp [e]
      rw [e3] at C
      have hb := hbt i hlt
      have h0 := bt_nonneg R.cs i
      have h1 := bt_le R.cs i
      by_cases hqv : q (bt R.cs i) = true
      · have e2 : scan q R.cs ps = i := by rw [← hsc]; exact scan_yes hqv
        rw [e2]
        have D := hide (fun w' h => HQ.out.ask (bt R.cs i) w' h0 h1 h)
        rw [hqv] at D
        go_wp2_with fail
        go_quiet (first | (go_at_call 87; refine Calls.quiet_of (C.out _ ?_); exact HR.out) | (refine Calls.quiet_of (D.out _ ?_); exact HKW.out.drewN _))
        go_wp2_with fail
        go_quiet (fail)
        go_wp2
        go_ret
        exact ⟨by rw [e2]; rfl, ((HKW.out.drewN _).drewN _), by rw [e2]; exact HR.out⟩
      · have hqf : q (bt R.cs i) = false := by simpa using hqv
        have e2 : scan q R.cs (i + 1) = scan q R.cs ps := by rw [← hsc, scan_no hlt hqf]
        have D := hide (fun w' h => HQ.out.ask (bt R.cs i) w' h0 h1 h)
        rw [hqf] at D
        have HS := hide e2
        clear e2 hsc hqv hqf
        go_wp2_with fail
        go_quiet (first | (go_at_call 87; refine Calls.quiet_of (C.out _ ?_); exact HR.out) | (refine Calls.quiet_of (D.out _ ?_); exact HKW.out.drewN _))
        have HRN := hide (Rd.setPs (w := wr.drewN nq) HR.out (i + 1))
        have HKN := hide ((HKW.out.drewN nq).setCell (p := ⟨r, 3, none⟩) (.inl (by simp)) (.int .i64 ((i + 1 : Nat) : Int)))
        go_wp2
        go_roundw
        case rel => exact ⟨i + 1, by omega, by omega, HS.out, HRN.out, HKN.out⟩
        case measure =>
          have m1 := HRN.out.ps
          rw [show ((i : Int) + 1) = ((i + 1 : Nat) : Int) from by omega, m1, p]
          simp [intOf]; omega
end Go.Proofs.YtlhhgenpcjjajaaGreatDoor
namespace Go.Proofs.YtlhhgenpcjjajaaGreatDoor
open Go.RowKit Go.PlainAid
def inSet (s : ByteArray) (c : Int) : Bool := decide (0 ≤ Lib.indexByte s.data.toList c.toNat.toUInt8)
theorem inSet_eq (s : ByteArray) (c : Int) : inSet s c = s.data.toList.contains c.toNat.toUInt8 := by rw [Lib.contains_iff_indexByte]; rfl
set_option maxRecDepth 100000 in
set_option maxHeartbeats 400000 in
theorem oneOf1_any (b : Nat) (s : ByteArray) (c : Int) (w : World) (h : w.cell? ⟨b, 0, none⟩ = some (.string s)) :
    Calls Tryz.prog 260 #[.int .u8 c, .pointer (some ⟨b, 0, none⟩)] w fun e w' => e = .returned (.bool (inSet s c)) ∧ w' = w := by
  have C := hide (Tryz.strings_IndexByte s c w)
  go_enter Tryz.func260, Tryz.ntmps260
  go_wp2_with fail
  refine C.out.mono ?_
  rintro e w' ⟨rfl, rfl⟩
  generalize hx : Lib.indexByte s.data.toList c.toNat.toUInt8 = x
  have hin : inSet s c = decide (0 ≤ x) := by unfold inSet; rw [hx]
  have Hin := hide hin
  clear hin hx
  by_cases e : 0 ≤ x
  · go_wp2
    go_ret
    exact ⟨by rw [Hin.out]; simp [e], rfl⟩
  · go_wp2
    go_ret
    exact ⟨by rw [Hin.out]; simp [e], rfl⟩
theorem asks_oneOf (w : World) (S : List Nat) (b : Nat) (s : ByteArray) (h : w.cell? ⟨b, 0, none⟩ = some (.string s)) (hb : b < w.heap.size) (hS : b ∉ S) : Asks w S 260 #[.pointer (some ⟨b, 0, none⟩)] (inSet s) where
  ent := enters_of Tryz.func260 (by kernel_rfl) rfl
  ask c w' _ _ hk := (oneOf1_any b s c w' ((hk.cell (p := ⟨b, 0, none⟩) hb hS).trans h)).mono fun e w'' ⟨h1, h2⟩ => ⟨h1, 0, h2⟩
set_option maxRecDepth 100000 in
set_option maxHeartbeats 400000 in
theorem oneOf_any (s : ByteArray) (w : World) :
    Calls Tryz.prog 168 #[.string s] w fun e w' => e = .returned (.func (.func 260) #[] #[.pointer (some ⟨w.heap.size, 0, none⟩)]) ∧ w' = w.alloc (.cells #[.string s] 9) := by
  have hmf : ∀ (fn : Fn) (first cap : Array Value) (w : World), (Instr.makeFunc fn first cap).run Tryz.prog w = .ok (.func fn first cap) w := fun _ _ _ _ => rfl
  go_enter Tryz.func168, Tryz.ntmps168
  go_wp2
  go_ret
  exact ⟨rfl, rfl⟩
theorem letter_asks (w : World) (S : List Nat) : Asks w S 162 #[] (fun c => decide (97 ≤ c ∧ c ≤ 122 ∨ 65 ≤ c ∧ c ≤ 90)) where
  ent := enters_of Tryz.func162 (by kernel_rfl) rfl
  ask c w' h0 h1 _ := (letter_any c w' h0 h1).mono fun e w'' ⟨h1, h2⟩ => ⟨h1, 0, h2⟩
set_option maxRecDepth 100000 in
set_option maxHeartbeats 400000 in
theorem not1_any (b b2 : Nat) (s : ByteArray) (c : Int) (w : World) (h : w.cell? ⟨b, 0, none⟩ = some (.string s)) (h2 : w.cell? ⟨b2, 0, none⟩ = some (.func (.func 260) #[] #[.pointer (some ⟨b, 0, none⟩)])) :
    Calls Tryz.prog 341 #[.int .u8 c, .pointer (some ⟨b2, 0, none⟩)] w fun e w' => e = .returned (.bool (!inSet s c)) ∧ w' = w := by
  have C := hide (oneOf1_any b s c w h)
  clear h
  generalize inSet s c = x at C ⊢
  go_enter Tryz.func341, Tryz.ntmps341
  go_wp2_with fail
  refine C.out.mono ?_
  rintro e w' ⟨rfl, rfl⟩
  cases x
  · go_wp2
    go_ret
    exact ⟨rfl, rfl⟩
  · go_wp2
    go_ret
    exact ⟨rfl, rfl⟩
theorem asks_not (w : World) (S : List Nat) (b b2 : Nat) (s : ByteArray) (h : w.cell? ⟨b, 0, none⟩ = some (.string s)) (h2 : w.cell? ⟨b2, 0, none⟩ = some (.func (.func 260) #[] #[.pointer (some ⟨b, 0, none⟩)])) (hb : b < w.heap.size) (hS : b ∉ S) (hb2 : b2 < w.heap.size) (hS2 : b2 ∉ S) : Asks w S 341 #[.pointer (some ⟨b2, 0, none⟩)] (fun c => !inSet s c) where
  ent := enters_of Tryz.func341 (by kernel_rfl) rfl
  ask c w' _ _ hk := (not1_any b b2 s c w' ((hk.cell (p := ⟨b, 0, none⟩) hb hS).trans h) ((hk.cell (p := ⟨b2, 0, none⟩) hb2 hS2).trans h2)).mono fun e w'' ⟨h1, h2⟩ => ⟨h1, 0, h2⟩
set_option maxRecDepth 100000 in
set_option maxHeartbeats 400000 in
theorem not_any (f : Fn) (x y : Array Value) (w : World) :
    Calls Tryz.prog 304 #[.func f x y] w fun e w' => e = .returned (.func (.func 341) #[] #[.pointer (some ⟨w.heap.size, 0, none⟩)]) ∧ w' = w.alloc (.cells #[.func f x y] 224) := by
  have hmf : ∀ (fn : Fn) (first cap : Array Value) (w : World), (Instr.makeFunc fn first cap).run Tryz.prog w = .ok (.func fn first cap) w := fun _ _ _ _ => rfl
  go_enter Tryz.func304, Tryz.ntmps304
  go_wp2
  go_ret
  exact ⟨rfl, rfl⟩
set_option maxRecDepth 100000 in
set_option maxHeartbeats 400000 in
theorem passOver_any (r : Nat) (R : RC) (bg ps : Nat) (s : ByteArray) (w : World) (h : Rd w r R bg ps) (hp : ps ≤ R.cs.size) (hs : R.cs.size ≤ 1024) :
    Calls Tryz.prog 256 #[.pointer (some ⟨r, 0, none⟩), .string s] w fun e w' => e = .returned (.tuple #[]) ∧ Kept [r] w w' ∧ Rd w' r R bg (scan (fun c => !inSet s c) R.cs ps) := by
  have hr := lt_of_block h
  have H := hide h
  clear h
  obtain ⟨w1, hw1⟩ : ∃ w1, w1 = w.alloc (.cells #[.string s] 9) := ⟨_, rfl⟩
  obtain ⟨w2, hw2⟩ : ∃ w2, w2 = w1.alloc (.cells #[.func (.func 260) #[] #[.pointer (some ⟨w.heap.size, 0, none⟩)]] 224) := ⟨_, rfl⟩
  have z1 : w1.heap.size = w.heap.size + 1 := by rw [hw1]; simp
  have z2 : w2.heap.size = w.heap.size + 2 := by rw [hw2]; simp [z1]
  have b1 : w1.heap[w.heap.size]? = some (.cells #[.string s] 9 (0, 0)) := by rw [hw1]; exact heap_alloc_at w _
  have k1 : Kept [r] w w1 := by rw [hw1]; exact (Kept.refl _ _).alloc _
  have k12 : Kept [] w1 w2 := by rw [hw2]; exact (Kept.refl _ _).alloc _
  have b2 : w2.heap[w1.heap.size]? = some (.cells #[.func (.func 260) #[] #[.pointer (some ⟨w.heap.size, 0, none⟩)]] 224 (0, 0)) := by rw [hw2]; exact heap_alloc_at w1 _
  have b1' := k12.at b1 (by simp)
  have hR2 : Rd w2 r R bg ps := by rw [hw2, hw1]; exact (((Kept.refl [] w).alloc _).alloc _).at H.out (by simp)
  have hk2 : Kept [r] w w2 := k1.trans (k12.mono (by simp))
  have hA : Asks w2 [r] 341 #[.pointer (some ⟨w1.heap.size, 0, none⟩)] (fun c => !inSet s c) :=
    asks_not w2 [r] w.heap.size w1.heap.size s (by rw [cell_at b1']; rfl) (by rw [cell_at b2]; rfl) (by omega) (by simp; omega) (by omega) (by simp; omega)
  have C := hide (upTo_any r R bg ps _ _ _ w2 hR2 hp hs hA)
  have HK := hide hk2
  have HW1 := hide hw1
  have HW2 := hide hw2
  clear hA hk2 hR2 b1' b2 k12 k1 b1 z1 z2 hw1 hw2
  go_enter Tryz.func256, Tryz.ntmps256
  go_wp2_with fail
  refine (oneOf_any s w).mono ?_
  rintro e w' ⟨rfl, rfl⟩
  rw [← HW1.out]
  go_wp2_with fail
  refine (not_any _ _ _ w1).mono ?_
  rintro e w' ⟨rfl, rfl⟩
  rw [← HW2.out]
  go_wp2_with fail
  refine C.out.mono ?_
  rintro e w3 ⟨rfl, hk3, hr3⟩
  have HK3 := hide (HK.out.trans hk3)
  have HR3 := hide hr3
  clear hk3 hr3
  go_wp2
  go_end0
  exact ⟨rfl, HK3.out, HR3.out⟩
end Go.Proofs.YtlhhgenpcjjajaaGreatDoor
namespace Go.Proofs.YtlhhgenpcjjajaaGreatDoor
open Go.RowKit Go.PlainAid
structure Ats (w : World) (r : Nat) (R : RC) (g cap : Nat) (cut : Nat → Nat) : Prop where
  av : R.av = .slice (some ⟨g, 0, none⟩) (R.cs.size + 1) cap
  ne : g ≠ r
  lt : g < w.heap.size
  at_ : ∀ i, i ≤ R.cs.size → w.cell? ⟨g, i, none⟩ = some (.int .i64 (cut i : Int))
theorem Ats.kept {w w' : World} {r : Nat} {R : RC} {g cap : Nat} {cut : Nat → Nat} (h : Ats w r R g cap cut) (hk : Kept [r] w w') : Ats w' r R g cap cut :=
  ⟨h.av, h.ne, Nat.lt_of_lt_of_le h.lt hk.size, fun i hi => (hk.cell (p := ⟨g, i, none⟩) h.lt (by simp [h.ne])).trans (h.at_ i hi)⟩
set_option maxRecDepth 100000 in
set_option maxHeartbeats 1000000 in
theorem place_any (r : Nat) (R : RC) (bg ps g cap : Nat) (cut : Nat → Nat) (w : World) (h : Rd w r R bg ps) (hA : Ats w r R g cap cut) (hb : bg ≤ R.cs.size) (hp : ps ≤ R.cs.size) (hs : R.cs.size ≤ 1024) :
    Calls Tryz.prog 88 #[.pointer (some ⟨r, 0, none⟩)] w fun e w' => e = .returned (.agg #[.int .i64 (cut bg : Int), .int .i64 (cut ps : Int)]) ∧ Kept [] w w' := by
  have a := h.ats
  rw [hA.av] at a
  have p := h.ps
  have b := h.bg
  have c1 := hA.at_ bg hb
  have c2 := hA.at_ ps hp
  have hr := lt_of_block h
  have hg := hA.lt
  clear h hA
  generalize R.cs.size = n at *
  generalize cut bg = x at *
  generalize cut ps = y at *
  go_enter Tryz.func88, Tryz.ntmps88
  go_wp2_with fail
  go_region
  all_goals (try go_wp2)
  refine bodyPost_ret (v := .agg #[.int .i64 (x : Int), .int .i64 (y : Int)]) ?_ rfl ⟨rfl, ((Kept.refl [] w).alloc _).drew⟩
  simp [results, Tryz.results88, asAddr, Result.andThen, go_sem]
end Go.Proofs.YtlhhgenpcjjajaaGreatDoor
namespace Go.Proofs.YtlhhgenpcjjajaaGreatDoor
open Go.RowKit Go.PlainAid
structure BareI (r : Nat) (R : RC) (bg : Nat) (cut : Nat → Nat) (w W0 : World) (b0 b1 b2 b3 b4 b5 b6 b7 b8 b9 b10 b11 b12 b13 b14 b15 b16 : Bool) (s11 s12 s13 s14 s15 s16 s17 s18 s19 s20 s21 s22 s23 s24 s25 s26 : Value) (W : World) : Prop where
  f0 : b0 = true → s11 = .pointer (some ⟨r, 0, none⟩)
  f1 : b1 = true → s12 = .agg #[.int .i64 (cut bg : Int), .int .i64 (cut (bg + 1) : Int)]
  f2 : b2 = true → s13 = .pointer (some ⟨r, 0, none⟩)
  f3 : b3 = true → s14 = .pointer (some ⟨r, 0, none⟩)
  f4 : b4 = true → s15 = .pointer (some ⟨r, 0, none⟩)
  f5 : b5 = true → s16 = .string R.cs
  f6 : b6 = true → s17 = .pointer (some ⟨r, 0, none⟩)
  f7 : b7 = true → s18 = .pointer (some ⟨r, 0, none⟩)
  f8 : b8 = true → s19 = .pointer (some ⟨r, 2, none⟩)
  f9 : b9 = true → s20 = .int .i64 (bg : Int)
  f10 : b10 = true → s21 = .pointer (some ⟨r, 0, none⟩)
  f11 : b11 = true → s22 = .pointer (some ⟨r, 0, none⟩)
  f12 : b12 = true → s23 = .pointer (some ⟨r, 3, none⟩)
  f13 : b13 = true → s24 = .int .i64 ((bg : Int) + 1)
  f14 : b14 = true → s25 = .string (R.cs.extract bg (bg + 1))
  f15 : b15 = true → s26 = .agg #[.int .i64 (cut bg : Int), .int .i64 (cut (bg + 1) : Int), .string (R.cs.extract bg (bg + 1))]
  d : (b14 = true → b5 = true ∧ b9 = true ∧ b13 = true) ∧ (b15 = true → b1 = true ∧ b14 = true) ∧ (b16 = true → b15 = true)
  wi : if b16 then (Kept [r] w W ∧ Rd W r R bg (bg + 1) ∧ W.heap[w.heap.size]? = some (.cells #[.int .i64 (cut bg : Int), .int .i64 (cut (bg + 1) : Int), .string (R.cs.extract bg (bg + 1))] 188 (0, 0))) else Kept [] W0 W
theorem bare_fin {r : Nat} {R : RC} {bg : Nat} {a b : Int} {s : ByteArray} {w W0 W : World} (h0 : Kept [r] w W0) (hR : Rd W0 r R bg (bg + 1)) (q : Kept [] W0 W) (g : W.heap[w.heap.size]? = some (.cells #[.int .i64 0, .int .i64 0, .string ⟨#[]⟩] 188 (0, 0))) (hr : r ≠ w.heap.size) :
    Kept [r] w (((W.setCell ⟨w.heap.size, 0, none⟩ (.int .i64 a)).setCell ⟨w.heap.size, 1, none⟩ (.int .i64 b)).setCell ⟨w.heap.size, 2, none⟩ (.string s)) ∧ Rd (((W.setCell ⟨w.heap.size, 0, none⟩ (.int .i64 a)).setCell ⟨w.heap.size, 1, none⟩ (.int .i64 b)).setCell ⟨w.heap.size, 2, none⟩ (.string s)) r R bg (bg + 1) ∧ (((W.setCell ⟨w.heap.size, 0, none⟩ (.int .i64 a)).setCell ⟨w.heap.size, 1, none⟩ (.int .i64 b)).setCell ⟨w.heap.size, 2, none⟩ (.string s)).heap[w.heap.size]? = some (.cells #[.int .i64 a, .int .i64 b, .string s] 188 (0, 0)) := by
  have k1 : Kept [w.heap.size] W (((W.setCell ⟨w.heap.size, 0, none⟩ (.int .i64 a)).setCell ⟨w.heap.size, 1, none⟩ (.int .i64 b)).setCell ⟨w.heap.size, 2, none⟩ (.string s)) := (((Kept.refl [w.heap.size] W).setCell (.inl (by simp)) _).setCell (.inl (by simp)) _).setCell (.inl (by simp)) _
  refine ⟨?_, (hR.kept q (by simp)).kept k1 (by simpa using hr), block_setCell (block_setCell (block_setCell g 0 _) 1 _) 2 _⟩
  exact ((((h0.trans (q.mono (by simp))).setCell (.inr (Nat.le_refl _)) _).setCell (.inr (Nat.le_refl _)) _).setCell (.inr (Nat.le_refl _)) _)
set_option maxRecDepth 100000 in
set_option maxHeartbeats 4000000 in
theorem bareChar_any (r : Nat) (R : RC) (bg ps g cap : Nat) (cut : Nat → Nat) (w : World) (h : Rd w r R bg ps) (hA : Ats w r R g cap cut) (hb : bg < R.cs.size) (hs : R.cs.size ≤ 1024) :
    Calls Tryz.prog 157 #[.pointer (some ⟨r, 0, none⟩)] w fun e w' => e = .returned (.agg #[.int .i64 (cut bg : Int), .int .i64 (cut (bg + 1) : Int), .string (R.cs.extract bg (bg + 1))]) ∧ Kept [r] w w' ∧ Rd w' r R bg (bg + 1) := by
  have b := h.bg
  have p := h.ps
  have fz := h.free 3
  have hr := lt_of_block h
  obtain ⟨z, hz⟩ : ∃ z, z = Obj.cells #[.int .i64 0, .int .i64 0, .string ⟨#[]⟩] 188 (0, 0) := ⟨_, rfl⟩
  obtain ⟨W0, hW0⟩ : ∃ W0, W0 = (w.setCell ⟨r, 3, none⟩ (.int .i64 ((bg + 1 : Nat) : Int))).alloc z := ⟨_, rfl⟩
  have K0 : Kept [r] w W0 := by rw [hW0]; exact ((Kept.refl [r] w).setCell (.inl (by simp)) _).alloc _
  have R0 : Rd W0 r R bg (bg + 1) := by rw [hW0]; exact ((Kept.refl [] _).alloc z).at (h.setPs (bg + 1)) (by simp)
  have G0 : W0.heap[w.heap.size]? = some z := by rw [hW0]; have := heap_alloc_at (w.setCell ⟨r, 3, none⟩ (.int .i64 ((bg + 1 : Nat) : Int))) z; rwa [World.size_setCell] at this
  have C := hide (fun W (hk : Kept [] W0 W) => place_any r R bg (bg + 1) g cap cut W (R0.kept hk (by simp)) ((hA.kept K0).kept (hk.mono (by simp))) (by omega) (by omega) hs)
  have HA := hide hA
  have HK0 := hide K0
  have HR0 := hide R0
  have HG0 := hide G0
  have HZ := hide hz
  have HW0 := hide (show (w.setCell ⟨r, 3, none⟩ (.int .i64 ((bg : Int) + 1))).alloc (.cells #[.int .i64 0, .int .i64 0, .string ⟨#[]⟩] 188 (0, 0)) = W0 from by rw [hW0, hz]; congr 1)
  clear h hA K0 R0 G0 hW0 hz
  go_enter Tryz.func157, Tryz.ntmps157
  go_wp2_with fail
  rw [HW0.out]
  have HNR := hide (show r ≠ w.heap.size by omega)
  clear b p fz hr
  refine wp_region_any (by kernel_rfl) ?_
  try (change wpAny _ _ _ _ _ _ _ (World.drew _))
  refine wpAny_inv (I := fun listed a W => ∃ b0 b1 b2 b3 b4 b5 b6 b7 b8 b9 b10 b11 b12 b13 b14 b15 b16 s11 s12 s13 s14 s15 s16 s17 s18 s19 s20 s21 s22 s23 s24 s25 s26, listed = #[b0, b1, b2, b3, b4, b5, b6, b7, b8, b9, b10, b11, b12, b13, b14, b15, b16] ∧ a = ⟨#[.pointer (some ⟨r, 0, none⟩), undef, .pointer (some ⟨w.heap.size, 0, none⟩), .pointer (some ⟨r, 0, none⟩), .pointer (some ⟨r, 0, none⟩), .pointer (some ⟨r, 0, none⟩), .pointer (some ⟨r, 2, none⟩), .int .i64 (bg : Int), .int .i64 ((bg : Int) + 1), .pointer (some ⟨r, 0, none⟩), .pointer (some ⟨r, 3, none⟩), s11, s12, s13, s14, s15, s16, s17, s18, s19, s20, s21, s22, s23, s24, s25, s26], []⟩ ∧ BareI r R bg cut w W0 b0 b1 b2 b3 b4 b5 b6 b7 b8 b9 b10 b11 b12 b13 b14 b15 b16 s11 s12 s13 s14 s15 s16 s17 s18 s19 s20 s21 s22 s23 s24 s25 s26 W) ?_ ?_ _ _ _ _ ?_ ?_
  · rintro listed a W k ⟨b0, b1, b2, b3, b4, b5, b6, b7, b8, b9, b10, b11, b12, b13, b14, b15, b16, s11, s12, s13, s14, s15, s16, s17, s18, s19, s20, s21, s22, s23, s24, s25, s26, rfl, rfl, hI⟩ hi
    simp only [Region.ready, List.mem_filter, List.mem_range] at hi
    obtain ⟨hlt, hc⟩ := hi
    have hlt : k < 17 := hlt
    obtain rfl | rfl | rfl | rfl | rfl | rfl | rfl | rfl | rfl | rfl | rfl | rfl | rfl | rfl | rfl | rfl | rfl : k = 0 ∨ k = 1 ∨ k = 2 ∨ k = 3 ∨ k = 4 ∨ k = 5 ∨ k = 6 ∨ k = 7 ∨ k = 8 ∨ k = 9 ∨ k = 10 ∨ k = 11 ∨ k = 12 ∨ k = 13 ∨ k = 14 ∨ k = 15 ∨ k = 16 := by omega
    all_goals simp [Region.binds] at hc
    · refine wpOp_step rfl ?_
      intro K' hK'
      go_simp
      refine hK' _ _ ⟨_, _, _, _, _, _, _, _, _, _, _, _, _, _, _, _, _, _, _, _, _, _, _, _, _, _, _, _, _, _, _, _, _, rfl, rfl, ?_⟩
      exact ⟨fun _ => rfl, hI.f1, hI.f2, hI.f3, hI.f4, hI.f5, hI.f6, hI.f7, hI.f8, hI.f9, hI.f10, hI.f11, hI.f12, hI.f13, hI.f14, hI.f15, hI.d, hI.wi⟩
    · refine wpOp_step rfl ?_
      intro K' hK'
      have e0 := hI.f0 (by simp [hc])
      subst e0
      have hb16 : b16 = false := by
        cases b16 with
        | false => rfl
        | true => exact absurd ((hI.d.2.1 (hI.d.2.2 rfl)).1) (by simp [hc])
      subst hb16
      have q : Kept [] W0 W := hI.wi
      have C1 := hide (C.out W q)
      go_simp
      refine C1.out.mono ?_
      rintro e W2 ⟨rfl, hk2⟩
      refine hK' _ _ ⟨_, _, _, _, _, _, _, _, _, _, _, _, _, _, _, _, _, _, _, _, _, _, _, _, _, _, _, _, _, _, _, _, _, rfl, rfl, ?_⟩
      exact ⟨hI.f0, fun _ => rfl, hI.f2, hI.f3, hI.f4, hI.f5, hI.f6, hI.f7, hI.f8, hI.f9, hI.f10, hI.f11, hI.f12, hI.f13, hI.f14, hI.f15, ⟨hI.d.1, fun h => ⟨rfl, (hI.d.2.1 h).2⟩, hI.d.2.2⟩, (by simp only [Bool.false_eq_true, ↓reduceIte]; exact q.trans hk2)⟩
    · refine wpOp_step rfl ?_
      intro K' hK'
      go_simp
      refine hK' _ _ ⟨_, _, _, _, _, _, _, _, _, _, _, _, _, _, _, _, _, _, _, _, _, _, _, _, _, _, _, _, _, _, _, _, _, rfl, rfl, ?_⟩
      exact ⟨hI.f0, hI.f1, fun _ => rfl, hI.f3, hI.f4, hI.f5, hI.f6, hI.f7, hI.f8, hI.f9, hI.f10, hI.f11, hI.f12, hI.f13, hI.f14, hI.f15, hI.d, hI.wi⟩
    · refine wpOp_step rfl ?_
      intro K' hK'
      have e2 := hI.f2 (by simp [hc])
      subst e2
      go_simp
      refine hK' _ _ ⟨_, _, _, _, _, _, _, _, _, _, _, _, _, _, _, _, _, _, _, _, _, _, _, _, _, _, _, _, _, _, _, _, _, rfl, rfl, ?_⟩
      exact ⟨hI.f0, hI.f1, hI.f2, fun _ => rfl, hI.f4, hI.f5, hI.f6, hI.f7, hI.f8, hI.f9, hI.f10, hI.f11, hI.f12, hI.f13, hI.f14, hI.f15, hI.d, hI.wi⟩
    · refine wpOp_step rfl ?_
      intro K' hK'
      have e3 := hI.f3 (by simp [hc])
      subst e3
      go_simp
      refine hK' _ _ ⟨_, _, _, _, _, _, _, _, _, _, _, _, _, _, _, _, _, _, _, _, _, _, _, _, _, _, _, _, _, _, _, _, _, rfl, rfl, ?_⟩
      exact ⟨hI.f0, hI.f1, hI.f2, hI.f3, fun _ => rfl, hI.f5, hI.f6, hI.f7, hI.f8, hI.f9, hI.f10, hI.f11, hI.f12, hI.f13, hI.f14, hI.f15, hI.d, hI.wi⟩
    · refine wpOp_step rfl ?_
      intro K' hK'
      have e4 := hI.f4 (by simp [hc])
      subst e4
      have hb16 : b16 = false := by
        cases b16 with
        | false => rfl
        | true => exact absurd ((hI.d.1 (hI.d.2.1 (hI.d.2.2 rfl)).2).1) (by simp [hc])
      subst hb16
      have q : Kept [] W0 W := hI.wi
      have c0 : W.cell? ⟨r, 0, none⟩ = some (.string R.cs) := (HR0.out.kept q (by simp)).text
      go_simp
      refine hK' _ _ ⟨_, _, _, _, _, _, _, _, _, _, _, _, _, _, _, _, _, _, _, _, _, _, _, _, _, _, _, _, _, _, _, _, _, rfl, rfl, ?_⟩
      exact ⟨hI.f0, hI.f1, hI.f2, hI.f3, hI.f4, fun _ => rfl, hI.f6, hI.f7, hI.f8, hI.f9, hI.f10, hI.f11, hI.f12, hI.f13, hI.f14, hI.f15, ⟨fun h => ⟨rfl, (hI.d.1 h).2.1, (hI.d.1 h).2.2⟩, hI.d.2.1, hI.d.2.2⟩, hI.wi⟩
    · refine wpOp_step rfl ?_
      intro K' hK'
      go_simp
      refine hK' _ _ ⟨_, _, _, _, _, _, _, _, _, _, _, _, _, _, _, _, _, _, _, _, _, _, _, _, _, _, _, _, _, _, _, _, _, rfl, rfl, ?_⟩
      exact ⟨hI.f0, hI.f1, hI.f2, hI.f3, hI.f4, hI.f5, fun _ => rfl, hI.f7, hI.f8, hI.f9, hI.f10, hI.f11, hI.f12, hI.f13, hI.f14, hI.f15, hI.d, hI.wi⟩
    · refine wpOp_step rfl ?_
      intro K' hK'
      have e6 := hI.f6 (by simp [hc])
      subst e6
      go_simp
      refine hK' _ _ ⟨_, _, _, _, _, _, _, _, _, _, _, _, _, _, _, _, _, _, _, _, _, _, _, _, _, _, _, _, _, _, _, _, _, rfl, rfl, ?_⟩
      exact ⟨hI.f0, hI.f1, hI.f2, hI.f3, hI.f4, hI.f5, hI.f6, fun _ => rfl, hI.f8, hI.f9, hI.f10, hI.f11, hI.f12, hI.f13, hI.f14, hI.f15, hI.d, hI.wi⟩
    · refine wpOp_step rfl ?_
      intro K' hK'
      have e7 := hI.f7 (by simp [hc])
      subst e7
      go_simp
      refine hK' _ _ ⟨_, _, _, _, _, _, _, _, _, _, _, _, _, _, _, _, _, _, _, _, _, _, _, _, _, _, _, _, _, _, _, _, _, rfl, rfl, ?_⟩
      exact ⟨hI.f0, hI.f1, hI.f2, hI.f3, hI.f4, hI.f5, hI.f6, hI.f7, fun _ => rfl, hI.f9, hI.f10, hI.f11, hI.f12, hI.f13, hI.f14, hI.f15, hI.d, hI.wi⟩
    · refine wpOp_step rfl ?_
      intro K' hK'
      have e8 := hI.f8 (by simp [hc])
      subst e8
      have hb16 : b16 = false := by
        cases b16 with
        | false => rfl
        | true => exact absurd ((hI.d.1 (hI.d.2.1 (hI.d.2.2 rfl)).2).2.1) (by simp [hc])
      subst hb16
      have q : Kept [] W0 W := hI.wi
      have c2 : W.cell? ⟨r, 2, none⟩ = some (.int .i64 (bg : Int)) := (HR0.out.kept q (by simp)).bg
      go_simp
      refine hK' _ _ ⟨_, _, _, _, _, _, _, _, _, _, _, _, _, _, _, _, _, _, _, _, _, _, _, _, _, _, _, _, _, _, _, _, _, rfl, rfl, ?_⟩
      exact ⟨hI.f0, hI.f1, hI.f2, hI.f3, hI.f4, hI.f5, hI.f6, hI.f7, hI.f8, fun _ => rfl, hI.f10, hI.f11, hI.f12, hI.f13, hI.f14, hI.f15, ⟨fun h => ⟨(hI.d.1 h).1, rfl, (hI.d.1 h).2.2⟩, hI.d.2.1, hI.d.2.2⟩, hI.wi⟩
    · refine wpOp_step rfl ?_
      intro K' hK'
      go_simp
      refine hK' _ _ ⟨_, _, _, _, _, _, _, _, _, _, _, _, _, _, _, _, _, _, _, _, _, _, _, _, _, _, _, _, _, _, _, _, _, rfl, rfl, ?_⟩
      exact ⟨hI.f0, hI.f1, hI.f2, hI.f3, hI.f4, hI.f5, hI.f6, hI.f7, hI.f8, hI.f9, fun _ => rfl, hI.f11, hI.f12, hI.f13, hI.f14, hI.f15, hI.d, hI.wi⟩
    · refine wpOp_step rfl ?_
      intro K' hK'
      have e10 := hI.f10 (by simp [hc])
      subst e10
      go_simp
      refine hK' _ _ ⟨_, _, _, _, _, _, _, _, _, _, _, _, _, _, _, _, _, _, _, _, _, _, _, _, _, _, _, _, _, _, _, _, _, rfl, rfl, ?_⟩
      exact ⟨hI.f0, hI.f1, hI.f2, hI.f3, hI.f4, hI.f5, hI.f6, hI.f7, hI.f8, hI.f9, hI.f10, fun _ => rfl, hI.f12, hI.f13, hI.f14, hI.f15, hI.d, hI.wi⟩
    · refine wpOp_step rfl ?_
      intro K' hK'
      have e11 := hI.f11 (by simp [hc])
      subst e11
      go_simp
      refine hK' _ _ ⟨_, _, _, _, _, _, _, _, _, _, _, _, _, _, _, _, _, _, _, _, _, _, _, _, _, _, _, _, _, _, _, _, _, rfl, rfl, ?_⟩
      exact ⟨hI.f0, hI.f1, hI.f2, hI.f3, hI.f4, hI.f5, hI.f6, hI.f7, hI.f8, hI.f9, hI.f10, hI.f11, fun _ => rfl, hI.f13, hI.f14, hI.f15, hI.d, hI.wi⟩
    · refine wpOp_step rfl ?_
      intro K' hK'
      have e12 := hI.f12 (by simp [hc])
      subst e12
      have hb16 : b16 = false := by
        cases b16 with
        | false => rfl
        | true => exact absurd ((hI.d.1 (hI.d.2.1 (hI.d.2.2 rfl)).2).2.2) (by simp [hc])
      subst hb16
      have q : Kept [] W0 W := hI.wi
      have c3 : W.cell? ⟨r, 3, none⟩ = some (.int .i64 ((bg : Int) + 1)) := (HR0.out.kept q (by simp)).ps
      go_simp
      refine hK' _ _ ⟨_, _, _, _, _, _, _, _, _, _, _, _, _, _, _, _, _, _, _, _, _, _, _, _, _, _, _, _, _, _, _, _, _, rfl, rfl, ?_⟩
      exact ⟨hI.f0, hI.f1, hI.f2, hI.f3, hI.f4, hI.f5, hI.f6, hI.f7, hI.f8, hI.f9, hI.f10, hI.f11, hI.f12, fun _ => rfl, hI.f14, hI.f15, ⟨fun h => ⟨(hI.d.1 h).1, (hI.d.1 h).2.1, rfl⟩, hI.d.2.1, hI.d.2.2⟩, hI.wi⟩
    · refine wpOp_step rfl ?_
      intro K' hK'
      have e5 := hI.f5 (by simp [hc])
      subst e5
      have e9 := hI.f9 (by simp [hc])
      subst e9
      have e13 := hI.f13 (by simp [hc])
      subst e13
      go_simp
      rw [if_pos (by omega), if_pos (by omega)]
      go_simp
      refine hK' _ _ ⟨_, _, _, _, _, _, _, _, _, _, _, _, _, _, _, _, _, _, _, _, _, _, _, _, _, _, _, _, _, _, _, _, _, rfl, rfl, ?_⟩
      exact ⟨hI.f0, hI.f1, hI.f2, hI.f3, hI.f4, hI.f5, hI.f6, hI.f7, hI.f8, hI.f9, hI.f10, hI.f11, hI.f12, hI.f13, fun _ => rfl, hI.f15, ⟨fun _ => ⟨by simp [hc], by simp [hc], by simp [hc]⟩, fun h => ⟨(hI.d.2.1 h).1, rfl⟩, hI.d.2.2⟩, hI.wi⟩
    · refine wpOp_step rfl ?_
      intro K' hK'
      have e1 := hI.f1 (by simp [hc])
      subst e1
      have e14 := hI.f14 (by simp [hc])
      subst e14
      go_simp
      refine hK' _ _ ⟨_, _, _, _, _, _, _, _, _, _, _, _, _, _, _, _, _, _, _, _, _, _, _, _, _, _, _, _, _, _, _, _, _, rfl, rfl, ?_⟩
      exact ⟨hI.f0, hI.f1, hI.f2, hI.f3, hI.f4, hI.f5, hI.f6, hI.f7, hI.f8, hI.f9, hI.f10, hI.f11, hI.f12, hI.f13, hI.f14, fun _ => rfl, ⟨hI.d.1, fun _ => ⟨by simp [hc], by simp [hc]⟩, fun h => rfl⟩, hI.wi⟩
    · refine wpOp_step rfl ?_
      intro K' hK'
      have e15 := hI.f15 (by simp [hc])
      subst e15
      have hb16 : b16 = false := by simp [hc]
      subst hb16
      have q : Kept [] W0 W := hI.wi
      have g1 := q.at (HG0.out.trans (congrArg some HZ.out)) (by simp)
      have q0 : W.cell? ⟨w.heap.size, 0, none⟩ = some (.int .i64 0) := by rw [cell_at g1]; rfl
      have q1 : W.cell? ⟨w.heap.size, 1, none⟩ = some (.int .i64 0) := by rw [cell_at g1]; rfl
      have q2 : W.cell? ⟨w.heap.size, 2, none⟩ = some (.string ⟨#[]⟩) := by rw [cell_at g1]; rfl
      have z0 := free_at g1 0
      have z1 := free_at g1 1
      have z2 := free_at g1 2
      go_simp
      refine hK' _ _ ⟨_, _, _, _, _, _, _, _, _, _, _, _, _, _, _, _, _, _, _, _, _, _, _, _, _, _, _, _, _, _, _, _, _, rfl, rfl, ?_⟩
      exact ⟨hI.f0, hI.f1, hI.f2, hI.f3, hI.f4, hI.f5, hI.f6, hI.f7, hI.f8, hI.f9, hI.f10, hI.f11, hI.f12, hI.f13, hI.f14, hI.f15, ⟨hI.d.1, hI.d.2.1, fun _ => by simp [hc]⟩, bare_fin HK0.out HR0.out q g1 HNR.out⟩
  · rintro listed a W ⟨b0, b1, b2, b3, b4, b5, b6, b7, b8, b9, b10, b11, b12, b13, b14, b15, b16, s11, s12, s13, s14, s15, s16, s17, s18, s19, s20, s21, s22, s23, s24, s25, s26, rfl, rfl, hI⟩ hr
    simp only [Region.ready, List.filter_eq_nil_iff, List.mem_range] at hr
    have q0 := hr 0 (by decide)
    simp [Region.binds] at q0
    subst q0
    have q1 := hr 1 (by decide)
    simp [Region.binds] at q1
    subst q1
    have q2 := hr 2 (by decide)
    simp [Region.binds] at q2
    subst q2
    have q3 := hr 3 (by decide)
    simp [Region.binds] at q3
    subst q3
    have q4 := hr 4 (by decide)
    simp [Region.binds] at q4
    subst q4
    have q5 := hr 5 (by decide)
    simp [Region.binds] at q5
    subst q5
    have q6 := hr 6 (by decide)
    simp [Region.binds] at q6
    subst q6
    have q7 := hr 7 (by decide)
    simp [Region.binds] at q7
    subst q7
    have q8 := hr 8 (by decide)
    simp [Region.binds] at q8
    subst q8
    have q9 := hr 9 (by decide)
    simp [Region.binds] at q9
    subst q9
    have q10 := hr 10 (by decide)
    simp [Region.binds] at q10
    subst q10
    have q11 := hr 11 (by decide)
    simp [Region.binds] at q11
    subst q11
    have q12 := hr 12 (by decide)
    simp [Region.binds] at q12
    subst q12
    have q13 := hr 13 (by decide)
    simp [Region.binds] at q13
    subst q13
    have q14 := hr 14 (by decide)
    simp [Region.binds] at q14
    subst q14
    have q15 := hr 15 (by decide)
    simp [Region.binds] at q15
    subst q15
    have q16 := hr 16 (by decide)
    simp [Region.binds] at q16
    subst q16
    obtain ⟨h1, h2, h3⟩ := hI.wi
    have H1 := hide h1
    have H2 := hide h2
    have H3 := hide h3
    clear h1 h2 h3 hI hr
    rename_i KK hKK
    refine hKK _ _ ?_
    clear hKK KK
    go_wp2
    refine bodyPost_ret (v := .agg #[.int .i64 (cut bg : Int), .int .i64 (cut (bg + 1) : Int), .string (R.cs.extract bg (bg + 1))]) ?_ rfl ⟨rfl, H1.out, H2.out⟩
    have hc := cell_at H3.out
    simp [results, Tryz.results157, asAddr, Result.andThen, go_sem, hc]
  · decide
  · exact ⟨_, _, _, _, _, _, _, _, _, _, _, _, _, _, _, _, _, _, _, _, _, _, _, _, _, _, _, _, _, _, _, _, _, rfl, rfl, by simp, by simp, by simp, by simp, by simp, by simp, by simp, by simp, by simp, by simp, by simp, by simp, by simp, by simp, by simp, by simp, by simp, (Kept.refl [] W0).drew⟩
end Go.Proofs.YtlhhgenpcjjajaaGreatDoor
namespace Go.Proofs.YtlhhgenpcjjajaaGreatDoor
open Go.RowKit Go.PlainAid
set_option maxRecDepth 100000 in
set_option maxHeartbeats 1000000 in
theorem inText_no (r : Nat) (R : RC) (bg ps : Nat) (w : World) (h : Rd w r R bg ps) (ho : R.ofT = ⟨#[]⟩) :
    Calls Tryz.prog 89 #[.pointer (some ⟨r, 0, none⟩)] w fun e w' => e = .returned (.bool false) ∧ Kept [] w w' := by
  have o := h.ofT
  rw [ho] at o
  have hr := lt_of_block h
  clear h ho
  go_enter Tryz.func89, Tryz.ntmps89
  go_wp2
  go_ret
  exact ⟨rfl, Kept.refl _ _⟩
end Go.Proofs.YtlhhgenpcjjajaaGreatDoor
namespace Go.Proofs.YtlhhgenpcjjajaaGreatDoor
open Go.RowKit Go.PlainAid
set_option maxRecDepth 100000 in
set_option maxHeartbeats 2000000 in
theorem next_end (r : Nat) (R : RC) (bg g cap : Nat) (cut : Nat → Nat) (w : World) (h : Rd w r R bg R.cs.size) (hA : Ats w r R g cap cut) (hs : R.cs.size ≤ 1024) :
    Calls Tryz.prog 56 #[.pointer (some ⟨r, 0, none⟩)] w fun e w' => e = .returned (.iface 186 (.agg #[.int .i64 (cut R.cs.size : Int), .int .i64 (cut R.cs.size : Int)])) ∧ Kept [r] w w' ∧ Rd w' r R R.cs.size R.cs.size := by
  have p := h.ps
  have b := h.bg
  have fz := h.free 2
  have hr := lt_of_block h
  obtain ⟨W0, hW0⟩ : ∃ W0, W0 = w.setCell ⟨r, 2, none⟩ (.int .i64 (R.cs.size : Int)) := ⟨_, rfl⟩
  have R0 : Rd W0 r R R.cs.size R.cs.size := by rw [hW0]; exact h.setBg _
  have K0 : Kept [r] w W0 := by rw [hW0]; exact (Kept.refl [r] w).setCell (.inl (by simp)) _
  have C1 := hide (atEnd_any r R R.cs.size R.cs.size W0 R0)
  rw [show decide (R.cs.size = R.cs.size) = true from decide_eq_true rfl] at C1
  have C2 := hide (fun W (hk : Kept [] W0 W) => place_any r R R.cs.size R.cs.size g cap cut W (R0.kept hk (by simp)) ((hA.kept K0).kept (hk.mono (by simp))) (Nat.le_refl _) (Nat.le_refl _) hs)
  have HK0 := hide K0
  have HR0 := hide R0
  have HW0 := hide hW0.symm
  clear h hA K0 R0 hW0
  go_enter Tryz.func56, Tryz.ntmps56
  go_wp2_with fail
  rw [HW0.out]
  clear p b fz hr
  refine C1.out.mono ?_
  rintro e w1 ⟨rfl, q, rfl⟩
  have C3 := hide (C2.out _ ((Kept.refl [] W0).drewN q))
  go_wp2_with fail
  refine C3.out.mono ?_
  rintro e w2 ⟨rfl, hk2⟩
  have HK2 := hide (HK0.out.trans ((((Kept.refl [] W0).drewN q).trans hk2).mono (by simp)))
  have HR2 := hide (HR0.out.kept (((Kept.refl [] W0).drewN q).trans hk2) (by simp))
  clear hk2
  go_wp2
  go_ret
  exact ⟨rfl, HK2.out, HR2.out⟩
end Go.Proofs.YtlhhgenpcjjajaaGreatDoor
