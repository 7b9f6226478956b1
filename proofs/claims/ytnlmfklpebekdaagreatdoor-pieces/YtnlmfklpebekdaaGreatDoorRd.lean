import Derived.Test.YtnlmfklpebekdaaGreatDoorWr
import Derived.Deep.QuietTactic
import Derived.BigQuiet
import Derived.PlainAid
import Derived.Test.YtnlmfklpebekdaaGreatDoorShelf
set_option linter.unusedSimpArgs false
set_option linter.unusedVariables false
namespace Go.Proofs.YtnlmfklpebekdaaGreatDoor
open Go.RowKit Go.PlainAid

/-- What of a reader never turns. -/
structure RC where
  cs : ByteArray
  av : Value
  at_ : Int
  mv : Value
  lg : Int
def rcells (R : RC) (bg ps : Nat) : Array Value := #[.string R.cs, R.av, .int .i64 (bg : Int), .int .i64 (ps : Int), .int .i64 R.at_, R.mv, .int .i64 R.lg]
/-- The reader at r, where it is. -/
def Rd (w : World) (r : Nat) (R : RC) (bg ps : Nat) : Prop := w.heap[r]? = some (.cells (rcells R bg ps) 126 (0, 0))

theorem Rd.text {w : World} {r : Nat} {R : RC} {bg ps : Nat} (h : Rd w r R bg ps) : w.cell? ⟨r, 0, none⟩ = some (.string R.cs) := by rw [cell_at h]; rfl
theorem Rd.ats {w : World} {r : Nat} {R : RC} {bg ps : Nat} (h : Rd w r R bg ps) : w.cell? ⟨r, 1, none⟩ = some R.av := by rw [cell_at h]; rfl
theorem Rd.bg {w : World} {r : Nat} {R : RC} {bg ps : Nat} (h : Rd w r R bg ps) : w.cell? ⟨r, 2, none⟩ = some (.int .i64 (bg : Int)) := by rw [cell_at h]; rfl
theorem Rd.ps {w : World} {r : Nat} {R : RC} {bg ps : Nat} (h : Rd w r R bg ps) : w.cell? ⟨r, 3, none⟩ = some (.int .i64 (ps : Int)) := by rw [cell_at h]; rfl
theorem Rd.free {w : World} {r : Nat} {R : RC} {bg ps : Nat} (h : Rd w r R bg ps) (j : Nat) : w.frozen? ⟨r, j, none⟩ = false := by unfold Rd at h; simp [World.frozen?, h]
theorem Rd.setPs {w : World} {r : Nat} {R : RC} {bg ps : Nat} (h : Rd w r R bg ps) (ps' : Nat) : Rd (w.setCell ⟨r, 3, none⟩ (.int .i64 (ps' : Int))) r R bg ps' := block_setCell h 3 _
theorem Rd.setBg {w : World} {r : Nat} {R : RC} {bg ps : Nat} (h : Rd w r R bg ps) (bg' : Nat) : Rd (w.setCell ⟨r, 2, none⟩ (.int .i64 (bg' : Int))) r R bg' ps := block_setCell h 2 _
theorem Rd.kept {w w' : World} {r : Nat} {R : RC} {bg ps : Nat} {S : List Nat} (h : Rd w r R bg ps) (hk : Kept S w w') (hs : r ∉ S) : Rd w' r R bg ps := hk.at h hs

set_option maxRecDepth 100000 in
set_option maxHeartbeats 400000 in
theorem atEnd_any (r : Nat) (R : RC) (bg ps : Nat) (w : World) (h : Rd w r R bg ps) :
    Calls Tryz.prog 48 #[.pointer (some ⟨r, 0, none⟩)] w fun e w' => e = .returned (.bool (decide (ps = R.cs.size))) ∧ ∃ q, w' = w.drewN q := by
  have t := h.text
  have p := h.ps
  clear h
  generalize R.cs = s at t
  by_cases e : ps = s.size
  · subst e
    go_enter Tryz.func48, Tryz.ntmps48
    go_wp2_with fail
    go_quiet (fail)
    go_wp2
    go_ret
    exact ⟨by simp, ⟨_, rfl⟩⟩
  · have e' : ((ps : Int) == (s.size : Int)) = false := beq_eq_false_iff_ne.2 (by omega)
    go_enter Tryz.func48, Tryz.ntmps48
    go_wp2_with fail
    go_quiet (fail)
    go_wp2
    go_ret
    exact ⟨by simp [e], ⟨_, rfl⟩⟩

set_option maxRecDepth 100000 in
set_option maxHeartbeats 400000 in
theorem rest_any (r : Nat) (R : RC) (bg ps : Nat) (w : World) (h : Rd w r R bg ps) (hp : ps ≤ R.cs.size) (_hs : R.cs.size ≤ 1024) :
    Calls Tryz.prog 54 #[.pointer (some ⟨r, 0, none⟩)] w fun e w' => e = .returned (.string (R.cs.extract ps R.cs.size)) ∧ ∃ q, w' = w.drewN q := by
  have t := h.text
  have p := h.ps
  clear h
  generalize R.cs = s at *
  go_enter Tryz.func54, Tryz.ntmps54
  go_wp2_with fail
  go_quiet (fail)
  go_wp2
  go_ret
  exact ⟨rfl, ⟨_, rfl⟩⟩

theorem letter_any (c : Int) (w : World) (h0 : 0 ≤ c) (h1 : c ≤ 255) :
    Calls Tryz.prog 56 #[.int .u8 c] w fun e w' => e = .returned (.bool (decide (97 ≤ c ∧ c ≤ 122 ∨ 65 ≤ c ∧ c ≤ 90))) ∧ w' = w := by
  by_cases a1 : 97 ≤ c <;> by_cases a2 : c ≤ 122 <;> by_cases a3 : 65 ≤ c <;> by_cases a4 : c ≤ 90
  all_goals first | (exfalso; omega) | skip
  all_goals (go_enter Tryz.func56, Tryz.ntmps56; go_wp2; go_ret; exact ⟨by first | (simp; done) | (simp; omega), rfl⟩)
end Go.Proofs.YtnlmfklpebekdaaGreatDoor

namespace Go.Proofs.YtnlmfklpebekdaaGreatDoor
open Go.RowKit Go.PlainAid

/-- p is how s begins. -/
def pre (s p : ByteArray) : Bool := decide (p.size ≤ s.size) && ((s.extract 0 p.size).toList == p.toList)

set_option maxRecDepth 100000 in
set_option maxHeartbeats 400000 in
theorem lite_hasPrefix (s p : ByteArray) (w : World) (hs : s.size ≤ 1048576) (hp : p.size ≤ 1048576) :
    Calls Tryz.prog 65 #[.string s, .string p] w fun e w' => e = .returned (.bool (pre s p)) ∧ w' = w := by
  by_cases h : p.size ≤ s.size
  · go_enter Tryz.func65, Tryz.ntmps65
    go_wp2
    go_ret
    exact ⟨by simp [pre, h], rfl⟩
  · go_enter Tryz.func65, Tryz.ntmps65
    go_wp2
    go_ret
    exact ⟨by simp [pre, h], rfl⟩
end Go.Proofs.YtnlmfklpebekdaaGreatDoor

namespace Go.Proofs.YtnlmfklpebekdaaGreatDoor
open Go.RowKit Go.PlainAid

set_option maxRecDepth 100000 in
set_option maxHeartbeats 400000 in
theorem hasPrefix_any (s p : ByteArray) (w : World) (hs : s.size ≤ 1048576) (hp : p.size ≤ 1048576) :
    Calls Tryz.prog 53 #[.string s, .string p] w fun e w' => e = .returned (.bool (pre s p)) ∧ w' = w := by
  go_enter Tryz.func53, Tryz.ntmps53
  go_wp2_with fail
  refine (lite_hasPrefix s p w hs hp).mono ?_
  rintro e w' ⟨rfl, rfl⟩
  go_wp2
  go_ret
  exact ⟨rfl, rfl⟩

theorem pre_le {s p : ByteArray} (h : pre s p = true) : p.size ≤ s.size := by
  unfold pre at h; simp at h; exact h.1
theorem pre_rest {s p : ByteArray} {ps : Nat} (h : pre (s.extract ps s.size) p = true) (hp : ps ≤ s.size) : ps + p.size ≤ s.size := by
  have := pre_le h; simp at this; omega

/-- What take leaves. -/
def taken (R : RC) (p : ByteArray) (ps : Nat) : Nat := if pre (R.cs.extract ps R.cs.size) p = true then ps + p.size else ps
theorem taken_le {R : RC} {p : ByteArray} {ps : Nat} (h : ps ≤ R.cs.size) : taken R p ps ≤ R.cs.size := by
  unfold taken; split
  · rename_i h'; exact pre_rest h' h
  · exact h
theorem taken_ge {R : RC} {p : ByteArray} {ps : Nat} : ps ≤ taken R p ps := by unfold taken; split <;> omega

set_option maxRecDepth 100000 in
set_option maxHeartbeats 400000 in
theorem take_any (r : Nat) (R : RC) (bg ps : Nat) (s : ByteArray) (w : World) (h : Rd w r R bg ps) (hp : ps ≤ R.cs.size) (hs : R.cs.size ≤ 1024) (hss : s.size ≤ 1024) :
    Calls Tryz.prog 50 #[.pointer (some ⟨r, 0, none⟩), .string s] w fun e w' => e = .returned (.bool (pre (R.cs.extract ps R.cs.size) s)) ∧ Kept [r] w w' ∧ Rd w' r R bg (taken R s ps) := by
  have H := hide h
  clear h
  by_cases e : pre (R.cs.extract ps R.cs.size) s = true
  · have hle := pre_rest e hp
    have htk : taken R s ps = ps + s.size := by unfold taken; rw [if_pos e]
    rw [htk]
    clear htk
    go_enter Tryz.func50, Tryz.ntmps50
    go_wp2_with fail
    refine (rest_any r R bg ps w H.out hp hs).mono ?_
    rintro e w' ⟨rfl, q, rfl⟩
    go_wp2_with fail
    refine (hasPrefix_any _ s _ (by simp; omega) (by omega)).mono ?_
    rintro e w' ⟨rfl, rfl⟩
    have p : (w.drewN q).cell? ⟨r, 3, none⟩ = some (.int .i64 (ps : Int)) := H.out.ps
    have fz := H.out.free 3
    have HK : Hid (Kept [r] w ((w.drewN q).setCell ⟨r, 3, none⟩ (.int .i64 ((ps + s.size : Nat) : Int)))) := ((Kept.refl [r] w).drewN q).setCell (.inl (by simp)) _
    have HR : Hid (Rd ((w.drewN q).setCell ⟨r, 3, none⟩ (.int .i64 ((ps + s.size : Nat) : Int))) r R bg (ps + s.size)) := Rd.setPs (w := w.drewN q) H.out _
    rw [e]
    go_wp2
    go_ret
    exact ⟨by rw [e]; rfl, HK.out, HR.out⟩
  · have htk : taken R s ps = ps := by unfold taken; rw [if_neg e]
    rw [htk]
    have e' : pre (R.cs.extract ps R.cs.size) s = false := by simpa using e
    clear htk e
    go_enter Tryz.func50, Tryz.ntmps50
    go_wp2_with fail
    refine (rest_any r R bg ps w H.out hp hs).mono ?_
    rintro e w' ⟨rfl, q, rfl⟩
    go_wp2_with fail
    refine (hasPrefix_any _ s _ (by simp; omega) (by omega)).mono ?_
    rintro e w' ⟨rfl, rfl⟩
    rw [e']
    go_wp2
    go_ret
    exact ⟨by rw [e']; rfl, (Kept.refl [r] w).drewN q, H.out⟩
end Go.Proofs.YtnlmfklpebekdaaGreatDoor
