import Derived.Test.YtnlmfklpebekdaaGreatDoorRdK
import Derived.Ground.NamesProg
import Derived.Shelf.Lay
import Derived.Shelf.Strings.SlTrimAscii
set_option linter.unusedSimpArgs false
set_option linter.unusedVariables false
namespace Go.Proofs.YtnlmfklpebekdaaGreatDoor
open Go.RowKit Go.PlainAid Go.Shelf Go.Lib

def trimBl (s : ByteArray) : ByteArray := ⟨(Lib.trimS s.data.toList [32, 9, 10, 12]).toArray⟩
theorem trim_any (s : ByteArray) (w : World) (hs : s.size ≤ 1048576) :
    Calls Tryz.prog 74 #[.string s, .string ⟨#[32, 9, 10, 12]⟩] w fun e w' => e = .returned (.string (trimBl s)) ∧ Kept [] w w' := by
  have hcon := Any.strings_Trim_laid Tryz.lays160 (by kernel_rfl) s ⟨#[32, 9, 10, 12]⟩ w (by omega) (by decide) (ascii_of_all (by decide))
  exact hcon.mono fun e w' ⟨h1, h2⟩ => ⟨h1, Kept.ofBelow h2⟩

def dtA (R : RC) (ps : Nat) : Nat := scan (fun c => !inSet ⟨#[32, 9, 10, 12]⟩ c) R.cs ps
def dtB (R : RC) (ps : Nat) : Nat := scan (inSet ⟨#[32, 9, 10, 12, 62]⟩) R.cs (dtA R ps)
theorem dtA_le {R : RC} {ps : Nat} (h : ps ≤ R.cs.size) : dtA R ps ≤ R.cs.size := scan_le h
theorem dtB_le {R : RC} {ps : Nat} (h : ps ≤ R.cs.size) : dtB R ps ≤ R.cs.size := scan_le (dtA_le h)
theorem dtB_ge {R : RC} {ps : Nat} : ps ≤ dtB R ps := Nat.le_trans scan_ge scan_ge

set_option maxRecDepth 100000 in
set_option maxHeartbeats 2000000 in
theorem doctype_any (r : Nat) (R : RC) (bg ps g cap : Nat) (cut : Nat → Nat) (w : World) (h : Rd w r R bg ps) (hA : Ats w r R g cap cut) (hG : Gl w r) (hb : bg ≤ R.cs.size) (hp : ps ≤ R.cs.size) (hs : R.cs.size ≤ 1024) :
    Calls Tryz.prog 61 #[.pointer (some ⟨r, 0, none⟩)] w fun e w' => (∃ nm qk, e = .returned (.iface 144 (.agg #[.int .i64 (cut bg : Int), .int .i64 (cut (gtEnd R (dtB R ps)) : Int), .string nm, .bool qk]))) ∧ Kept [r] w w' ∧ Rd w' r R bg (gtEnd R (dtB R ps)) := by
  have C1 := hide (passOver_any r R bg ps ⟨#[32, 9, 10, 12]⟩ w h hp hs)
  rw [show scan (fun c => !inSet ⟨#[32, 9, 10, 12]⟩ c) R.cs ps = dtA R ps from rfl] at C1
  have C2 := hide (fun (w' : World) (h : Rd w' r R bg (dtA R ps)) => upToOne r R bg (dtA R ps) ⟨#[32, 9, 10, 12, 62]⟩ w' h (dtA_le hp) hs)
  rw [show scan (inSet ⟨#[32, 9, 10, 12, 62]⟩) R.cs (dtA R ps) = dtB R ps from rfl] at C2
  have C3 := hide (fun (w' : World) (h : Rd w' r R bg (dtB R ps)) => upToOne r R bg (dtB R ps) ⟨#[62]⟩ w' h (dtB_le hp) hs)
  have hle : scan (inSet ⟨#[62]⟩) R.cs (dtB R ps) ≤ R.cs.size := scan_le (dtB_le hp)
  have D := hide (fun (w2 : World) (hr : Rd w2 r R bg (scan (inSet ⟨#[62]⟩) R.cs (dtB R ps))) => take_any r R bg _ ⟨#[62]⟩ w2 hr hle hs (by decide))
  rw [show taken R ⟨#[62]⟩ (scan (inSet ⟨#[62]⟩) R.cs (dtB R ps)) = gtEnd R (dtB R ps) from rfl] at D
  have hle2 : gtEnd R (dtB R ps) ≤ R.cs.size := gtEnd_le (dtB_le hp)
  have h3 : dtB R ps ≤ R.cs.size := dtB_le hp
  have HA := hide hA
  have HG := hide hG
  clear h hA hG
  generalize gtEnd R (dtB R ps) = m at *
  generalize scan (inSet ⟨#[62]⟩) R.cs (dtB R ps) = n at *
  generalize dtB R ps = b at *
  generalize dtA R ps = a at *
  go_enter Tryz.func61, Tryz.ntmps61
  go_wp2_with fail
  refine C1.out.mono ?_
  rintro e w1 ⟨rfl, hk1, hr1⟩
  have HK1 := hide hk1
  have HR1 := hide hr1
  clear hk1 hr1 C1
  go_wp2_with fail
  refine (oneOf_any _ w1).mono ?_
  rintro e w' ⟨rfl, rfl⟩
  go_wp2_with fail
  refine (C2.out _ HR1.out).mono ?_
  rintro e w2 ⟨rfl, hk2, hr2⟩
  have HK2 := hide (HK1.out.trans hk2)
  have HR2 := hide hr2
  clear hk2 hr2 C2
  have E1 := hide (readName_any r (R.cs.extract a b) w2 (by simp; omega) (HG.out.kept HK2.out))
  generalize noNul (small (R.cs.extract a b)) = nm at E1
  go_wp2_with fail
  refine E1.out.mono ?_
  rintro e w3 ⟨rfl, hk3⟩
  have HK3 := hide (HK2.out.trans (hk3.mono (by simp)))
  have HR3 := hide (HR2.out.kept hk3 (by simp))
  clear hk3 E1
  go_wp2_with fail
  refine (oneOf_any _ w3).mono ?_
  rintro e w' ⟨rfl, rfl⟩
  go_wp2_with fail
  refine (C3.out _ HR3.out).mono ?_
  rintro e w4 ⟨rfl, hk4, hr4⟩
  have HK4 := hide (HK3.out.trans hk4)
  have HR4 := hide hr4
  clear hk4 hr4 C3
  have E2 := hide (trim_any (R.cs.extract b n) w4 (by simp; omega))
  generalize trimBl (R.cs.extract b n) = mo at E2
  go_wp2_with fail
  refine E2.out.mono ?_
  rintro e w5 ⟨rfl, hk5⟩
  have HK5 := hide (HK4.out.trans (hk5.mono (by simp)))
  have HR5 := hide (HR4.out.kept hk5 (by simp))
  clear hk5 E2
  go_wp2_with fail
  refine (D.out _ HR5.out).mono ?_
  rintro e w6 ⟨rfl, hk6, hr6⟩
  have HK6 := hide (HK5.out.trans hk6)
  have HR6 := hide hr6
  clear hk6 hr6 D
  have F := hide (place_any r R bg m g cap cut w6 HR6.out (HA.out.kept HK6.out) hb hle2 hs)
  generalize pre (R.cs.extract n R.cs.size) ⟨#[62]⟩ = cl
  go_wp2_with fail
  refine F.out.mono ?_
  rintro e w7 ⟨rfl, hk7⟩
  have HK7 := hide (HK6.out.trans (hk7.mono (by simp)))
  have HR7 := hide (HR6.out.kept hk7 (by simp))
  clear hk7 F
  go_wp2
  all_goals
    (go_ret
     exact ⟨⟨_, _, rfl⟩, HK7.out, HR7.out⟩)
end Go.Proofs.YtnlmfklpebekdaaGreatDoor

namespace Go.Proofs.YtnlmfklpebekdaaGreatDoor
open Go.RowKit Go.PlainAid Go.Shelf Go.Lib

set_option maxRecDepth 100000 in
set_option maxHeartbeats 1000000 in
theorem codePoint_any (n : Int) (w : World) (h0 : 0 ≤ n) (h1 : n ≤ 1114112) :
    Calls Tryz.prog 92 #[.int .i64 n] w fun e w' => (∃ c : Int, 0 ≤ c ∧ c ≤ 1114111 ∧ e = .returned (.int .i32 c)) ∧ w' = w := by
  by_cases a : n = 0
  · subst a
    go_enter Tryz.func92, Tryz.ntmps92
    go_wp2
    go_ret
    exact ⟨⟨65533, by omega, by omega, rfl⟩, rfl⟩
  · by_cases b : 55296 ≤ n
    · by_cases b2 : n ≤ 57343
      · go_enter Tryz.func92, Tryz.ntmps92
        go_wp2
        go_ret
        exact ⟨⟨65533, by omega, by omega, rfl⟩, rfl⟩
      · by_cases b3 : n ≥ 1114112
        · go_enter Tryz.func92, Tryz.ntmps92
          go_wp2
          go_ret
          exact ⟨⟨65533, by omega, by omega, rfl⟩, rfl⟩
        · go_enter Tryz.func92, Tryz.ntmps92
          go_wp2
          go_ret
          exact ⟨⟨n, by omega, by omega, rfl⟩, rfl⟩
    · go_enter Tryz.func92, Tryz.ntmps92
      go_wp2
      all_goals
        (go_ret
         first
          | exact ⟨⟨n, by omega, by omega, rfl⟩, rfl⟩
          | exact ⟨⟨_, by decide, by decide, rfl⟩, rfl⟩)

def digitI (c : Int) : Int := if 48 ≤ c ∧ c ≤ 57 then c - 48 else if 97 ≤ c ∧ c ≤ 102 then c - 87 else if 65 ≤ c ∧ c ≤ 70 then c - 55 else 99
theorem digitI_range (c : Int) : 0 ≤ digitI c ∧ digitI c ≤ 99 := by unfold digitI; split <;> (try split) <;> (try split) <;> omega
theorem cdigit_any (c : Int) (w : World) (h0 : 0 ≤ c) (h1 : c ≤ 255) :
    Calls Tryz.prog 105 #[.int .u8 c] w fun e w' => e = .returned (.bool (decide (48 ≤ c ∧ c ≤ 57))) ∧ w' = w := by
  by_cases a1 : 48 ≤ c <;> by_cases a2 : c ≤ 57
  all_goals first | (exfalso; omega) | skip
  all_goals (go_enter Tryz.func105, Tryz.ntmps105; go_wp2; go_ret; exact ⟨by first | (simp; done) | (simp; omega), rfl⟩)
set_option maxRecDepth 100000 in
set_option maxHeartbeats 1000000 in
theorem digit_any (c : Int) (w : World) (h0 : 0 ≤ c) (h1 : c ≤ 255) :
    Calls Tryz.prog 91 #[.int .u8 c] w fun e w' => e = .returned (.int .i64 (digitI c)) ∧ w' = w := by
  have C := hide (cdigit_any c w h0 h1)
  by_cases a : 48 ≤ c ∧ c ≤ 57
  · rw [show decide (48 ≤ c ∧ c ≤ 57) = true from by simp [a]] at C
    have e : digitI c = c - 48 := by unfold digitI; rw [if_pos a]
    rw [e]; clear e
    obtain ⟨a1, a2⟩ := a
    go_enter Tryz.func91, Tryz.ntmps91
    go_wp2_with fail
    refine C.out.mono ?_
    rintro e w' ⟨rfl, rfl⟩
    go_wp2
    go_ret
    exact ⟨rfl, rfl⟩
  · rw [show decide (48 ≤ c ∧ c ≤ 57) = false from by simp; omega] at C
    by_cases b : 97 ≤ c
    · by_cases b2 : c ≤ 102
      · have e : digitI c = c - 97 + 10 := by unfold digitI; rw [if_neg a, if_pos ⟨b, b2⟩]; omega
        rw [e]; clear e a
        go_enter Tryz.func91, Tryz.ntmps91
        go_wp2_with fail
        refine C.out.mono ?_
        rintro e w' ⟨rfl, rfl⟩
        go_wp2
        go_ret
        exact ⟨rfl, rfl⟩
      · have e : digitI c = 99 := by unfold digitI; rw [if_neg a, if_neg (by omega), if_neg (by omega)]
        rw [e]; clear e a
        go_enter Tryz.func91, Tryz.ntmps91
        go_wp2_with fail
        refine C.out.mono ?_
        rintro e w' ⟨rfl, rfl⟩
        go_wp2
        go_ret
        exact ⟨rfl, rfl⟩
    · by_cases d : 65 ≤ c
      · by_cases d2 : c ≤ 70
        · have e : digitI c = c - 65 + 10 := by unfold digitI; rw [if_neg a, if_neg (by omega), if_pos ⟨d, d2⟩]; omega
          rw [e]; clear e a
          go_enter Tryz.func91, Tryz.ntmps91
          go_wp2_with fail
          refine C.out.mono ?_
          rintro e w' ⟨rfl, rfl⟩
          go_wp2
          go_ret
          exact ⟨rfl, rfl⟩
        · have e : digitI c = 99 := by unfold digitI; rw [if_neg a, if_neg (by omega), if_neg (by omega)]
          rw [e]; clear e a
          go_enter Tryz.func91, Tryz.ntmps91
          go_wp2_with fail
          refine C.out.mono ?_
          rintro e w' ⟨rfl, rfl⟩
          go_wp2
          go_ret
          exact ⟨rfl, rfl⟩
      · have e : digitI c = 99 := by unfold digitI; rw [if_neg a, if_neg (by omega), if_neg (by omega)]
        rw [e]; clear e a
        go_enter Tryz.func91, Tryz.ntmps91
        go_wp2_with fail
        refine C.out.mono ?_
        rintro e w' ⟨rfl, rfl⟩
        go_wp2
        go_ret
        exact ⟨rfl, rfl⟩
end Go.Proofs.YtnlmfklpebekdaaGreatDoor
