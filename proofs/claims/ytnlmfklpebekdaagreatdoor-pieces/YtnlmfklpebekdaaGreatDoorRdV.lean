import Derived.Test.YtnlmfklpebekdaaGreatDoorRdS
set_option linter.unusedSimpArgs false
set_option linter.unusedVariables false
namespace Go.Proofs.YtnlmfklpebekdaaGreatDoor
open Go.RowKit Go.PlainAid

/-- Behind an attribute's name: where what belongs to the value ends. -/
def valA (R : RC) (ps : Nat) : Nat := scan (fun c => !inSet ⟨#[32, 9, 10, 12]⟩ c) R.cs ps
def valEnd (R : RC) (ps : Nat) : Nat := if pre (R.cs.extract (valA R ps) R.cs.size) ⟨#[61]⟩ = true then rawEnd R (valA R (valA R ps + 1)) else valA R ps
theorem valA_le {R : RC} {ps : Nat} (h : ps ≤ R.cs.size) : valA R ps ≤ R.cs.size := scan_le h
theorem valA_ge {R : RC} {ps : Nat} : ps ≤ valA R ps := scan_ge
theorem valEnd_le {R : RC} {ps : Nat} (h : ps ≤ R.cs.size) : valEnd R ps ≤ R.cs.size := by
  unfold valEnd; split
  · rename_i h1; exact rawEnd_le (valA_le (pre_rest h1 (valA_le h)))
  · exact valA_le h
theorem valEnd_ge {R : RC} {ps : Nat} : ps ≤ valEnd R ps := by
  unfold valEnd; split
  · have h1 := valA_ge (R := R) (ps := ps)
    have h2 := valA_ge (R := R) (ps := valA R ps + 1)
    have h3 := rawEnd_ge (R := R) (ps := valA R (valA R ps + 1))
    omega
  · exact valA_ge

/-- The names that a reader has. -/
structure Nm (w : World) (r : Nat) (R : RC) (b lg : Nat) (look : ByteArray → Option ByteArray) : Prop where
  lk : Lk w b look
  ne : b ≠ r
  mv : R.mv = .map (some b)
  lgv : R.lg = lg
  le : lg ≤ 1048576
theorem Nm.kept {w w' : World} {r : Nat} {R : RC} {b lg : Nat} {look : ByteArray → Option ByteArray} (h : Nm w r R b lg look) (hk : Kept [r] w w') : Nm w' r R b lg look :=
  ⟨h.lk.kept hk (by simp [h.ne]), h.ne, h.mv, h.lgv, h.le⟩

set_option maxRecDepth 100000 in
set_option maxHeartbeats 1000000 in
theorem value_any (r : Nat) (R : RC) (bg ps b lg : Nat) (look : ByteArray → Option ByteArray) (w : World) (h : Rd w r R bg ps) (hN : Nm w r R b lg look) (hG : Gl w r) (hp : ps ≤ R.cs.size) (hs : R.cs.size ≤ 1024) :
    Calls Tryz.prog 96 #[.pointer (some ⟨r, 0, none⟩)] w fun e w' => (∃ t, e = .returned (.string t)) ∧ Kept [r] w w' ∧ Rd w' r R bg (valEnd R ps) := by
  have HP := hide (passOver_any r R bg ps ⟨#[32, 9, 10, 12]⟩ w h hp hs)
  have HN := hide hN
  have HG := hide hG
  have ha := valA_le (R := R) hp
  clear h hN hG
  cases he : pre (R.cs.extract (valA R ps) R.cs.size) ⟨#[61]⟩
  · have ev : valEnd R ps = valA R ps := by unfold valEnd; rw [if_neg (by simp [he])]
    rw [ev]
    have htk : taken R ⟨#[61]⟩ (valA R ps) = valA R ps := by unfold taken; rw [if_neg (by simp [he])]
    clear ev
    go_enter Tryz.func96, Tryz.ntmps96
    go_wp2_with fail
    refine HP.out.mono ?_
    rintro e w1 ⟨rfl, hk1, hr1⟩
    have T := take_any r R bg (valA R ps) ⟨#[61]⟩ w1 hr1 ha hs (by decide)
    rw [he, htk] at T
    have HT := hide T
    have HK1 := hide hk1
    clear T hk1 hr1
    go_wp2_with fail
    refine HT.out.mono ?_
    rintro e w2 ⟨rfl, hk2, hr2⟩
    have HK2 := hide (HK1.out.trans hk2)
    have HR2 := hide hr2
    clear hk2 hr2
    go_wp2
    go_ret
    exact ⟨⟨_, rfl⟩, HK2.out, HR2.out⟩
  · have ev : valEnd R ps = rawEnd R (valA R (valA R ps + 1)) := by unfold valEnd; rw [if_pos he]
    rw [ev]
    have htk : taken R ⟨#[61]⟩ (valA R ps) = valA R ps + 1 := by unfold taken; rw [if_pos he]; rfl
    have hb : valA R ps + 1 ≤ R.cs.size := pre_rest he ha
    clear ev
    go_enter Tryz.func96, Tryz.ntmps96
    go_wp2_with fail
    refine HP.out.mono ?_
    rintro e w1 ⟨rfl, hk1, hr1⟩
    have T := take_any r R bg (valA R ps) ⟨#[61]⟩ w1 hr1 ha hs (by decide)
    rw [he, htk] at T
    have HT := hide T
    have HK1 := hide hk1
    clear T hk1 hr1
    go_wp2_with fail
    refine HT.out.mono ?_
    rintro e w2 ⟨rfl, hk2, hr2⟩
    have HK2 := hide (HK1.out.trans hk2)
    have HP2 := hide (passOver_any r R bg (valA R ps + 1) ⟨#[32, 9, 10, 12]⟩ w2 hr2 hb hs)
    clear hk2 hr2 HT
    go_wp2_with fail
    refine HP2.out.mono ?_
    rintro e w3 ⟨rfl, hk3, hr3⟩
    have HK3 := hide (HK2.out.trans hk3)
    have HR3 : Hid (Rd w3 r R bg (valA R (valA R ps + 1))) := hr3
    have hc := valA_le (R := R) hb
    have mv : w3.cell? ⟨r, 5, none⟩ = some (.map (some b)) := by rw [hr3.mv, HN.out.mv]
    have lv : w3.cell? ⟨r, 6, none⟩ = some (.int .i64 (lg : Int)) := by rw [hr3.lg, HN.out.lgv]
    clear hk3 hr3
    have CR := hide (rawValue_any r R bg (valA R (valA R ps + 1)) w3.drew (show Rd w3.drew r R bg _ from HR3.out) hc hs)
    go_wp2_with fail
    go_region_with (first
      | (go_at_call 107; refine CR.out.mono ?_; rintro e w4 ⟨⟨t, ht, rfl⟩, hk4, hr4⟩; have mv4 := hr4.mv; rw [HN.out.mv] at mv4; have lv4 := hr4.lg; rw [HN.out.lgv] at lv4)
      | (go_at_call 106; refine (value_names b lg look _ _ (HN.out.kept (HK3.out.drew.trans hk4)).lk HN.out.le (by omega)).mono ?_; rintro e w5 ⟨⟨u, hu, rfl⟩, hk5⟩)
      | (go_at_call 69; refine (noNul_any r _ _ (by omega) ((HG.out.kept (HK3.out.drew.trans hk4)).kept (hk5.mono (by simp)))).mono ?_; rintro e w6 ⟨rfl, hk6⟩))
    all_goals (try go_wp2)
    all_goals (try go_ret)
    all_goals exact ⟨⟨_, rfl⟩, (HK3.out.drew.trans hk4).trans ((hk5.trans hk6).mono (by simp)), (hr4.kept hk5 (by simp)).kept hk6 (by simp)⟩
end Go.Proofs.YtnlmfklpebekdaaGreatDoor

namespace Go.Proofs.YtnlmfklpebekdaaGreatDoor
open Go.RowKit Go.PlainAid

/-- Attributes, as cells. -/
def acells (L : List (ByteArray × ByteArray)) : List Value := L.flatMap fun p => [.string p.1, .string p.2]
theorem acells_append (L M : List (ByteArray × ByteArray)) : acells (L ++ M) = acells L ++ acells M := by unfold acells; rw [List.flatMap_append]
theorem acells_even (L : List (ByteArray × ByteArray)) (i : Nat) (h : i < L.length) : (acells L)[i * 2]? = some (.string (L[i]).1) ∧ (acells L)[i * 2 + 1]? = some (.string (L[i]).2) := by
  induction L generalizing i with
  | nil => simp at h
  | cons p L ih =>
    show (Value.string p.1 :: Value.string p.2 :: acells L)[i * 2]? = _ ∧ (Value.string p.1 :: Value.string p.2 :: acells L)[i * 2 + 1]? = _
    cases i with
    | zero => simp
    | succ i =>
      have := ih i (by simpa using h)
      rw [show (i + 1) * 2 = i * 2 + 1 + 1 from by omega]
      simpa using this
def nth (ns : List ByteArray) (i : Nat) : ByteArray × ByteArray := (ns.getD i ⟨#[]⟩, ⟨#[]⟩)
/-- One of these names is s. -/
def isIn (ns : List ByteArray) (s : ByteArray) : Bool := hasFrom (nth ns) ns.length s 0
theorem hasFrom_congr {A B : Nat → ByteArray × ByteArray} {n : Nat} {s : ByteArray} (h : ∀ i, i < n → (A i).1 = (B i).1) (i : Nat) : hasFrom A n s i = hasFrom B n s i := by
  fun_induction hasFrom A n s i with
  | case1 i hi he => rw [hasFrom.eq_1 B, if_pos hi, ← h i hi, if_pos he]
  | case2 i hi he ih => rw [hasFrom.eq_1 B, if_pos hi, ← h i hi, if_neg he, ih]
  | case3 i hi => rw [hasFrom.eq_1 B, if_neg hi]

set_option maxRecDepth 100000 in
set_option maxHeartbeats 1000000 in
theorem has_none (x y : Int) (nm s : ByteArray) (w : World) :
    Calls Tryz.prog 95 #[.agg #[.int .i64 x, .int .i64 y, .string nm, .slice none 0 0], .string s] w fun e w' => e = .returned (.bool false) ∧ Kept [] w w' := by
  have HK := hide ((Kept.refl [] w).alloc (.cells #[.int .i64 x, .int .i64 y, .string nm, .slice none 0 0] 138))
  go_enter Tryz.func95, Tryz.ntmps95
  go_wp2_with fail
  go_loopw [10] (fun v wr => v = .int .i64 0 ∧ Kept [] w wr) (fun v _ => 0)
  case atStart => exact ⟨rfl, HK.out⟩
  case round =>
    obtain ⟨rfl, hkw⟩ := hrel
    have HKW := hide hkw
    clear hkw
    go_wp2
    go_ret
    exact ⟨rfl, HKW.out⟩

/-- The i-th attribute. -/
def nth2 (L : List (ByteArray × ByteArray)) (i : Nat) : ByteArray × ByteArray := L.getD i (⟨#[]⟩, ⟨#[]⟩)

theorem has_tag (base : Nat) (x y : Int) (nm s : ByteArray) (av : Value) (L : List (ByteArray × ByteArray)) (w : World) (ho : w.ownsRow base 179 2 av L.length (acells L)) (hn : L.length ≤ 1048576) :
    Calls Tryz.prog 95 #[.agg #[.int .i64 x, .int .i64 y, .string nm, av], .string s] w fun e w' => e = .returned (.bool (isIn (L.map (·.1)) s)) ∧ Kept [] w w' := by
  rcases ho.2 with ⟨rfl, h0⟩ | ⟨g, cap, cur, rfl, hbg, hg, _⟩
  · have e : isIn (L.map (·.1)) s = false := by
      have : L = [] := List.eq_nil_of_length_eq_zero h0
      subst this; unfold isIn; rw [hasFrom.eq_1]; simp
    rw [e]
    exact has_none x y nm s w
  · have hA : Atts w g L.length (nth2 L) := by
      refine ⟨fun _ => lt_of_block hg, fun i hi => ?_, fun i hi => ?_⟩
      · have := ho.cells (g := g) rfl (i * 2) _ (acells_even L i hi).1
        rw [addr_add] at this
        rw [this]; simp [nth2, hi]
      · have := ho.cells (g := g) rfl (i * 2 + 1) _ (acells_even L i hi).2
        rw [addr_add] at this
        rw [this]; simp [nth2, hi]
    have e : isIn (L.map (·.1)) s = hasFrom (nth2 L) L.length s 0 := by
      unfold isIn
      rw [List.length_map]
      exact hasFrom_congr (fun i hi => by simp [nth, nth2, hi]) 0
    rw [e]
    exact has_any x y nm s g L.length cap _ w hA hn
end Go.Proofs.YtnlmfklpebekdaaGreatDoor
