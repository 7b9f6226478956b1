import Derived.Test.YtnlmfklpebekdaaGreatDoorPuB
set_option linter.unusedSimpArgs false
set_option linter.unusedVariables false
namespace Go.Proofs.YtnlmfklpebekdaaGreatDoor
open Go.RowKit Go.PlainAid

/-- The reader with other places, other names: what the positions do not hang on. -/
def alt (R : RC) (x y : Value) : RC := { R with av := x, mv := y }
theorem cend_alt (R : RC) (x y : Value) (i : Nat) : cend (alt R x y) i = cend R i := by
  fun_induction cend R i with
  | case1 i h h1 => rw [cend.eq_1, if_pos (show i < (alt R x y).cs.size from h), if_pos (show pre ((alt R x y).cs.extract i (alt R x y).cs.size) e1 = true from h1)]
  | case2 i h h1 h2 => rw [cend.eq_1, if_pos (show i < (alt R x y).cs.size from h), if_neg (show ¬ pre ((alt R x y).cs.extract i (alt R x y).cs.size) e1 = true from h1), if_pos (show pre ((alt R x y).cs.extract i (alt R x y).cs.size) e2 = true from h2)]
  | case3 i h h1 h2 ih => rw [cend.eq_1, if_pos (show i < (alt R x y).cs.size from h), if_neg (show ¬ pre ((alt R x y).cs.extract i (alt R x y).cs.size) e1 = true from h1), if_neg (show ¬ pre ((alt R x y).cs.extract i (alt R x y).cs.size) e2 = true from h2)]; exact ih
  | case4 i h => rw [cend.eq_1, if_neg (show ¬ i < (alt R x y).cs.size from h)]
theorem cmtEnd_alt (R : RC) (x y : Value) (i : Nat) : cmtEnd (alt R x y) i = cmtEnd R i := by
  unfold cmtEnd; rw [cend_alt]; rfl
theorem tagGo_alt (R : RC) (x y : Value) (ns : List ByteArray) (ps : Nat) : tagGo (alt R x y) ns ps = tagGo R ns ps := by
  fun_induction tagGo R ns ps with
  | case1 ns ps h h1 => rw [tagGo.eq_1, dif_pos (show skipBS (alt R x y) ps < (alt R x y).cs.size from h), if_pos (show pre ((alt R x y).cs.extract (skipBS (alt R x y) ps) (alt R x y).cs.size) ⟨#[62]⟩ = true from h1)]; rfl
  | case2 ns ps h h1 h2 => rw [tagGo.eq_1, dif_pos (show skipBS (alt R x y) ps < (alt R x y).cs.size from h), if_neg (show ¬ pre ((alt R x y).cs.extract (skipBS (alt R x y) ps) (alt R x y).cs.size) ⟨#[62]⟩ = true from h1), if_pos (show tooMany (alt R x y) ns (skipBS (alt R x y) ps) = true from h2)]
  | case3 ns ps h h1 h2 ih => rw [tagGo.eq_1, dif_pos (show skipBS (alt R x y) ps < (alt R x y).cs.size from h), if_neg (show ¬ pre ((alt R x y).cs.extract (skipBS (alt R x y) ps) (alt R x y).cs.size) ⟨#[62]⟩ = true from h1), if_neg (show ¬ tooMany (alt R x y) ns (skipBS (alt R x y) ps) = true from h2)]; exact ih
  | case4 ns ps h => rw [tagGo.eq_1, dif_neg (show ¬ skipBS (alt R x y) ps < (alt R x y).cs.size from h)]
theorem slash_alt (R : RC) (x y : Value) (look : ByteArray → Option ByteArray) (lg bg ps : Nat) : slashTok (alt R x y) look lg bg ps = slashTok R look lg bg ps := by
  unfold slashTok; rw [tagGo_alt]; rfl
theorem less_alt (R : RC) (x y : Value) (look : ByteArray → Option ByteArray) (lg bg ps : Nat) : lessTok (alt R x y) look lg bg ps = lessTok R look lg bg ps := by
  unfold lessTok; rw [tagGo_alt, slash_alt, cmtEnd_alt]; rfl
theorem next_alt (R : RC) (x y : Value) (look : ByteArray → Option ByteArray) (lg ps : Nat) : nextTok (alt R x y) look lg ps = nextTok R look lg ps := by
  unfold nextTok; rw [less_alt]; rfl
theorem readGo_alt (R : RC) (x y : Value) (look : ByteArray → Option ByteArray) (lg : Nat) (cut : Nat → Nat) (L : List Sp) (ps : Nat) : readGo (alt R x y) look lg cut L ps = readGo R look lg cut L ps := by
  fun_induction readGo R look lg cut L ps with
  | case1 L ps h => exact readGo_stop (by rw [next_alt]; exact h)
  | case2 L ps m h => exact readGo_end (m := m) (by rw [next_alt]; exact h)
  | case3 L ps kd m h hk hm ih =>
    have h9 : nextTok (alt R x y) look lg ps = .tok kd m := by rw [next_alt]; exact h
    exact (readGo_tok (R := alt R x y) h9 hk hm).trans ih
  | case4 L ps kd m h hk hm =>
    rw [readGo.eq_1, next_alt, h]
    simp only [if_neg hk]
    rw [if_neg (show ¬ (ps < m ∧ m ≤ (alt R x y).cs.size) from hm)]
/-- One text, one reading. -/
theorem readGo_one (s : ByteArray) (lim : Int) (av av' : Value) (b b' : Nat) (look : ByteArray → Option ByteArray) (lg : Nat) (cut : Nat → Nat) (L : List Sp) (ps : Nat) : readGo (rcOf s lim av b) look lg cut L ps = readGo (rcOf s lim av' b') look lg cut L ps :=
  readGo_alt (rcOf s lim av' b') av (.map (some b)) look lg cut L ps
end Go.Proofs.YtnlmfklpebekdaaGreatDoor
