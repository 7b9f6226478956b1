import Derived.Test.YtnlmfklpebekdaaGreatDoorRdZD
set_option linter.unusedSimpArgs false
set_option linter.unusedVariables false
namespace Go.Proofs.YtnlmfklpebekdaaGreatDoor
open Go.RowKit Go.PlainAid

/-- What is asked of a token that begins at bg. -/
def Good (R : RC) (bg : Nat) : Tok → Prop
  | .stop => True
  | .tok kd m => bg < m ∧ m ≤ R.cs.size ∧ 1 ≤ kd ∧ kd ≤ 6 ∧ (kd ≠ 1 → m = R.cs.size ∨ bt R.cs (m - 1) = 62)

theorem bt_gt {R : RC} {ps : Nat} (h : pre (R.cs.extract ps R.cs.size) ⟨#[62]⟩ = true) : bt R.cs ps = 62 := by
  have := bt_pre (j := 0) h (by decide)
  rw [Nat.add_zero] at this
  exact this.trans rfl
theorem gtEnd_shut {R : RC} {ps : Nat} (h : ps ≤ R.cs.size) : gtEnd R ps = R.cs.size ∨ (ps < gtEnd R ps ∧ bt R.cs (gtEnd R ps - 1) = 62) := by
  unfold gtEnd taken
  split
  · rename_i h1
    right
    have h2 : ps ≤ scan (inSet ⟨#[62]⟩) R.cs ps := scan_ge
    have e : (ByteArray.mk #[62]).size = 1 := rfl
    rw [e]
    exact ⟨by omega, by rw [Nat.add_sub_cancel]; exact bt_gt h1⟩
  · rename_i h1
    left
    rcases Nat.lt_or_ge (scan (inSet ⟨#[62]⟩) R.cs ps) R.cs.size with hlt | hge
    · exfalso
      apply h1
      have h3 := inSet_gt (bt_nonneg _ _) (bt_le _ _) (scan_at hlt)
      have hz : (R.cs.extract (scan (inSet ⟨#[62]⟩) R.cs ps) R.cs.size).size = R.cs.size - scan (inSet ⟨#[62]⟩) R.cs ps := by simp
      generalize scan (inSet ⟨#[62]⟩) R.cs ps = i at *
      unfold pre
      have hz2 : (ByteArray.mk #[62]).size = 1 := rfl
      rw [hz2]
      have h4 : bt ((R.cs.extract i R.cs.size).extract 0 1) 0 = 62 := by
        rw [bt_ext (by omega) (by rw [hz]; omega), Nat.zero_add]
        rw [bt_ext (by omega) (Nat.le_refl _), Nat.add_zero]; exact h3
      have hsz : ((R.cs.extract i R.cs.size).extract 0 1).size = 1 := by simp; omega
      rw [hz]
      have h5 : (R.cs.extract i R.cs.size).extract 0 1 = ⟨#[62]⟩ := by
        generalize (R.cs.extract i R.cs.size).extract 0 1 = X at h4 hsz
        obtain ⟨⟨l⟩⟩ := X
        match l, hsz with
        | [x], _ =>
          have : (x.toNat : Int) = 62 := h4
          have hx : x = 62 := by apply UInt8.toNat_inj.1; show x.toNat = 62; omega
          rw [hx]
      rw [h5]
      simp; omega
    · have := scan_le (q := inSet ⟨#[62]⟩) h; omega
theorem tagGo_whole {R : RC} {ns : List ByteArray} {ps : Nat} : ∀ {m : Nat}, tagGo R ns ps = .whole m → ps < m ∧ m ≤ R.cs.size ∧ bt R.cs (m - 1) = 62 := by
  fun_induction tagGo R ns ps with
  | case1 ns ps h h1 =>
    intro m hm
    obtain rfl := TagOut.whole.inj hm
    have := skipBS_ge (R := R) (ps := ps)
    exact ⟨by omega, by omega, by rw [Nat.add_sub_cancel]; exact bt_gt h1⟩
  | case2 => intro m hm; cases hm
  | case3 ns ps h h1 h2 ih =>
    intro m hm
    have := ih hm
    have g1 := skipBS_ge (R := R) (ps := ps)
    have g2 := nameEnd_gt (R := R) (ps := skipBS R ps)
    have g3 := valEnd_ge (R := R) (ps := nameEnd R (skipBS R ps))
    exact ⟨by omega, this.2⟩
  | case4 => intro m hm; cases hm
theorem tag_good {R : RC} {bg ps kd : Nat} (hb : bg < R.cs.size) (hp : bg < ps) (hk : 1 ≤ kd) (hk2 : kd ≤ 6) : Good R bg (tagTok R kd (tagGo R [] (tagA R ps))) := by
  have h1 := tagA_ge (R := R) (ps := ps)
  cases h : tagGo R [] (tagA R ps) with
  | stop => trivial
  | lost => exact ⟨hb, Nat.le_refl _, by omega, by omega, fun _ => .inl rfl⟩
  | whole m =>
    have := tagGo_whole h
    exact ⟨by omega, this.2.1, hk, hk2, fun _ => .inr this.2.2⟩
theorem char_good {R : RC} {look : ByteArray → Option ByteArray} {lg bg : Nat} (hb : bg < R.cs.size) : Good R bg (charTok R look lg bg) := by
  have h1 := charSize_pos (look := look) (lg := lg) (s := R.cs.extract bg R.cs.size)
  have h2 := charSize_le (look := look) (lg := lg) (s := R.cs.extract bg R.cs.size) (by simp; omega)
  have hz : (R.cs.extract bg R.cs.size).size = R.cs.size - bg := by simp
  exact ⟨by omega, by omega, Nat.le_refl _, by omega, fun h => absurd rfl h⟩
theorem loose_good {R : RC} {bg ps kd : Nat} (hb : bg < ps) (hp : ps ≤ R.cs.size) (hk : 1 ≤ kd) (hk2 : kd ≤ 6) : Good R bg (.tok kd (gtEnd R ps)) := by
  have h1 := gtEnd_ge (R := R) (ps := ps)
  refine ⟨by omega, gtEnd_le hp, hk, hk2, fun _ => ?_⟩
  rcases gtEnd_shut hp with h | ⟨_, h⟩
  · exact .inl h
  · exact .inr h
theorem slash_good {R : RC} {look : ByteArray → Option ByteArray} {lg bg ps : Nat} (hb : bg < R.cs.size) (hp : bg < ps) (hs : ps ≤ R.cs.size) : Good R bg (slashTok R look lg bg ps) := by
  unfold slashTok
  split
  · exact tag_good hb hp (by omega) (by omega)
  · split
    · rename_i h
      have : ps + 1 ≤ R.cs.size := pre_rest h hs
      exact ⟨by omega, this, by omega, by omega, fun _ => .inr (by rw [Nat.add_sub_cancel]; exact bt_gt h)⟩
    · split
      · exact char_good hb
      · exact loose_good hp hs (by omega) (by omega)
theorem less_good {R : RC} {look : ByteArray → Option ByteArray} {lg bg ps : Nat} (hb : bg < R.cs.size) (hp : bg < ps) (hs : ps ≤ R.cs.size) : Good R bg (lessTok R look lg bg ps) := by
  unfold lessTok
  split
  · exact tag_good hb hp (by omega) (by omega)
  split
  · rename_i h; exact slash_good hb (by omega) (pre_rest h hs)
  split
  · rename_i h
    have h3 : ps + 3 ≤ R.cs.size := pre_rest h hs
    have h1 := cmtEnd_ge (R := R) (ps := ps + 3)
    refine ⟨by omega, cmtEnd_le h3, by omega, by omega, fun _ => ?_⟩
    rcases cmtEnd_shut h3 with h | ⟨_, h⟩
    · exact .inl h
    · exact .inr h
  split
  · rename_i h
    have h8 : ps + 8 ≤ R.cs.size := isAny_le h hs
    have := dtB_ge (R := R) (ps := ps + 8)
    exact loose_good (by omega) (dtB_le h8) (by omega) (by omega)
  split
  · rename_i h; exact loose_good (by omega) (pre_rest h hs) (by omega) (by omega)
  split
  · exact loose_good hp hs (by omega) (by omega)
  · exact char_good hb
theorem next_good {R : RC} {look : ByteArray → Option ByteArray} {lg ps : Nat} (hp : ps < R.cs.size) : Good R ps (nextTok R look lg ps) ∧ (∀ kd m, nextTok R look lg ps = .tok kd m → kd ≠ 1 → bt R.cs ps = 60) := by
  unfold nextTok
  rw [if_neg (by omega)]
  split
  · rename_i h
    refine ⟨less_good hp (by omega) (pre_rest h (by omega)), fun _ _ _ _ => ?_⟩
    have := bt_pre (j := 0) h (by decide)
    rw [Nat.add_zero] at this
    exact this.trans rfl
  · refine ⟨char_good hp, fun kd m h h1 => ?_⟩
    unfold charTok at h
    obtain ⟨rfl, _⟩ := Tok.tok.inj h
    exact absurd rfl h1
theorem next_end {R : RC} {look : ByteArray → Option ByteArray} {lg : Nat} : nextTok R look lg R.cs.size = .tok 0 R.cs.size := by unfold nextTok; rw [if_pos rfl]
theorem next_zero {R : RC} {look : ByteArray → Option ByteArray} {lg ps m : Nat} (hp : ps ≤ R.cs.size) (h : nextTok R look lg ps = .tok 0 m) : ps = R.cs.size := by
  rcases Nat.lt_or_ge ps R.cs.size with h1 | h1
  · have := (next_good (look := look) (lg := lg) h1).1
    rw [h] at this
    exact absurd this.2.2.1 (by omega)
  · omega
end Go.Proofs.YtnlmfklpebekdaaGreatDoor
