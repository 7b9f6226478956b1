import Derived.Test.YtnlmfklpebekdaaGreatDoorReB
set_option linter.unusedSimpArgs false
set_option linter.unusedVariables false
namespace Go.Proofs.YtnlmfklpebekdaaGreatDoor
open Go.RowKit Go.PlainAid

theorem ats_mono {s : ByteArray} {a b : Nat} (h : a ≤ b) : (ats s a).length ≤ (ats s b).length := by
  induction b with
  | zero => have : a = 0 := by omega
            subst this; exact Nat.le_refl _
  | succ b ih =>
    rcases Nat.lt_or_ge b a with h1 | h1
    · have : a = b + 1 := by omega
      subst this; exact Nat.le_refl _
    · have := ih h1
      cases hk : keepB s b
      · rw [ats_no hk]; exact this
      · rw [ats_yes hk]; simp; omega
theorem ats_idx {s : ByteArray} {n j : Nat} : j < (ats s n).length → ∃ c, c < n ∧ keepB s c = true ∧ (ats s c).length = j ∧ (ats s n)[j]? = some c := by
  induction n with
  | zero => intro h; simp [ats] at h
  | succ n ih =>
    intro h
    cases hk : keepB s n
    · rw [ats_no hk] at h ⊢
      obtain ⟨c, h1, h2, h3, h4⟩ := ih h
      exact ⟨c, by omega, h2, h3, h4⟩
    · rw [ats_yes hk] at h ⊢
      rcases Nat.lt_or_ge j (ats s n).length with h1 | h1
      · obtain ⟨c, g1, g2, g3, g4⟩ := ih h1
        exact ⟨c, by omega, g2, g3, by rw [List.getElem?_append_left h1]; exact g4⟩
      · have : j = (ats s n).length := by simp at h; omega
        subst this
        exact ⟨n, by omega, hk, rfl, by simp⟩
theorem ats_get {s : ByteArray} {n c : Nat} (hk : keepB s c = true) : c < n → (ats s n)[(ats s c).length]? = some c := by
  induction n with
  | zero => intro h; omega
  | succ n ih =>
    intro h
    rcases Nat.lt_or_ge c n with h1 | h1
    · have h2 := ih h1
      have h3 : (ats s c).length < (ats s n).length := by
        rcases Nat.lt_or_ge (ats s c).length (ats s n).length with h | h
        · exact h
        · rw [List.getElem?_eq_none h] at h2; cases h2
      cases hn : keepB s n
      · rw [ats_no hn]; exact h2
      · rw [ats_yes hn, List.getElem?_append_left h3]; exact h2
    · have : c = n := by omega
      subst this
      rw [ats_yes hk]; simp
/-- The place of a character. -/
theorem cut_at {s : ByteArray} {j : Nat} (h : j < (csOf s).size) : ∃ c, c < s.size ∧ keepB s c = true ∧ (ats s c).length = j ∧ cutOf s j = c ∧ bt (csOf s) j = chI s c := by
  rw [csOf_size] at h
  obtain ⟨c, h1, h2, h3, h4⟩ := ats_idx h
  refine ⟨c, h1, h2, h3, ?_, ?_⟩
  · unfold cutOf
    rw [List.getD_eq_getElem?_getD, List.getElem?_append_left h, h4]; rfl
  · have hj : j < (csOf s).size := by rw [csOf_size]; exact h
    unfold bt
    rw [dif_pos hj]
    show (((((ats s s.size).map (chB s)).toArray)[j]'(by simpa using h)).toNat : Int) = _
    have e : (ats s s.size)[j] = c := by rw [List.getElem?_eq_getElem h] at h4; exact Option.some.inj h4
    simp only [List.getElem_toArray, List.getElem_map, e]
    exact chB_toNat s c
theorem cut_last (s : ByteArray) : cutOf s (csOf s).size = s.size := by
  unfold cutOf
  rw [csOf_size, List.getD_eq_getElem?_getD, List.getElem?_append_right (Nat.le_refl _)]; simp
theorem cut_lt {s : ByteArray} {i j : Nat} (hij : i < j) (hj : j ≤ (csOf s).size) : cutOf s i < cutOf s j := by
  obtain ⟨c, h1, _, h3, h4, _⟩ := cut_at (s := s) (j := i) (by omega)
  rw [h4]
  rcases Nat.lt_or_ge j (csOf s).size with hl | hl
  · obtain ⟨d, _, _, g3, g4, _⟩ := cut_at hl
    rw [g4]
    rcases Nat.lt_or_ge c d with h | h
    · exact h
    · have := ats_mono (s := s) h; omega
  · have : j = (csOf s).size := by omega
    rw [this, cut_last]; exact h1
theorem cut_le {s : ByteArray} {i : Nat} (h : i ≤ (csOf s).size) : cutOf s i ≤ s.size := by
  rcases Nat.lt_or_ge i (csOf s).size with hl | hl
  · have := cut_lt hl (Nat.le_refl _); rw [cut_last] at this; omega
  · have : i = (csOf s).size := by omega
    rw [this, cut_last]; exact Nat.le_refl _
theorem cut_zero (s : ByteArray) : cutOf s 0 = 0 := by
  rcases Nat.eq_zero_or_pos s.size with h | h
  · have := cut_le (s := s) (i := 0) (Nat.zero_le _); omega
  · have hk : keepB s 0 = true := by unfold keepB; simp
    have h2 := ats_get (s := s) (n := s.size) hk h
    have h3 : (ats s 0).length = 0 := rfl
    rw [h3] at h2
    have hl : 0 < (ats s s.size).length := by
      rcases Nat.eq_zero_or_pos (ats s s.size).length with h | h
      · rw [List.getElem?_eq_none (by omega)] at h2; cases h2
      · exact h
    unfold cutOf
    rw [List.getD_eq_getElem?_getD, List.getElem?_append_left hl, h2]; rfl
theorem cut_open {s : ByteArray} {i : Nat} (h : i < (csOf s).size) (hb : bt (csOf s) i = 60) : bt s (cutOf s i) = 60 := by
  obtain ⟨c, _, _, _, h4, h5⟩ := cut_at h
  rw [h4]
  rw [h5] at hb
  unfold chI at hb
  split at hb
  · omega
  · exact hb
theorem cut_shut {s : ByteArray} {m : Nat} (h0 : 0 < m) (h : m ≤ (csOf s).size) (hb : bt (csOf s) (m - 1) = 62) : bt s (cutOf s m - 1) = 62 := by
  obtain ⟨c, h1, h2, h3, h4, h5⟩ := cut_at (s := s) (j := m - 1) (by omega)
  rw [h5] at hb
  have hc : bt s c = 62 := by
    unfold chI at hb
    split at hb
    · omega
    · exact hb
  have hl : (ats s (c + 1)).length = m := by rw [ats_yes h2]; simp; omega
  have e : cutOf s m = c + 1 := by
    rcases Nat.lt_or_ge (c + 1) s.size with h6 | h6
    · have hk : keepB s (c + 1) = true := by unfold keepB; simp [hc]
      have h7 := ats_get (s := s) hk h6
      rw [hl] at h7
      have h8 : m < (ats s s.size).length := by
        rcases Nat.lt_or_ge m (ats s s.size).length with h | h
        · exact h
        · rw [List.getElem?_eq_none h] at h7; cases h7
      unfold cutOf
      rw [List.getD_eq_getElem?_getD, List.getElem?_append_left h8, h7]; rfl
    · have h7 : c + 1 = s.size := by omega
      rw [h7] at hl
      rw [← hl, ← csOf_size, cut_last]; omega
  rw [e, Nat.add_sub_cancel]; exact hc

/-- Spans, the last ahead, from 0 up to p. -/
def RCh (s : ByteArray) : List Sp → Nat → Prop
  | [], p => p = 0
  | x :: xs, p => x.b = (p : Int) ∧ ∃ q : Nat, x.a = (q : Int) ∧ q < p ∧ 1 ≤ x.k ∧ x.k ≤ 6 ∧ (x.k ≠ 1 → bt s q = 60 ∧ (bt s (p - 1) = 62 ∨ p = s.size)) ∧ (x.k = 1 → ∀ y ys, xs = y :: ys → y.k ≠ 1) ∧ RCh s xs q
theorem RCh_add {s : ByteArray} {L : List Sp} {p p' : Nat} {kd : Nat} (h : RCh s L.reverse p) (hp : p < p') (hk : 1 ≤ kd) (hk2 : kd ≤ 6) (ho : kd ≠ 1 → bt s p = 60 ∧ (bt s (p' - 1) = 62 ∨ p' = s.size)) : RCh s (addSp L ⟨kd, p, p'⟩).reverse p' := by
  rcases List.eq_nil_or_concat L with rfl | ⟨M, l, rfl⟩
  · rw [addSp_nil]
    have hp0 : p = 0 := h
    exact ⟨rfl, p, rfl, hp, by simp; omega, by simp; omega, fun h1 => ho (by intro e; apply h1; simp [e]), (fun _ y ys e => by cases e), hp0⟩
  · rw [List.concat_eq_append] at h ⊢
    rw [List.reverse_append] at h
    simp only [List.reverse_cons, List.reverse_nil, List.nil_append, List.singleton_append] at h
    by_cases hj : ((kd : Nat) : Int) = 1 ∧ l.k = 1
    · rw [addSp_yes M l _ hj, List.reverse_append]
      obtain ⟨h1, q, h2, h3, h4, h5, h6, h7, h8⟩ := h
      exact ⟨rfl, q, h2, by omega, h4, h5, fun hne => absurd hj.2 hne, h7, h8⟩
    · rw [addSp_no M l _ hj, List.reverse_append, List.reverse_append]
      refine ⟨rfl, p, rfl, hp, by simp; omega, by simp; omega, fun h1 => ho (by intro e; apply h1; simp [e]), fun h1 y ys e => ?_, h⟩
      simp only [List.reverse_cons, List.reverse_nil, List.nil_append, List.singleton_append, List.cons.injEq] at e
      obtain ⟨rfl, _⟩ := e
      exact fun h2 => hj ⟨h1, h2⟩
theorem readGo_chain {s : ByteArray} {lim : Int} {av : Value} {b lg : Nat} {look : ByteArray → Option ByteArray} {R : RC} (hR : R = rcOf s lim av b) {L : List Sp} {ps : Nat} : ps ≤ R.cs.size → RCh s L.reverse (cutOf s ps) → ∀ {M : List Sp}, readGo R look lg (cutOf s) L ps = .done M → RCh s M.reverse s.size := by
  have hcs : R.cs = csOf s := by rw [hR]; rfl
  fun_induction readGo R look lg (cutOf s) L ps with
  | case1 => intro _ _ M h; cases h
  | case2 L ps m h =>
    intro hp hc M hM
    obtain rfl := ROut.done.inj hM
    have := next_zero hp h
    rw [this, hcs, cut_last] at hc
    exact hc
  | case3 L ps kd m h hk hm ih =>
    intro hp hc M hM
    have hg := next_good (look := look) (lg := lg) (R := R) (ps := ps) (by omega)
    have h1 := hg.1
    rw [h] at h1
    obtain ⟨g1, g2, g3, g4, g5⟩ := h1
    refine ih hm.2 (RCh_add hc (cut_lt hm.1 (by rw [← hcs]; exact hm.2)) g3 g4 fun hne => ⟨?_, ?_⟩) hM
    · have := hg.2 kd m h hne
      rw [hcs] at this
      exact cut_open (by rw [← hcs]; omega) this
    · rcases g5 hne with h2 | h2
      · right; rw [h2, hcs, cut_last]
      · left
        rw [hcs] at h2
        exact cut_shut (by omega) (by rw [← hcs]; exact hm.2) h2
  | case4 L ps kd m h hk hm =>
    intro hp hc M hM
    exfalso
    have hlt : ps < R.cs.size := by
      rcases Nat.lt_or_ge ps R.cs.size with h9 | h9
      · exact h9
      · have e : ps = R.cs.size := by omega
        rw [e, next_end] at h
        exact absurd (Tok.tok.inj h).1.symm hk
    have h1 := (next_good (look := look) (lg := lg) hlt).1
    rw [h] at h1
    exact hm ⟨h1.1, h1.2.1⟩
theorem readGo_place {s : ByteArray} {R : RC} {look : ByteArray → Option ByteArray} {lg : Nat} (hcs : R.cs = csOf s) {L : List Sp} {ps : Nat} : ps ≤ R.cs.size → ∀ {a : Nat}, readGo R look lg (cutOf s) L ps = .stop a → a ≤ s.size := by
  fun_induction readGo R look lg (cutOf s) L ps with
  | case1 L ps h => intro hp a ha; obtain rfl := ROut.stop.inj ha; exact cut_le (by rw [← hcs]; exact hp)
  | case2 => intro _ a ha; cases ha
  | case3 L ps kd m h hk hm ih => intro hp a ha; exact ih hm.2 ha
  | case4 => intro _ a ha; cases ha

/-- Trail, up to p. -/
structure TrailP (s : ByteArray) (n : Nat) (A : Nat → Sp) (cut : Nat → Nat) (p : Nat) : Prop where
  a : ∀ i, i < n → (A i).a = (cut i : Int)
  b : ∀ i, i < n → (A i).b = (cut (i + 1) : Int)
  lt : ∀ i, i < n → cut i < cut (i + 1)
  le : ∀ i, i ≤ n → cut i ≤ p
  zero : cut 0 = 0
  last : cut n = p
  kd : ∀ i, i < n → 1 ≤ (A i).k ∧ (A i).k ≤ 6
  ch : ∀ i, 0 < i → i < n → (A i).k = 1 → (A (i - 1)).k ≠ 1
  open_ : ∀ i, i < n → (A i).k ≠ 1 → bt s (cut i) = 60
  shut : ∀ i, i < n → (A i).k ≠ 1 → bt s (cut (i + 1) - 1) = 62 ∨ cut (i + 1) = s.size
def spAt (L : List Sp) (i : Nat) : Sp := L.getD i ⟨0, 0, 0⟩
theorem chain_trail {s : ByteArray} {xs : List Sp} : ∀ {p : Nat}, RCh s xs p → ∃ cut, TrailP s xs.length (spAt xs.reverse) cut p := by
  induction xs with
  | nil =>
    intro p h
    have hp : p = 0 := h
    subst hp
    exact ⟨fun _ => 0, by intro i h; simp at h, by intro i h; simp at h, by intro i h; simp at h, fun _ _ => Nat.le_refl _, rfl, rfl, by intro i h; simp at h, by intro i _ h; simp at h, by intro i h; simp at h, by intro i h; simp at h⟩
  | cons x xs ih =>
    intro p h
    obtain ⟨h1, q, h2, h3, h4, h5, h6, h7, h8⟩ := h
    obtain ⟨cut, T⟩ := ih h8
    have el : ∀ i, i < xs.length → spAt (x :: xs).reverse i = spAt xs.reverse i := by
      intro i hi
      unfold spAt
      rw [List.reverse_cons, List.getD_eq_getElem?_getD, List.getD_eq_getElem?_getD, List.getElem?_append_left (by simpa using hi)]
    have ex : spAt (x :: xs).reverse xs.length = x := by
      unfold spAt
      rw [List.reverse_cons, List.getD_eq_getElem?_getD, List.getElem?_append_right (by simp)]
      simp
    have c1 : ∀ i, i ≤ xs.length → (if i ≤ xs.length then cut i else p) = cut i := fun i hi => if_pos hi
    have c2 : (if xs.length + 1 ≤ xs.length then cut (xs.length + 1) else p) = p := if_neg (by omega)
    refine ⟨fun i => if i ≤ xs.length then cut i else p, ?_, ?_, ?_, ?_, ?_, ?_, ?_, ?_, ?_, ?_⟩
    · intro i hi
      rw [c1 i (by simp at hi; omega)]
      rcases Nat.lt_or_ge i xs.length with hl | hl
      · rw [el i hl]; exact T.a i hl
      · have : i = xs.length := by simp at hi; omega
        subst this
        rw [ex, h2, T.last]
    · intro i hi
      rcases Nat.lt_or_ge i xs.length with hl | hl
      · rw [c1 (i + 1) hl, el i hl]; exact T.b i hl
      · have : i = xs.length := by simp at hi; omega
        subst this
        rw [c2, ex, h1]
    · intro i hi
      rcases Nat.lt_or_ge i xs.length with hl | hl
      · show (if i ≤ xs.length then cut i else p) < (if i + 1 ≤ xs.length then cut (i + 1) else p)
        rw [c1 (i + 1) hl, c1 i (by omega)]; exact T.lt i hl
      · have : i = xs.length := by simp at hi; omega
        subst this
        show (if xs.length ≤ xs.length then cut xs.length else p) < (if xs.length + 1 ≤ xs.length then cut (xs.length + 1) else p)
        rw [c2, c1 _ (Nat.le_refl _), T.last]; exact h3
    · intro i hi
      show (if i ≤ xs.length then cut i else p) ≤ p
      rcases Nat.lt_or_ge xs.length i with hl | hl
      · rw [if_neg (by omega)]; exact Nat.le_refl _
      · rw [c1 i hl]; have := T.le i hl; omega
    · show (if 0 ≤ xs.length then cut 0 else p) = 0
      rw [c1 0 (Nat.zero_le _)]; exact T.zero
    · show (if (x :: xs).length ≤ xs.length then cut (x :: xs).length else p) = p
      exact if_neg (by simp)
    · intro i hi
      rcases Nat.lt_or_ge i xs.length with hl | hl
      · rw [el i hl]; exact T.kd i hl
      · have : i = xs.length := by simp at hi; omega
        subst this
        rw [ex]; exact ⟨h4, h5⟩
    · intro i h0 hi hk1
      rcases Nat.lt_or_ge i xs.length with hl | hl
      · rw [el i hl] at hk1; rw [el (i - 1) (by omega)]; exact T.ch i h0 hl hk1
      · have : i = xs.length := by simp at hi; omega
        subst this
        rw [ex] at hk1
        rw [el _ (by omega)]
        cases xs with
        | nil => simp at h0
        | cons y ys =>
          have := h7 hk1 y ys rfl
          have e : spAt (y :: ys).reverse ((y :: ys).length - 1) = y := by
            unfold spAt
            rw [List.reverse_cons, List.getD_eq_getElem?_getD, List.getElem?_append_right (by simp)]
            simp
          rw [e]; exact this
    · intro i hi hk1
      show bt s (if i ≤ xs.length then cut i else p) = 60
      rw [c1 i (by simp at hi; omega)]
      rcases Nat.lt_or_ge i xs.length with hl | hl
      · rw [el i hl] at hk1; exact T.open_ i hl hk1
      · have : i = xs.length := by simp at hi; omega
        subst this
        rw [ex] at hk1
        rw [T.last]; exact (h6 hk1).1
    · intro i hi hk1
      show bt s ((if i + 1 ≤ xs.length then cut (i + 1) else p) - 1) = 62 ∨ (if i + 1 ≤ xs.length then cut (i + 1) else p) = s.size
      rcases Nat.lt_or_ge i xs.length with hl | hl
      · rw [c1 (i + 1) hl]; rw [el i hl] at hk1; exact T.shut i hl hk1
      · have : i = xs.length := by simp at hi; omega
        subst this
        rw [ex] at hk1
        rw [c2]; exact (h6 hk1).2
theorem read_trail {s : ByteArray} {lim : Int} {av : Value} {b lg : Nat} {look : ByteArray → Option ByteArray} {M : List Sp} (h : readGo (rcOf s lim av b) look lg (cutOf s) [] 0 = .done M) : ∃ cut, Trail s M.length (spAt M) cut := by
  have h1 : RCh s M.reverse s.size := readGo_chain (R := rcOf s lim av b) rfl (Nat.zero_le _) (by show cutOf s 0 = 0; exact cut_zero s) h
  obtain ⟨cut, T⟩ := chain_trail h1
  rw [List.length_reverse, List.reverse_reverse] at T
  exact ⟨cut, T.a, T.b, T.lt, T.le, T.zero, T.last, T.kd, T.ch, T.open_, T.shut⟩
end Go.Proofs.YtnlmfklpebekdaaGreatDoor
