import Derived.Test.YtlhhgenpcjjajaaGreatDoorAbC
import Derived.Test.YtlhhgenpcjjajaaGreatDoorOfB
set_option linter.unusedSimpArgs false
set_option linter.unusedVariables false
namespace Go.Proofs.YtlhhgenpcjjajaaGreatDoor
open Go.RowKit
theorem At.c187 {E : Env} {f0 : Nat → Nat} {n0 : Nat} {w0 : World} {f : Nat → Nat} {σ : Ab} {w : World} (h : At E f0 n0 w0 f σ w) : w.cell? ⟨E.bB, 187, none⟩ = some (nV f 0) := by
  obtain ⟨L, rfl, hr⟩ := h.rel
  exact hr.low (by decide) hr.env.doc
theorem len_le (σ σ' : Ab) (h : σ'.nodes = σ.nodes) : σ.nodes.length ≤ σ'.nodes.length := by rw [h]; exact Nat.le_refl _
theorem oErase_m (E : Env) (x : Option Nat) : Moves E 187 (fun f => #[.pointer (some ⟨E.bB, 188, none⟩), oV f x]) (oErase x) uV := by
  intro f σ w ⟨L, e, hr⟩ hs
  subst e
  unfold oErase at hs ⊢
  by_cases hx : σ.isEl x = true
  · rw [if_pos hx]; exact (o_remove hr x hx).mono (fun e w' h => h.2.ml h.1 (len_le _ _ rfl))
  · rw [if_neg hx] at hs; exact absurd rfl hs
theorem oPopTo_m (E : Env) (x : Option Nat) : Moves E 328 (fun f => #[.pointer (some ⟨E.bB, 188, none⟩), oV f x]) (oPopTo x) uV := by
  intro f σ w ⟨L, e, hr⟩ hs
  subst e
  unfold oPopTo at hs ⊢
  by_cases hx : σ.isEl x = true
  · rw [if_pos hx]; exact (o_popTo hr x hx).mono (fun e w' h => h.2.ml h.1 (len_le _ _ rfl))
  · rw [if_neg hx] at hs; exact absurd rfl hs
theorem oRepl_m (E : Env) (x y : Option Nat) : Moves E 276 (fun f => #[.pointer (some ⟨E.bB, 188, none⟩), oV f x, oV f y]) (oRepl x y) uV := by
  intro f σ w ⟨L, e, hr⟩ hs
  subst e
  unfold oRepl at hs ⊢
  by_cases hx : (σ.isEl x && σ.isElS y) = true
  · rw [if_pos hx]; simp at hx; exact (o_replace hr x y hx.1 hx.2).mono (fun e w' h => h.2.ml h.1 (len_le _ _ rfl))
  · rw [if_neg hx] at hs; exact absurd rfl hs
theorem oPutBehind_m (E : Env) (x y : Option Nat) : Moves E 376 (fun f => #[.pointer (some ⟨E.bB, 188, none⟩), oV f x, oV f y]) (oPutBehind x y) uV := by
  intro f σ w ⟨L, e, hr⟩ hs
  subst e
  unfold oPutBehind at hs ⊢
  by_cases hx : (σ.isEl x && σ.isElS y && decide (σ.opn.length < 4096)) = true
  · rw [if_pos hx]; simp at hx; exact (o_putBehind hr x y hx.1.1 hx.1.2 hx.2).mono (fun e w' h => h.2.ml h.1 (len_le _ _ rfl))
  · rw [if_neg hx] at hs; exact absurd rfl hs
theorem aErase_m (E : Env) (x : Option Nat) : Moves E 187 (fun f => #[.pointer (some ⟨E.bB, 189, none⟩), oV f x]) (aErase x) uV := by
  intro f σ w ⟨L, e, hr⟩ hs
  subst e
  unfold aErase at hs ⊢
  by_cases hx : σ.isEl x = true
  · rw [if_pos hx]; exact (a_remove hr x hx).mono (fun e w' h => h.2.ml h.1 (len_le _ _ rfl))
  · rw [if_neg hx] at hs; exact absurd rfl hs
theorem aPopTo_m (E : Env) (x : Option Nat) : Moves E 328 (fun f => #[.pointer (some ⟨E.bB, 189, none⟩), oV f x]) (aPopTo x) uV := by
  intro f σ w ⟨L, e, hr⟩ hs
  subst e
  unfold aPopTo at hs ⊢
  by_cases hx : σ.isEl x = true
  · rw [if_pos hx]; exact (a_popTo hr x hx).mono (fun e w' h => h.2.ml h.1 (len_le _ _ rfl))
  · rw [if_neg hx] at hs; exact absurd rfl hs
theorem aRepl_m (E : Env) (x y : Option Nat) : Moves E 276 (fun f => #[.pointer (some ⟨E.bB, 189, none⟩), oV f x, oV f y]) (aRepl x y) uV := by
  intro f σ w ⟨L, e, hr⟩ hs
  subst e
  unfold aRepl at hs ⊢
  by_cases hx : (σ.isEl x && σ.isEl y) = true
  · rw [if_pos hx]; simp at hx; exact (a_replace hr x y hx.1 hx.2).mono (fun e w' h => h.2.ml h.1 (len_le _ _ rfl))
  · rw [if_neg hx] at hs; exact absurd rfl hs
theorem aPutBehind_m (E : Env) (x y : Option Nat) : Moves E 376 (fun f => #[.pointer (some ⟨E.bB, 189, none⟩), oV f x, oV f y]) (aPutBehind x y) uV := by
  intro f σ w ⟨L, e, hr⟩ hs
  subst e
  unfold aPutBehind at hs ⊢
  by_cases hx : (σ.isEl x && σ.isEl y && decide (σ.act.length < 4096)) = true
  · rw [if_pos hx]; simp at hx; exact (a_putBehind hr x y hx.1.1 hx.1.2 hx.2).mono (fun e w' h => h.2.ml h.1 (len_le _ _ rfl))
  · rw [if_neg hx] at hs; exact absurd rfl hs
theorem pop'_m (E : Env) : Moves E 184 (fun _ => #[.pointer (some ⟨E.bB, 188, none⟩)]) pop' oV := pop_m E
theorem takeOut_m (E : Env) (j : Nat) : Moves E 374 (fun f => #[nV f j]) (takeOut j) uV := by
  intro f σ w ⟨L, e, hr⟩ hs
  subst e
  unfold takeOut at hs ⊢
  cases hj : σ.el? j with
  | none => rw [hj] at hs; exact absurd rfl hs
  | some ej =>
    simp only [hj] at hs ⊢
    cases hp : ej.par with
    | none =>
      simp only [hp] at hs ⊢
      refine (t_takeOut_no hr hj hp).mono ?_
      rintro e w' ⟨rfl, rfl⟩
      exact ⟨rfl, ⟨L, rfl, hr⟩, Fr.refl _, Nat.le_refl _⟩
    | some p =>
      simp only [hp] at hs ⊢
      cases hep : σ.el? p with
      | none => rw [hep] at hs; exact absurd rfl hs
      | some ep =>
        simp only [hep] at hs ⊢
        by_cases hc : j ≠ p ∧ 0 ≤ posN ep.kids (Nd.isEl j) ∧ (posN ep.kids (Nd.isEl j)).toNat < ep.kids.length
        · rw [if_pos hc]
          exact (t_takeOut hr hj hp hep hc.1 hc.2.2 (by omega)).mono (fun e w' h => h.2.ml h.1 (by simp [Ab.setEl]))
        · rw [if_neg hc] at hs; exact absurd rfl hs
theorem another_d (E : Env) (i : Nat) : Does E 275 (fun f => #[nV f i]) (anotherM i) nV := by
  intro f σ w ⟨L, e, hr⟩ hs
  subst e
  unfold anotherM at hs ⊢
  cases hi : σ.el? i with
  | none => rw [hi] at hs; exact absurd rfl hs
  | some e =>
    simp only [hi] at hs ⊢
    by_cases hg : givable e.name = true
    · rw [if_pos hg] at hs; exact absurd rfl hs
    · rw [if_neg hg]
      refine (t_another hr hi (by simpa using hg)).mono ?_
      rintro e' w' ⟨L', h1, rfl, h2, h3⟩
      exact ⟨L'.at', h1, by simp [Ab.add], rfl, ⟨L', rfl, h2⟩, h3⟩
theorem RF.doc0 {E : Env} {f : Nat → Nat} {σ : Ab} {w : World} (h : RF E f σ w) : 0 < σ.nodes.length := by
  obtain ⟨L, _, hr⟩ := h; exact Ab.isEl_lt (σ := σ) (i := 0) hr.wf.doc
theorem nV_old {f : Nat → Nat} {n k i : Nat} (h : i < n) : nV (fnew f n k) i = nV f i := by unfold nV; rw [fnew_ext f n k i h]
section
variable (E : Env) (hF : FosterOk E) (rec : Nat → ATok → M Unit)
variable (hA : ∀ (m : Nat) (t : ATok), TokOk E t → Does E 171 (fun _ => #[Bp E, .int .i64 (m : Int), tokV E t]) (rec m t) uV)
include hA in
theorem take_p (t : ATok) (ht : TokOk E t) : Does E 95 (fun _ => #[Bp E, tokV E t]) (takeM rec t) uV := by
  intro f σ w h hs
  obtain ⟨R, hR⟩ : ∃ R, R = takeM rec t σ := ⟨_, rfl⟩
  rw [← hR] at hs ⊢
  have hR2 : R = (rec σ.mode t >>= fun _ => (Pure.pure () : M Unit)) σ := by
    rw [hR, M.bind_pure]; rfl
  have HS := hide hs
  have HR := hide hR2
  have H := hide (At.start h)
  have c1 := H.out.c192
  have hlt := h.lt
  clear h hs hR hR2
  go_enter Tryz.func95, Tryz.ntmps95
  go_wp2_with fail
  refine Does.call (hA σ.mode t ht) H.out HR.out HS.out (rfl) ?_ ?_
  · intro c p j ws h1 h2 h3
    have H1 := hide h1
    have H2 := hide h2
    have H3 := hide h3
    clear h1 h2 h3
    go_wp2
    exact ⟨rfl, leaves_stop H1.out H2.out H3.out⟩
  rintro (_) f σ w h1 h0 h2 h3
  have HX := hide h0
  have HF := hide h2
  clear h0
  replace H := hide h1
  replace HR := hide h3
  clear h1 h2 h3
  try dsimp only at HR
  go_wp2
  go_end0
  exact leaves_ok HR.out H.out rfl
include hA in
set_option maxHeartbeats 2000000 in
theorem startWithoutDoctype_p (t : ATok) (ht : TokOk E t) : Does E 101 (fun _ => #[Bp E, tokV E t]) (startWithoutDoctype rec t) uV := by
  intro f σ w h hs
  obtain ⟨R, hR⟩ : ∃ R, R = (startWithoutDoctype rec t) σ := ⟨_, rfl⟩
  rw [← hR] at hs ⊢
  unfold startWithoutDoctype at hR
  have HS := hide hs
  have H := hide (At.start h)
  have HR := hide hR
  clear h hs hR
  go_enter Tryz.func101, Tryz.ntmps101
  have c1 := H.out.c196
  have f1 := H.out.free 196
  have c2 := H.out.c192
  have f2 := H.out.free 192
  have hlt := H.out.lt
  replace H := hide ((H.out.set_quirks true).set_mode 1)
  go_wp2_with fail
  refine Does.call (take_p E rec hA t ht) H.out HR.out HS.out (rfl) ?_ ?_
  · intro c p j ws h1 h2 h3
    have H1 := hide h1
    have H2 := hide h2
    have H3 := hide h3
    clear h1 h2 h3
    go_wp2
    exact ⟨rfl, leaves_stop H1.out H2.out H3.out⟩
  rintro (_) f σ w h1 h0 h2 h3
  have HX := hide h0
  have HF := hide h2
  clear h0
  replace H := hide h1
  replace HR := hide h3
  clear h1 h2 h3
  try dsimp only at HR
  go_wp2
  go_end0
  exact leaves_ok HR.out H.out rfl
set_option maxHeartbeats 2000000 in
theorem openHTML_p (own : Bool) : Does E 176 (fun _ => #[Bp E, if own then E.tv else .slice none 0 0]) (openHTML own (if own then E.ta else [])) uV := by
  intro f σ w h hs
  obtain ⟨ao, n, cp, htv⟩ := h.tv
  obtain ⟨R, hR⟩ : ∃ R, R = openHTML own (if own then E.ta else []) σ := ⟨_, rfl⟩
  rw [← hR] at hs ⊢
  have HS := hide hs
  have H := hide (At.start h)
  have hlt := h.lt
  have HD := hide h.doc0
  have c1 := H.out.c187
  have c3 := H.out.c190
  have f3 := H.out.free 190
  unfold openHTML at hR
  cases own with
  | true =>
    rw [M.bind_run] at hR
    unfold newElA at hR
    have hfr : σ.fresh = true := by
      cases hq : σ.fresh with
      | true => rfl
      | false => rw [hq] at hR; simp at hR; exact absurd hR hs
    simp only [hfr, if_true] at hR
    have HR := hide hR
    replace H := hide (H.out.newTagEl hfr (⟨#[104, 116, 109, 108]⟩ : ByteArray))
    rw [htv] at H
    rw [if_pos rfl, htv]
    clear h hs hR hfr htv
    go_enter Tryz.func176, Tryz.ntmps176
    go_wp2_with fail
    refine Moves.call (end_m E 0) H.out HR.out HS.out (by rw [nV_old HD.out]) ?_ ?_
    · intro c p j ws h1 h2 h3
      have H1 := hide h1
      have H2 := hide h2
      have H3 := hide h3
      clear h1 h2 h3
      go_wp2
      exact ⟨rfl, leaves_stop H1.out H2.out H3.out⟩
    rintro (pl) σ w h1 h2 h3
    have HF := hide h2
    replace H := hide h1
    replace HR := hide h3
    clear h1 h2 h3
    try dsimp only at HR
    go_wp2_with fail
    refine Moves.call (putEl_m E pl _) H.out HR.out HS.out (by rw [nV_new]) ?_ ?_
    · intro c p j ws h1 h2 h3
      have H1 := hide h1
      have H2 := hide h2
      have H3 := hide h3
      clear h1 h2 h3
      go_wp2
      exact ⟨rfl, leaves_stop H1.out H2.out H3.out⟩
    rintro (_) σ w h1 h2 h3
    have HF := hide h2
    replace H := hide h1
    replace HR := hide h3
    clear h1 h2 h3
    try dsimp only at HR
    go_wp2_with fail
    refine Moves.call (push_m E (some _)) H.out HR.out HS.out (by show #[_, nV _ _] = _; rw [nV_new]) ?_ ?_
    · intro c p j ws h1 h2 h3
      have H1 := hide h1
      have H2 := hide h2
      have H3 := hide h3
      clear h1 h2 h3
      go_wp2
      exact ⟨rfl, leaves_stop H1.out H2.out H3.out⟩
    rintro (_) σ w h1 h2 h3
    have HF := hide h2
    replace H := hide h1
    replace HR := hide h3
    clear h1 h2 h3
    try dsimp only at HR
    have c2 := H.out.c192
    have f2 := H.out.free 192
    replace H := hide (H.out.set_mode 2)
    go_wp2
    go_end0
    exact leaves_ok HR.out H.out rfl
  | false =>
    rw [M.bind_run] at hR
    unfold newElA at hR
    simp only [Bool.false_eq_true, if_false] at hR
    have HR := hide hR
    replace H := hide (H.out.newEl (⟨#[104, 116, 109, 108]⟩ : ByteArray))
    rw [if_neg (by simp)]
    clear h hs hR htv
    go_enter Tryz.func176, Tryz.ntmps176
    go_wp2_with fail
    refine Moves.call (end_m E 0) H.out HR.out HS.out (by rw [nV_old HD.out]) ?_ ?_
    · intro c p j ws h1 h2 h3
      have H1 := hide h1
      have H2 := hide h2
      have H3 := hide h3
      clear h1 h2 h3
      go_wp2
      exact ⟨rfl, leaves_stop H1.out H2.out H3.out⟩
    rintro (pl) σ w h1 h2 h3
    have HF := hide h2
    replace H := hide h1
    replace HR := hide h3
    clear h1 h2 h3
    try dsimp only at HR
    go_wp2_with fail
    refine Moves.call (putEl_m E pl _) H.out HR.out HS.out (by rw [nV_new]) ?_ ?_
    · intro c p j ws h1 h2 h3
      have H1 := hide h1
      have H2 := hide h2
      have H3 := hide h3
      clear h1 h2 h3
      go_wp2
      exact ⟨rfl, leaves_stop H1.out H2.out H3.out⟩
    rintro (_) σ w h1 h2 h3
    have HF := hide h2
    replace H := hide h1
    replace HR := hide h3
    clear h1 h2 h3
    try dsimp only at HR
    go_wp2_with fail
    refine Moves.call (push_m E (some _)) H.out HR.out HS.out (by show #[_, nV _ _] = _; rw [nV_new]) ?_ ?_
    · intro c p j ws h1 h2 h3
      have H1 := hide h1
      have H2 := hide h2
      have H3 := hide h3
      clear h1 h2 h3
      go_wp2
      exact ⟨rfl, leaves_stop H1.out H2.out H3.out⟩
    rintro (_) σ w h1 h2 h3
    have HF := hide h2
    replace H := hide h1
    replace HR := hide h3
    clear h1 h2 h3
    try dsimp only at HR
    have c2 := H.out.c192
    have f2 := H.out.free 192
    replace H := hide (H.out.set_mode 2)
    go_wp2
    go_end0
    exact leaves_ok HR.out H.out rfl
include hF in
set_option maxHeartbeats 2000000 in
theorem openHead_p (own : Bool) : Does E 181 (fun _ => #[Bp E, if own then E.tv else .slice none 0 0]) (openHead own (if own then E.ta else [])) uV := by
  intro f σ w h hs
  obtain ⟨ao, n, cp, htv⟩ := h.tv
  obtain ⟨R, hR⟩ : ∃ R, R = openHead own (if own then E.ta else []) σ := ⟨_, rfl⟩
  rw [← hR] at hs ⊢
  have HS := hide hs
  have H := hide (At.start h)
  have hlt := h.lt
  have HD := hide h.doc0
  have c1 := H.out.c187
  have c3 := H.out.c190
  have f3 := H.out.free 190
  unfold openHead at hR
  cases own with
  | true =>
    rw [M.bind_run] at hR
    unfold newElA at hR
    have hfr : σ.fresh = true := by
      cases hq : σ.fresh with
      | true => rfl
      | false => rw [hq] at hR; simp at hR; exact absurd hR hs
    simp only [hfr, if_true] at hR
    have HR := hide hR
    replace H := hide (H.out.newTagEl hfr (⟨#[104, 101, 97, 100]⟩ : ByteArray))
    rw [htv] at H
    rw [if_pos rfl, htv]
    clear h hs hR hfr htv
    go_enter Tryz.func181, Tryz.ntmps181
    have HH := H.out.set_head (some σ.nodes.length) (by simp [Ab.isEl, Ab.el?, Ab.addF, Ab.add])
    rw [show oV (fnew f σ.nodes.length w.heap.size) (some σ.nodes.length) = .pointer (some ⟨w.heap.size, 0, none⟩) from nV_new _ _ _] at HH
    rw [World.setCell_alloc_past _ _ _ _ hlt] at HH
    replace H := hide HH
    clear HH
    go_wp2_with fail
    refine Moves.call (insert_p E hF _) H.out HR.out HS.out (by rw [nV_new]) ?_ ?_
    · intro c p j ws h1 h2 h3
      have H1 := hide h1
      have H2 := hide h2
      have H3 := hide h3
      clear h1 h2 h3
      go_wp2
      exact ⟨rfl, leaves_stop H1.out H2.out H3.out⟩
    rintro (_) σ w h1 h2 h3
    have HF := hide h2
    replace H := hide h1
    replace HR := hide h3
    clear h1 h2 h3
    try dsimp only at HR
    have c2 := H.out.c192
    have f2 := H.out.free 192
    replace H := hide (H.out.set_mode 3)
    go_wp2
    go_end0
    exact leaves_ok HR.out H.out rfl
  | false =>
    rw [M.bind_run] at hR
    unfold newElA at hR
    simp only [Bool.false_eq_true, if_false] at hR
    have HR := hide hR
    replace H := hide (H.out.newEl (⟨#[104, 101, 97, 100]⟩ : ByteArray))
    rw [if_neg (by simp)]
    clear h hs hR htv
    go_enter Tryz.func181, Tryz.ntmps181
    have HH := H.out.set_head (some σ.nodes.length) (by simp [Ab.isEl, Ab.el?, Ab.addF, Ab.add])
    rw [show oV (fnew f σ.nodes.length w.heap.size) (some σ.nodes.length) = .pointer (some ⟨w.heap.size, 0, none⟩) from nV_new _ _ _] at HH
    rw [World.setCell_alloc_past _ _ _ _ hlt] at HH
    replace H := hide HH
    clear HH
    go_wp2_with fail
    refine Moves.call (insert_p E hF _) H.out HR.out HS.out (by rw [nV_new]) ?_ ?_
    · intro c p j ws h1 h2 h3
      have H1 := hide h1
      have H2 := hide h2
      have H3 := hide h3
      clear h1 h2 h3
      go_wp2
      exact ⟨rfl, leaves_stop H1.out H2.out H3.out⟩
    rintro (_) σ w h1 h2 h3
    have HF := hide h2
    replace H := hide h1
    replace HR := hide h3
    clear h1 h2 h3
    try dsimp only at HR
    have c2 := H.out.c192
    have f2 := H.out.free 192
    replace H := hide (H.out.set_mode 3)
    go_wp2
    go_end0
    exact leaves_ok HR.out H.out rfl
include hA in
set_option maxHeartbeats 2000000 in
theorem impliedHTML_p (t : ATok) (ht : TokOk E t) : Does E 104 (fun _ => #[Bp E, tokV E t]) (impliedHTML rec t) uV := by
  intro f σ w h hs
  obtain ⟨R, hR⟩ : ∃ R, R = (impliedHTML rec t) σ := ⟨_, rfl⟩
  rw [← hR] at hs ⊢
  unfold impliedHTML at hR
  have HS := hide hs
  have H := hide (At.start h)
  have HR := hide hR
  clear h hs hR
  go_enter Tryz.func104, Tryz.ntmps104
  go_wp2_with fail
  refine Does.call (openHTML_p E false) H.out HR.out HS.out (by simp) ?_ ?_
  · intro c p j ws h1 h2 h3
    have H1 := hide h1
    have H2 := hide h2
    have H3 := hide h3
    clear h1 h2 h3
    go_wp2
    exact ⟨rfl, leaves_stop H1.out H2.out H3.out⟩
  rintro (_) f σ w h1 h0 h2 h3
  have HX := hide h0
  have HF := hide h2
  clear h0
  replace H := hide h1
  replace HR := hide h3
  clear h1 h2 h3
  try dsimp only at HR
  go_wp2_with fail
  refine Does.call (take_p E rec hA t ht) H.out HR.out HS.out (rfl) ?_ ?_
  · intro c p j ws h1 h2 h3
    have H1 := hide h1
    have H2 := hide h2
    have H3 := hide h3
    clear h1 h2 h3
    go_wp2
    exact ⟨rfl, leaves_stop H1.out H2.out H3.out⟩
  rintro (_) f σ w h1 h0 h2 h3
  have HX := hide h0
  have HF := hide h2
  clear h0
  replace H := hide h1
  replace HR := hide h3
  clear h1 h2 h3
  try dsimp only at HR
  go_wp2
  go_end0
  exact leaves_ok HR.out H.out rfl
include hF hA in
set_option maxHeartbeats 2000000 in
theorem impliedHead_p (t : ATok) (ht : TokOk E t) : Does E 108 (fun _ => #[Bp E, tokV E t]) (impliedHead rec t) uV := by
  intro f σ w h hs
  obtain ⟨R, hR⟩ : ∃ R, R = (impliedHead rec t) σ := ⟨_, rfl⟩
  rw [← hR] at hs ⊢
  unfold impliedHead at hR
  have HS := hide hs
  have H := hide (At.start h)
  have HR := hide hR
  clear h hs hR
  go_enter Tryz.func108, Tryz.ntmps108
  go_wp2_with fail
  refine Does.call (openHead_p E hF false) H.out HR.out HS.out (by simp) ?_ ?_
  · intro c p j ws h1 h2 h3
    have H1 := hide h1
    have H2 := hide h2
    have H3 := hide h3
    clear h1 h2 h3
    go_wp2
    exact ⟨rfl, leaves_stop H1.out H2.out H3.out⟩
  rintro (_) f σ w h1 h0 h2 h3
  have HX := hide h0
  have HF := hide h2
  clear h0
  replace H := hide h1
  replace HR := hide h3
  clear h1 h2 h3
  try dsimp only at HR
  go_wp2_with fail
  refine Does.call (take_p E rec hA t ht) H.out HR.out HS.out (rfl) ?_ ?_
  · intro c p j ws h1 h2 h3
    have H1 := hide h1
    have H2 := hide h2
    have H3 := hide h3
    clear h1 h2 h3
    go_wp2
    exact ⟨rfl, leaves_stop H1.out H2.out H3.out⟩
  rintro (_) f σ w h1 h0 h2 h3
  have HX := hide h0
  have HF := hide h2
  clear h0
  replace H := hide h1
  replace HR := hide h3
  clear h1 h2 h3
  try dsimp only at HR
  go_wp2
  go_end0
  exact leaves_ok HR.out H.out rfl
set_option maxHeartbeats 2000000 in
set_option maxRecDepth 100000 in
theorem startHTML_p (t : ATok) (ht : TokOk E t) : Does E 103 (fun _ => #[Bp E, tokV E t]) (startHTML t) uV := by
  intro f σ w h hs
  obtain ⟨ao, n, cp, htv⟩ := h.tv
  obtain ⟨R, hR⟩ : ∃ R, R = startHTML t σ := ⟨_, rfl⟩
  rw [← hR] at hs ⊢
  have HS := hide hs
  have H := hide (At.start h)
  have hlt := h.lt
  have C1 := tagOf_ok E t w ⟨ao, n, cp, htv⟩
  unfold startHTML at hR
  cases htg : t.isTag with
  | true =>
    have hta : t.tagAttrs = (if true then E.ta else []) ∧ tagV E t = #[.int .i64 (t.a : Int), .int .i64 (t.b : Int), .string t.name, .slice ao n cp] := by
      have := ht htg
      obtain ⟨a, b, k, ats⟩ := t
      cases k <;> simp_all [ATok.isTag, ATok.tagAttrs, tagV, ATok.name]
    rw [htg, hta.1] at hR
    rw [hta.2] at C1
    have HC1 := hide C1
    have HR := hide hR
    have HTV := hide htv
    have hfl := fun w => tag_attrs (t.a : Int) (t.b : Int) t.name ao n cp w
    clear h hs hR C1 hta htv
    go_enter Tryz.func103, Tryz.ntmps103
    go_wp2_with fail
    refine HC1.out.mono ?_
    rintro e w1 ⟨rfl, hk⟩
    replace H := hide (H.out.k0 hk)
    clear hk HC1
    go_wp2_with fail
    refine Does.call (openHTML_p E true) H.out HR.out HS.out (by rw [if_pos rfl, HTV.out]) ?_ ?_
    · intro c p j ws h1 h2 h3
      have H1 := hide h1
      have H2 := hide h2
      have H3 := hide h3
      clear h1 h2 h3
      go_wp2
      exact ⟨rfl, leaves_stop H1.out H2.out H3.out⟩
    rintro (_) f σ w h1 h0 h2 h3
    have HX := hide h0
    have HF := hide h2
    clear h0
    replace H := hide h1
    replace HR := hide h3
    clear h1 h2 h3
    try dsimp only at HR
    go_wp2
    go_end0
    exact leaves_ok HR.out H.out rfl
  | false =>
    have hta : t.tagAttrs = (if false then E.ta else []) ∧ tagV E t = #[.int .i64 0, .int .i64 0, .string ⟨#[]⟩, .slice none 0 0] := by
      obtain ⟨a, b, k, ats⟩ := t
      cases k <;> simp_all [ATok.isTag, ATok.tagAttrs, tagV, ATok.name]
    rw [htg, hta.1] at hR
    rw [hta.2] at C1
    have HC1 := hide C1
    have HR := hide hR
    have hfl := fun w => tag_attrs 0 0 ⟨#[]⟩ none 0 0 w
    clear h hs hR C1 hta htv
    go_enter Tryz.func103, Tryz.ntmps103
    go_wp2_with fail
    refine HC1.out.mono ?_
    rintro e w1 ⟨rfl, hk⟩
    replace H := hide (H.out.k0 hk)
    clear hk HC1
    go_wp2_with fail
    refine Does.call (openHTML_p E false) H.out HR.out HS.out (by simp) ?_ ?_
    · intro c p j ws h1 h2 h3
      have H1 := hide h1
      have H2 := hide h2
      have H3 := hide h3
      clear h1 h2 h3
      go_wp2
      exact ⟨rfl, leaves_stop H1.out H2.out H3.out⟩
    rintro (_) f σ w h1 h0 h2 h3
    have HX := hide h0
    have HF := hide h2
    clear h0
    replace H := hide h1
    replace HR := hide h3
    clear h1 h2 h3
    try dsimp only at HR
    go_wp2
    go_end0
    exact leaves_ok HR.out H.out rfl
include hF in
set_option maxHeartbeats 2000000 in
set_option maxRecDepth 100000 in
theorem startHead_p (t : ATok) (ht : TokOk E t) : Does E 107 (fun _ => #[Bp E, tokV E t]) (startHead t) uV := by
  intro f σ w h hs
  obtain ⟨ao, n, cp, htv⟩ := h.tv
  obtain ⟨R, hR⟩ : ∃ R, R = startHead t σ := ⟨_, rfl⟩
  rw [← hR] at hs ⊢
  have HS := hide hs
  have H := hide (At.start h)
  have hlt := h.lt
  have C1 := tagOf_ok E t w ⟨ao, n, cp, htv⟩
  unfold startHead at hR
  cases htg : t.isTag with
  | true =>
    have hta : t.tagAttrs = (if true then E.ta else []) ∧ tagV E t = #[.int .i64 (t.a : Int), .int .i64 (t.b : Int), .string t.name, .slice ao n cp] := by
      have := ht htg
      obtain ⟨a, b, k, ats⟩ := t
      cases k <;> simp_all [ATok.isTag, ATok.tagAttrs, tagV, ATok.name]
    rw [htg, hta.1] at hR
    rw [hta.2] at C1
    have HC1 := hide C1
    have HR := hide hR
    have HTV := hide htv
    have hfl := fun w => tag_attrs (t.a : Int) (t.b : Int) t.name ao n cp w
    clear h hs hR C1 hta htv
    go_enter Tryz.func107, Tryz.ntmps107
    go_wp2_with fail
    refine HC1.out.mono ?_
    rintro e w1 ⟨rfl, hk⟩
    replace H := hide (H.out.k0 hk)
    clear hk HC1
    go_wp2_with fail
    refine Does.call (openHead_p E hF true) H.out HR.out HS.out (by rw [if_pos rfl, HTV.out]) ?_ ?_
    · intro c p j ws h1 h2 h3
      have H1 := hide h1
      have H2 := hide h2
      have H3 := hide h3
      clear h1 h2 h3
      go_wp2
      exact ⟨rfl, leaves_stop H1.out H2.out H3.out⟩
    rintro (_) f σ w h1 h0 h2 h3
    have HX := hide h0
    have HF := hide h2
    clear h0
    replace H := hide h1
    replace HR := hide h3
    clear h1 h2 h3
    try dsimp only at HR
    go_wp2
    go_end0
    exact leaves_ok HR.out H.out rfl
  | false =>
    have hta : t.tagAttrs = (if false then E.ta else []) ∧ tagV E t = #[.int .i64 0, .int .i64 0, .string ⟨#[]⟩, .slice none 0 0] := by
      obtain ⟨a, b, k, ats⟩ := t
      cases k <;> simp_all [ATok.isTag, ATok.tagAttrs, tagV, ATok.name]
    rw [htg, hta.1] at hR
    rw [hta.2] at C1
    have HC1 := hide C1
    have HR := hide hR
    have hfl := fun w => tag_attrs 0 0 ⟨#[]⟩ none 0 0 w
    clear h hs hR C1 hta htv
    go_enter Tryz.func107, Tryz.ntmps107
    go_wp2_with fail
    refine HC1.out.mono ?_
    rintro e w1 ⟨rfl, hk⟩
    replace H := hide (H.out.k0 hk)
    clear hk HC1
    go_wp2_with fail
    refine Does.call (openHead_p E hF false) H.out HR.out HS.out (by simp) ?_ ?_
    · intro c p j ws h1 h2 h3
      have H1 := hide h1
      have H2 := hide h2
      have H3 := hide h3
      clear h1 h2 h3
      go_wp2
      exact ⟨rfl, leaves_stop H1.out H2.out H3.out⟩
    rintro (_) f σ w h1 h0 h2 h3
    have HX := hide h0
    have HF := hide h2
    clear h0
    replace H := hide h1
    replace HR := hide h3
    clear h1 h2 h3
    try dsimp only at HR
    go_wp2
    go_end0
    exact leaves_ok HR.out H.out rfl
set_option maxHeartbeats 2000000 in
theorem endHead_p (t : ATok) : Does E 113 (fun _ => #[Bp E, tokV E t]) (endHead) uV := by
  intro f σ w h hs
  obtain ⟨R, hR⟩ : ∃ R, R = (endHead) σ := ⟨_, rfl⟩
  rw [← hR] at hs ⊢
  unfold endHead at hR
  have HS := hide hs
  have H := hide (At.start h)
  have HR := hide hR
  clear h hs hR
  go_enter Tryz.func113, Tryz.ntmps113
  go_wp2_with fail
  refine Moves.call (pop'_m E) H.out HR.out HS.out (rfl) ?_ ?_
  · intro c p j ws h1 h2 h3
    have H1 := hide h1
    have H2 := hide h2
    have H3 := hide h3
    clear h1 h2 h3
    go_wp2
    exact ⟨rfl, leaves_stop H1.out H2.out H3.out⟩
  rintro (_) σ w h1 h2 h3
  have HF := hide h2
  replace H := hide h1
  replace HR := hide h3
  clear h1 h2 h3
  try dsimp only at HR
  have c2 := H.out.c192
  have f2 := H.out.free 192
  have hl1 := H.out.lt
  replace H := hide (H.out.set_mode 4)
  go_wp2
  go_end0
  exact leaves_ok HR.out H.out rfl
include hA in
set_option maxHeartbeats 2000000 in
theorem impliedEndOfHead_p (t : ATok) (ht : TokOk E t) : Does E 114 (fun _ => #[Bp E, tokV E t]) (impliedEndOfHead rec t) uV := by
  intro f σ w h hs
  obtain ⟨R, hR⟩ : ∃ R, R = (impliedEndOfHead rec t) σ := ⟨_, rfl⟩
  rw [← hR] at hs ⊢
  unfold impliedEndOfHead at hR
  have HS := hide hs
  have H := hide (At.start h)
  have HR := hide hR
  clear h hs hR
  go_enter Tryz.func114, Tryz.ntmps114
  go_wp2_with fail
  refine Does.call (endHead_p E t) H.out HR.out HS.out (rfl) ?_ ?_
  · intro c p j ws h1 h2 h3
    have H1 := hide h1
    have H2 := hide h2
    have H3 := hide h3
    clear h1 h2 h3
    go_wp2
    exact ⟨rfl, leaves_stop H1.out H2.out H3.out⟩
  rintro (_) f σ w h1 h0 h2 h3
  have HX := hide h0
  have HF := hide h2
  clear h0
  replace H := hide h1
  replace HR := hide h3
  clear h1 h2 h3
  try dsimp only at HR
  go_wp2_with fail
  refine Does.call (take_p E rec hA t ht) H.out HR.out HS.out (rfl) ?_ ?_
  · intro c p j ws h1 h2 h3
    have H1 := hide h1
    have H2 := hide h2
    have H3 := hide h3
    clear h1 h2 h3
    go_wp2
    exact ⟨rfl, leaves_stop H1.out H2.out H3.out⟩
  rintro (_) f σ w h1 h0 h2 h3
  have HX := hide h0
  have HF := hide h2
  clear h0
  replace H := hide h1
  replace HR := hide h3
  clear h1 h2 h3
  try dsimp only at HR
  go_wp2
  go_end0
  exact leaves_ok HR.out H.out rfl
include hF in
set_option maxHeartbeats 2000000 in
theorem startBody_p (t : ATok) (ht : TokOk E t) : Does E 115 (fun _ => #[Bp E, tokV E t]) (startBody t) uV := by
  intro f σ w h hs
  obtain ⟨R, hR⟩ : ∃ R, R = (startBody t) σ := ⟨_, rfl⟩
  rw [← hR] at hs ⊢
  unfold startBody at hR
  have HS := hide hs
  have H := hide (At.start h)
  have HR := hide hR
  clear h hs hR
  go_enter Tryz.func115, Tryz.ntmps115
  go_wp2_with fail
  refine Does.call (insertTag_p E hF t ht) H.out HR.out HS.out (rfl) ?_ ?_
  · intro c p j ws h1 h2 h3
    have H1 := hide h1
    have H2 := hide h2
    have H3 := hide h3
    clear h1 h2 h3
    go_wp2
    exact ⟨rfl, leaves_stop H1.out H2.out H3.out⟩
  rintro (_) f σ w h1 h0 h2 h3
  have HX := hide h0
  have HF := hide h2
  clear h0
  replace H := hide h1
  replace HR := hide h3
  clear h1 h2 h3
  try dsimp only at HR
  have c2 := H.out.c192
  have f2 := H.out.free 192
  have hl1 := H.out.lt
  replace H := hide (H.out.set_mode 6)
  go_wp2
  go_end0
  exact leaves_ok HR.out H.out rfl
include hF hA in
set_option maxHeartbeats 2000000 in
theorem impliedBody_p (t : ATok) (ht : TokOk E t) : Does E 117 (fun _ => #[Bp E, tokV E t]) (impliedBody rec t) uV := by
  intro f σ w h hs
  obtain ⟨R, hR⟩ : ∃ R, R = (impliedBody rec t) σ := ⟨_, rfl⟩
  rw [← hR] at hs ⊢
  unfold impliedBody at hR
  have HS := hide hs
  have H := hide (At.start h)
  have HR := hide hR
  clear h hs hR
  go_enter Tryz.func117, Tryz.ntmps117
  go_wp2_with fail
  refine Does.call (insertNamed_p E hF (⟨#[98, 111, 100, 121]⟩ : ByteArray)) H.out HR.out HS.out (rfl) ?_ ?_
  · intro c p j ws h1 h2 h3
    have H1 := hide h1
    have H2 := hide h2
    have H3 := hide h3
    clear h1 h2 h3
    go_wp2
    exact ⟨rfl, leaves_stop H1.out H2.out H3.out⟩
  rintro (_) f σ w h1 h0 h2 h3
  have HX := hide h0
  have HF := hide h2
  clear h0
  replace H := hide h1
  replace HR := hide h3
  clear h1 h2 h3
  try dsimp only at HR
  have c2 := H.out.c192
  have f2 := H.out.free 192
  have hl1 := H.out.lt
  replace H := hide (H.out.set_mode 6)
  go_wp2_with fail
  refine Does.call (take_p E rec hA t ht) H.out HR.out HS.out (rfl) ?_ ?_
  · intro c p j ws h1 h2 h3
    have H1 := hide h1
    have H2 := hide h2
    have H3 := hide h3
    clear h1 h2 h3
    go_wp2
    exact ⟨rfl, leaves_stop H1.out H2.out H3.out⟩
  rintro (_) f σ w h1 h0 h2 h3
  have HX := hide h0
  have HF := hide h2
  clear h0
  replace H := hide h1
  replace HR := hide h3
  clear h1 h2 h3
  try dsimp only at HR
  go_wp2
  go_end0
  exact leaves_ok HR.out H.out rfl
set_option maxHeartbeats 2000000 in
theorem endText_p (t : ATok) : Does E 119 (fun _ => #[Bp E, tokV E t]) (endText) uV := by
  intro f σ w h hs
  obtain ⟨R, hR⟩ : ∃ R, R = (endText) σ := ⟨_, rfl⟩
  rw [← hR] at hs ⊢
  unfold endText at hR
  have HS := hide hs
  have H := hide (At.start h)
  have HR := hide hR
  clear h hs hR
  go_enter Tryz.func119, Tryz.ntmps119
  go_wp2_with fail
  refine Moves.call (pop'_m E) H.out HR.out HS.out (rfl) ?_ ?_
  · intro c p j ws h1 h2 h3
    have H1 := hide h1
    have H2 := hide h2
    have H3 := hide h3
    clear h1 h2 h3
    go_wp2
    exact ⟨rfl, leaves_stop H1.out H2.out H3.out⟩
  rintro (_) σ w h1 h2 h3
  have HF := hide h2
  replace H := hide h1
  replace HR := hide h3
  clear h1 h2 h3
  try dsimp only at HR
  have c2 := H.out.c192
  have f2 := H.out.free 192
  have c3 := H.out.c193
  have hl := H.out.lt
  replace H := hide (H.out.set_mode σ.kept)
  go_wp2
  go_end0
  exact leaves_ok HR.out H.out rfl
include hA in
set_option maxHeartbeats 2000000 in
theorem cutText_p (t : ATok) (ht : TokOk E t) : Does E 118 (fun _ => #[Bp E, tokV E t]) (cutText rec t) uV := by
  intro f σ w h hs
  obtain ⟨R, hR⟩ : ∃ R, R = (cutText rec t) σ := ⟨_, rfl⟩
  rw [← hR] at hs ⊢
  unfold cutText at hR
  have HS := hide hs
  have H := hide (At.start h)
  have HR := hide hR
  clear h hs hR
  go_enter Tryz.func118, Tryz.ntmps118
  go_wp2_with fail
  refine Does.call (endText_p E t) H.out HR.out HS.out (rfl) ?_ ?_
  · intro c p j ws h1 h2 h3
    have H1 := hide h1
    have H2 := hide h2
    have H3 := hide h3
    clear h1 h2 h3
    go_wp2
    exact ⟨rfl, leaves_stop H1.out H2.out H3.out⟩
  rintro (_) f σ w h1 h0 h2 h3
  have HX := hide h0
  have HF := hide h2
  clear h0
  replace H := hide h1
  replace HR := hide h3
  clear h1 h2 h3
  try dsimp only at HR
  go_wp2_with fail
  refine Does.call (take_p E rec hA t ht) H.out HR.out HS.out (rfl) ?_ ?_
  · intro c p j ws h1 h2 h3
    have H1 := hide h1
    have H2 := hide h2
    have H3 := hide h3
    clear h1 h2 h3
    go_wp2
    exact ⟨rfl, leaves_stop H1.out H2.out H3.out⟩
  rintro (_) f σ w h1 h0 h2 h3
  have HX := hide h0
  have HF := hide h2
  clear h0
  replace H := hide h1
  replace HR := hide h3
  clear h1 h2 h3
  try dsimp only at HR
  go_wp2
  go_end0
  exact leaves_ok HR.out H.out rfl
set_option maxHeartbeats 2000000 in
theorem endAll_p (t : ATok) : Does E 155 (fun _ => #[Bp E, tokV E t]) (endAll) uV := by
  intro f σ w h hs
  obtain ⟨R, hR⟩ : ∃ R, R = (endAll) σ := ⟨_, rfl⟩
  rw [← hR] at hs ⊢
  unfold endAll at hR
  have HS := hide hs
  have H := hide (At.start h)
  have HR := hide hR
  clear h hs hR
  go_enter Tryz.func155, Tryz.ntmps155
  have c2 := H.out.c192
  have f2 := H.out.free 192
  have hl1 := H.out.lt
  replace H := hide (H.out.set_mode 17)
  go_wp2
  go_end0
  exact leaves_ok HR.out H.out rfl
include hA in
set_option maxHeartbeats 2000000 in
theorem backInBody_p (t : ATok) (ht : TokOk E t) : Does E 247 (fun _ => #[Bp E, tokV E t]) (backInBody rec t) uV := by
  intro f σ w h hs
  obtain ⟨R, hR⟩ : ∃ R, R = (backInBody rec t) σ := ⟨_, rfl⟩
  rw [← hR] at hs ⊢
  unfold backInBody at hR
  have HS := hide hs
  have H := hide (At.start h)
  have HR := hide hR
  clear h hs hR
  go_enter Tryz.func247, Tryz.ntmps247
  have c2 := H.out.c192
  have f2 := H.out.free 192
  have hl1 := H.out.lt
  replace H := hide (H.out.set_mode 6)
  go_wp2_with fail
  refine Does.call (take_p E rec hA t ht) H.out HR.out HS.out (rfl) ?_ ?_
  · intro c p j ws h1 h2 h3
    have H1 := hide h1
    have H2 := hide h2
    have H3 := hide h3
    clear h1 h2 h3
    go_wp2
    exact ⟨rfl, leaves_stop H1.out H2.out H3.out⟩
  rintro (_) f σ w h1 h0 h2 h3
  have HX := hide h0
  have HF := hide h2
  clear h0
  replace H := hide h1
  replace HR := hide h3
  clear h1 h2 h3
  try dsimp only at HR
  go_wp2
  go_end0
  exact leaves_ok HR.out H.out rfl
end
end Go.Proofs.YtlhhgenpcjjajaaGreatDoor
namespace Go.Proofs.YtlhhgenpcjjajaaGreatDoor
open Go.RowKit
theorem Leaves.k0 {α : Type} {E : Env} {f : Nat → Nat} {n : Nat} {w w' W : World} {r : Res α} {val : (Nat → Nat) → α → Value} {e : Ending} (h : Leaves E f n w' r val e W) (hk : Kept [] w w') : Leaves E f n w r val e W := by
  cases r with
  | ok a σ' => obtain ⟨g, h1, h2, h3, h4, h5⟩ := h; exact ⟨g, h1, h2, h3, h4, (Fr.of_kept0 hk).trans h5⟩
  | stop c p => obtain ⟨k, h1, h2, h3⟩ := h; exact ⟨k, h1, h2, (Fr.of_kept0 hk).trans h3⟩
  | stuck => exact h
def OfTok (E : Env) (t : ATok) : Prop := ∀ (bB bD : Nat) (sp : RSpec) (v0 v1 v2 v3 v4 v5 v6 v7 v8 v9 : Value) (w : World), IsRules E.bm bB bD sp v0 v1 v2 v3 v4 v5 v6 v7 v8 v9 w →
    Calls Tryz.prog 264 #[.agg #[v0, v1, v2, v3, v4, v5, v6, v7, v8, v9], tokV E t] w fun e w' => ∃ v, e = .returned v ∧ IsRu E.bm bB bD (ruleOf sp t) v w ∧ Kept [] w w'
def RuleDoes (E : Env) (r : Ru) (t : ATok) (m : M Unit) : Prop := ∀ v f σ w, RF E f σ w → IsRu E.bm E.bB (f 0) r v w → m σ ≠ .stuck →
    ∃ k bs cs, v = .func (.func k) bs cs ∧ (∀ args w, (callFunc k args).run Tryz.prog w = .ok (.enter k args) w) ∧ Calls Tryz.prog k (bs ++ #[tokV E t] ++ cs) w (Leaves E f σ.nodes.length w (m σ) uV)
def asM (rm : Ru → ATok → M Unit) (m : Nat) (t : ATok) : M Unit := match specs[m]? with
  | some sp => rm (ruleOf sp t) t
  | none => stuck
theorem RF.rules {E : Env} {f : Nat → Nat} {σ : Ab} {w : World} (h : RF E f σ w) {m : Nat} {sp : RSpec} (hm : specs[m]? = some sp) : ∃ v0 v1 v2 v3 v4 v5 v6 v7 v8 v9, IsRules E.bm E.bB (f 0) sp v0 v1 v2 v3 v4 v5 v6 v7 v8 v9 w ∧
    (∀ j, j < 10 → w.cell? ⟨E.bB, 4 + m * 10 + j, none⟩ = [v0, v1, v2, v3, v4, v5, v6, v7, v8, v9][j]?) := by
  obtain ⟨L, rfl, hr⟩ := h
  obtain ⟨cs, hcs, hlen, hru⟩ := hr.env.rules
  obtain ⟨v0, v1, v2, v3, v4, v5, v6, v7, v8, v9, e, hi⟩ := hru m sp hm
  have hm18 : m < 18 := (List.getElem?_eq_some_iff.1 hm).1
  refine ⟨v0, v1, v2, v3, v4, v5, v6, v7, v8, v9, ?_, ?_⟩
  · have hf := hr.fr
    have f1 := hf.n E.bm
    have mo : ∀ {R : Option (List (List ByteArray × Ru))} {v : Value}, IsMapO E.bm E.bB (L.at' 0) R v E.w0 → IsMapO E.bm E.bB (L.at' 0) R v w := by
      intro R v h
      cases R with
      | none => exact h
      | some R => obtain ⟨b, hb⟩ := h; exact ⟨b, hb.fr f1 (hf.calm (.inl hb.at))⟩
    exact ⟨hi.blank.fr f1, hi.char.fr f1, hi.comment.fr f1, hi.doctype.fr f1, hi.textEnd.fr f1, mo hi.start, mo hi.stop, hi.otherStart.fr f1, hi.otherEnd.fr f1, hi.others.fr f1⟩
  · intro j hj
    obtain ⟨C, hb, hC⟩ := hr.blk
    rw [cell_at hb, hC.low _ (by omega), show 4 + m * 10 + j = 4 + (m * 10 + j) by omega, hcs _ (by omega), ← e]
    rw [List.getElem?_take_of_lt hj, List.getElem?_drop, Nat.mul_comm]
set_option maxRecDepth 100000 in
set_option maxHeartbeats 2000000 in
theorem takeAs_p (E : Env) (rm : Ru → ATok → M Unit) (t : ATok) (hO : OfTok E t) (hR : ∀ r, RuleDoes E r t (rm r t)) (m : Nat) : Does E 171 (fun _ => #[Bp E, .int .i64 (m : Int), tokV E t]) (asM rm m t) uV := by
  intro f σ w h hs
  unfold asM at hs ⊢
  cases hm : specs[m]? with
  | none => rw [hm] at hs; exact absurd rfl hs
  | some sp =>
    rw [hm] at hs
    simp only [] at hs ⊢
    have hm18 : m < 18 := (List.getElem?_eq_some_iff.1 hm).1
    obtain ⟨v0, v1, v2, v3, v4, v5, v6, v7, v8, v9, hi, hc⟩ := h.rules hm
    have q0 : w.cell? ⟨E.bB, 4 + m * 10, none⟩ = some v0 := hc 0 (by decide)
    have q1 : w.cell? ⟨E.bB, 4 + m * 10 + 1, none⟩ = some v1 := hc 1 (by decide)
    have q2 : w.cell? ⟨E.bB, 4 + m * 10 + 2, none⟩ = some v2 := hc 2 (by decide)
    have q3 : w.cell? ⟨E.bB, 4 + m * 10 + 3, none⟩ = some v3 := hc 3 (by decide)
    have q4 : w.cell? ⟨E.bB, 4 + m * 10 + 4, none⟩ = some v4 := hc 4 (by decide)
    have q5 : w.cell? ⟨E.bB, 4 + m * 10 + 5, none⟩ = some v5 := hc 5 (by decide)
    have q6 : w.cell? ⟨E.bB, 4 + m * 10 + 6, none⟩ = some v6 := hc 6 (by decide)
    have q7 : w.cell? ⟨E.bB, 4 + m * 10 + 7, none⟩ = some v7 := hc 7 (by decide)
    have q8 : w.cell? ⟨E.bB, 4 + m * 10 + 8, none⟩ = some v8 := hc 8 (by decide)
    have q9 : w.cell? ⟨E.bB, 4 + m * 10 + 9, none⟩ = some v9 := hc 9 (by decide)
    have hlt := h.lt
    have C1 := hide (hO _ _ _ _ _ _ _ _ _ _ _ _ _ w hi)
    have C2 := hide (fun v w' (hk : Kept [] w w') (hv : IsRu E.bm E.bB (f 0) (ruleOf sp t) v w) => hR (ruleOf sp t) v f σ w' (h.kept0 hk) (hv.fr (.of_kept0 hk)) hs)
    clear hO hR h hs hc hi
    generalize hZ : rm (ruleOf sp t) t σ = Z at C2 ⊢
    clear hZ
    generalize tokV E t = tv at *
    go_enter Tryz.func171, Tryz.ntmps171
    go_wp2_with fail
    refine C1.out.mono ?_
    rintro e w1 ⟨v, rfl, hv, hk⟩
    obtain ⟨k, bs, cs, rfl, hcf, hcall⟩ := C2.out v w1 hk hv
    have HC := hide (hcall.mono (fun e W hl => hl.k0 hk))
    clear hcall C1 C2 hv hk
    go_wp2_with fail
    refine HC.out.mono ?_
    intro e W hl
    cases Z with
    | ok a σ' =>
      obtain ⟨g, h1, h2, rfl, h4, h5⟩ := hl
      have HL : Hid (Leaves E f σ.nodes.length w (.ok a σ') uV (.returned (uV g a)) W) := hide ⟨g, h1, h2, rfl, h4, h5⟩
      clear h1 h2 h4 h5
      go_wp2
      go_end0
      exact HL.out
    | stop c p =>
      obtain ⟨j, rfl, h2, h3⟩ := hl
      have H2 := hide h2
      have H3 := hide h3
      clear h2 h3
      go_wp2
      exact ⟨rfl, leaves_stop rfl H2.out H3.out⟩
    | stuck => exact hl.elim
end Go.Proofs.YtlhhgenpcjjajaaGreatDoor
