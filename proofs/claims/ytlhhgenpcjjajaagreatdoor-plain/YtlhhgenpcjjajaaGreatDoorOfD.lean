import Derived.Test.YtlhhgenpcjjajaaGreatDoorBdH
import Derived.Test.YtlhhgenpcjjajaaGreatDoorOfB
set_option linter.unusedSimpArgs false
set_option linter.unusedVariables false
namespace Go.Proofs.YtlhhgenpcjjajaaGreatDoor
open Go.RowKit
def takeF (OK : ATok → Bool) (rm : (Nat → ATok → M Unit) → Ru → ATok → M Unit) : Nat → Nat → ATok → M Unit
  | 0, _, _ => stuck
  | n + 1, m, t => if OK t then asM (rm (takeF OK rm n)) m t else stuck
theorem takeF_p (E : Env) (OK : ATok → Bool) (rm : (Nat → ATok → M Unit) → Ru → ATok → M Unit) (hO : ∀ t, TokOk E t → OK t = true → OfTok E t)
    (hrm : ∀ rec, (∀ (m : Nat) (t : ATok), TokOk E t → Does E 171 (fun _ => #[Bp E, .int .i64 (m : Int), tokV E t]) (rec m t) uV) → ∀ r t, TokOk E t → OK t = true → RuleDoes E r t (rm rec r t)) :
    ∀ n (m : Nat) (t : ATok), TokOk E t → Does E 171 (fun _ => #[Bp E, .int .i64 (m : Int), tokV E t]) (takeF OK rm n m t) uV
  | 0, _, _, _ => fun _ _ _ _ hs => absurd rfl hs
  | n + 1, m, t, ht => by
    unfold takeF
    by_cases ho : OK t = true
    · rw [if_pos ho]
      exact takeAs_p E _ t (hO t ht ho) (fun r => hrm _ (takeF_p E OK rm hO hrm n) r t ht ho) m
    · rw [if_neg ho]
      exact fun _ _ _ _ hs => absurd rfl hs
def TakeM (rec : Nat → ATok → M Unit) (t : ATok) : M Unit := match t.k with
  | .lost => Pure.pure ()
  | _ => fun σ => if σ.behind && eqS t.chars ⟨#[10]⟩ then .ok () { σ with behind := false, at' := t.a } else takeM rec t { σ with behind := false, at' := t.a }
theorem eqS_nl (s : ByteArray) : eqS s ⟨#[10]⟩ = (s.toList == [10]) := by
  unfold eqS
  rw [ByteArray.toList_eq ⟨#[10]⟩]
set_option maxRecDepth 100000 in
set_option maxHeartbeats 1000000 in
theorem bytes_ok (a b : Int) (w : World) : Calls Tryz.prog 436 #[.agg #[.int .i64 a, .int .i64 b]] w fun e w' => e = .returned (.tuple #[.int .i64 a, .int .i64 b]) ∧ Kept [] w w' := by
  go_enter Tryz.func436, Tryz.ntmps436
  go_wp2_with fail
  go_region
  all_goals (try go_wp2)
  all_goals (try go_ret2)
  all_goals exact ⟨rfl, ((Kept.refl [] w).alloc _).drew⟩
set_option maxRecDepth 100000 in
set_option maxHeartbeats 4000000 in
theorem Take_char (E : Env) (rec : Nat → ATok → M Unit) (hA : ∀ (m : Nat) (t : ATok), TokOk E t → Does E 171 (fun _ => #[Bp E, .int .i64 (m : Int), tokV E t]) (rec m t) uV) (a b : Nat) (s : ByteArray) (ats : List (ByteArray × ByteArray)) (ht : TokOk E ⟨a, b, .char s, ats⟩) : Does E 57 (fun _ => #[Bp E, tokV E ⟨a, b, .char s, ats⟩]) (TakeM rec ⟨a, b, .char s, ats⟩) uV := by
  have HT := hide (take_p E rec hA ⟨a, b, .char s, ats⟩ ht)
  have HCh := hide (fun w => charsOf_ok E ⟨a, b, .char s, ats⟩ w)
  intro f σ w h hs
  obtain ⟨R, hR⟩ : ∃ R, R = (TakeM rec ⟨a, b, .char s, ats⟩) σ := ⟨_, rfl⟩
  rw [← hR] at hs ⊢
  unfold TakeM at hR
  simp only [] at hR
  have HS := hide hs
  have H := hide (At.start h)
  have hmeth : ∀ w, (Go.method 500 188 (.agg #[.int .i64 (a : Int), .int .i64 (b : Int), .string s]) "Bytes").run Tryz.prog w = .ok (436, .agg #[.int .i64 (a : Int), .int .i64 (b : Int)]) w := fun w => by kernel_rfl
  have c1 := H.out.c198
  have hlt := h.lt
  have f1 := H.out.free 198
  have f2 := H.out.free 197
  have c2 := H.out.c197
  have cm := fun w => charsOf_ok E ⟨a, b, .char s, ats⟩ w
  simp only [tokV, ATok.chars] at cm HT ⊢
  have q_Lost := fun (v : Value) (xT : TypeId) (w : World) => ta_no (T := 188) (z := .agg #[.int .i64 0, .int .i64 0]) Tryz.underlying190 (by kernel_rfl) (by decide) v xT w
  have CM := hide cm
  clear h hs cm
  have K1 : Hid (∀ o, Kept [] w (w.alloc o)) := hide (fun o => (Kept.refl [] w).alloc o)
  have HB := hide (fun w => bytes_ok (a : Int) (b : Int) w)
  replace H := hide ((H.out.set_behind false).k0 ((Kept.refl [] _).alloc (.cells #[.int .i64 0, .int .i64 0] 190 (0, 0))))
  cases hb : σ.behind with
  | false =>
    have hR2 : R = (takeM rec ⟨a, b, .char s, ats⟩ >>= fun _ => (Pure.pure () : M Unit)) { σ with behind := false, at' := a } := by rw [hR, hb, M.bind_pure]; rfl
    have HR := hide hR2
    rw [hb] at c1
    clear hR hR2 hb K1
    go_enter Tryz.func57, Tryz.ntmps57
    go_wp2_with fail
    refine (HB.out _).mono ?_
    rintro e w1 ⟨rfl, hk1⟩
    replace H := hide (H.out.k0 hk1)
    clear hk1
    have c3 := H.out.c197
    have f3 := H.out.free 197
    have l3 := H.out.lt
    replace H := hide (H.out.set_at a)
    go_wp2_with fail
    refine Does.call (HT.out) H.out HR.out HS.out (rfl) ?_ ?_
    · intro c p j ws h1 h2 h3
      have H1 := hide h1
      have H2 := hide h2
      have H3 := hide h3
      clear h1 h2 h3
      go_wp2
      exact ⟨rfl, leaves_stop H1.out H2.out H3.out⟩
    rintro (_) f σ w h1 h0 h2 h3
    have HX := hide h0
    have HF := hide h2
    clear h0
    replace H := hide h1
    replace HR := hide h3
    clear h1 h2 h3
    try dsimp only at HR
    go_wp2
    go_end0
    exact leaves_ok HR.out H.out rfl
  | true =>
    rw [hb] at c1 hR
    simp only [Bool.true_and] at hR
    clear hb K1
    cases hn : eqS (ATok.chars ⟨a, b, .char s, ats⟩) ⟨#[10]⟩ with
    | false =>
      rw [hn] at hR
      have hR2 : R = (takeM rec ⟨a, b, .char s, ats⟩ >>= fun _ => (Pure.pure () : M Unit)) { σ with behind := false, at' := a } := by rw [hR, M.bind_pure]; rfl
      have HR := hide hR2
      have hn2 := (eqS_nl (ATok.chars ⟨a, b, .char s, ats⟩)).symm.trans hn
      simp only [ATok.chars] at hn2
      clear hR hR2 hn
      go_enter Tryz.func57, Tryz.ntmps57
      go_wp2_with fail
      refine (HB.out _).mono ?_
      rintro e w1 ⟨rfl, hk1⟩
      replace H := hide (H.out.k0 hk1)
      clear hk1
      have c3 := H.out.c197
      have f3 := H.out.free 197
      have l3 := H.out.lt
      replace H := hide (H.out.set_at a)
      go_wp2_with fail
      refine (CM.out _).mono ?_
      rintro e w2 ⟨rfl, hk2⟩
      replace H := hide (H.out.k0 hk2)
      clear hk2
      go_wp2_with fail
      refine Does.call (HT.out) H.out HR.out HS.out (rfl) ?_ ?_
      · intro c p j ws h1 h2 h3
        have H1 := hide h1
        have H2 := hide h2
        have H3 := hide h3
        clear h1 h2 h3
        go_wp2
        exact ⟨rfl, leaves_stop H1.out H2.out H3.out⟩
      rintro (_) f σ w h1 h0 h2 h3
      have HX := hide h0
      have HF := hide h2
      clear h0
      replace H := hide h1
      replace HR := hide h3
      clear h1 h2 h3
      try dsimp only at HR
      go_wp2
      go_end0
      exact leaves_ok HR.out H.out rfl
    | true =>
      rw [hn] at hR
      simp only [] at hR
      have HR := hide hR
      have hn2 := (eqS_nl (ATok.chars ⟨a, b, .char s, ats⟩)).symm.trans hn
      simp only [ATok.chars] at hn2
      clear hR hn
      go_enter Tryz.func57, Tryz.ntmps57
      go_wp2_with fail
      refine (HB.out _).mono ?_
      rintro e w1 ⟨rfl, hk1⟩
      replace H := hide (H.out.k0 hk1)
      clear hk1
      have c3 := H.out.c197
      have f3 := H.out.free 197
      have l3 := H.out.lt
      replace H := hide (H.out.set_at a)
      go_wp2_with fail
      refine (CM.out _).mono ?_
      rintro e w2 ⟨rfl, hk2⟩
      replace H := hide (H.out.k0 hk2)
      clear hk2
      go_wp2
      go_end0
      exact leaves_ok HR.out H.out rfl
set_option maxRecDepth 100000 in
set_option maxHeartbeats 4000000 in
theorem Take_textEnd (E : Env) (rec : Nat → ATok → M Unit) (hA : ∀ (m : Nat) (t : ATok), TokOk E t → Does E 171 (fun _ => #[Bp E, .int .i64 (m : Int), tokV E t]) (rec m t) uV) (a b : Nat)  (ats : List (ByteArray × ByteArray)) (ht : TokOk E ⟨a, b, .textEnd, ats⟩) : Does E 57 (fun _ => #[Bp E, tokV E ⟨a, b, .textEnd, ats⟩]) (TakeM rec ⟨a, b, .textEnd, ats⟩) uV := by
  have HT := hide (take_p E rec hA ⟨a, b, .textEnd, ats⟩ ht)
  have HCh := hide (fun w => charsOf_ok E ⟨a, b, .textEnd, ats⟩ w)
  intro f σ w h hs
  obtain ⟨R, hR⟩ : ∃ R, R = (TakeM rec ⟨a, b, .textEnd, ats⟩) σ := ⟨_, rfl⟩
  rw [← hR] at hs ⊢
  unfold TakeM at hR
  simp only [] at hR
  have HS := hide hs
  have H := hide (At.start h)
  have hmeth : ∀ w, (Go.method 500 186 (.agg #[.int .i64 (a : Int), .int .i64 (b : Int)]) "Bytes").run Tryz.prog w = .ok (436, .agg #[.int .i64 (a : Int), .int .i64 (b : Int)]) w := fun w => by kernel_rfl
  have c1 := H.out.c198
  have hlt := h.lt
  have f1 := H.out.free 198
  have f2 := H.out.free 197
  have c2 := H.out.c197
  have cm := fun w => charsOf_ok E ⟨a, b, .textEnd, ats⟩ w
  simp only [tokV, ATok.chars] at cm HT ⊢
  have q_Lost := fun (v : Value) (xT : TypeId) (w : World) => ta_no (T := 186) (z := .agg #[.int .i64 0, .int .i64 0]) Tryz.underlying190 (by kernel_rfl) (by decide) v xT w
  have CM := hide cm
  clear h hs cm
  have K1 : Hid (∀ o, Kept [] w (w.alloc o)) := hide (fun o => (Kept.refl [] w).alloc o)
  have HB := hide (fun w => bytes_ok (a : Int) (b : Int) w)
  replace H := hide ((H.out.set_behind false).k0 ((Kept.refl [] _).alloc (.cells #[.int .i64 0, .int .i64 0] 190 (0, 0))))
  cases hb : σ.behind with
  | false =>
    have hR2 : R = (takeM rec ⟨a, b, .textEnd, ats⟩ >>= fun _ => (Pure.pure () : M Unit)) { σ with behind := false, at' := a } := by rw [hR, hb, M.bind_pure]; rfl
    have HR := hide hR2
    rw [hb] at c1
    clear hR hR2 hb K1
    go_enter Tryz.func57, Tryz.ntmps57
    go_wp2_with fail
    refine (HB.out _).mono ?_
    rintro e w1 ⟨rfl, hk1⟩
    replace H := hide (H.out.k0 hk1)
    clear hk1
    have c3 := H.out.c197
    have f3 := H.out.free 197
    have l3 := H.out.lt
    replace H := hide (H.out.set_at a)
    go_wp2_with fail
    refine Does.call (HT.out) H.out HR.out HS.out (rfl) ?_ ?_
    · intro c p j ws h1 h2 h3
      have H1 := hide h1
      have H2 := hide h2
      have H3 := hide h3
      clear h1 h2 h3
      go_wp2
      exact ⟨rfl, leaves_stop H1.out H2.out H3.out⟩
    rintro (_) f σ w h1 h0 h2 h3
    have HX := hide h0
    have HF := hide h2
    clear h0
    replace H := hide h1
    replace HR := hide h3
    clear h1 h2 h3
    try dsimp only at HR
    go_wp2
    go_end0
    exact leaves_ok HR.out H.out rfl
  | true =>
    rw [hb] at c1 hR
    simp only [Bool.true_and] at hR
    clear hb K1
    cases hn : eqS (ATok.chars ⟨a, b, .textEnd, ats⟩) ⟨#[10]⟩ with
    | false =>
      rw [hn] at hR
      have hR2 : R = (takeM rec ⟨a, b, .textEnd, ats⟩ >>= fun _ => (Pure.pure () : M Unit)) { σ with behind := false, at' := a } := by rw [hR, M.bind_pure]; rfl
      have HR := hide hR2
      have hn2 := (eqS_nl (ATok.chars ⟨a, b, .textEnd, ats⟩)).symm.trans hn
      simp only [ATok.chars] at hn2
      clear hR hR2 hn
      go_enter Tryz.func57, Tryz.ntmps57
      go_wp2_with fail
      refine (HB.out _).mono ?_
      rintro e w1 ⟨rfl, hk1⟩
      replace H := hide (H.out.k0 hk1)
      clear hk1
      have c3 := H.out.c197
      have f3 := H.out.free 197
      have l3 := H.out.lt
      replace H := hide (H.out.set_at a)
      go_wp2_with fail
      refine (CM.out _).mono ?_
      rintro e w2 ⟨rfl, hk2⟩
      replace H := hide (H.out.k0 hk2)
      clear hk2
      go_wp2_with fail
      refine Does.call (HT.out) H.out HR.out HS.out (rfl) ?_ ?_
      · intro c p j ws h1 h2 h3
        have H1 := hide h1
        have H2 := hide h2
        have H3 := hide h3
        clear h1 h2 h3
        go_wp2
        exact ⟨rfl, leaves_stop H1.out H2.out H3.out⟩
      rintro (_) f σ w h1 h0 h2 h3
      have HX := hide h0
      have HF := hide h2
      clear h0
      replace H := hide h1
      replace HR := hide h3
      clear h1 h2 h3
      try dsimp only at HR
      go_wp2
      go_end0
      exact leaves_ok HR.out H.out rfl
    | true =>
      rw [hn] at hR
      simp only [] at hR
      have HR := hide hR
      have hn2 := (eqS_nl (ATok.chars ⟨a, b, .textEnd, ats⟩)).symm.trans hn
      simp only [ATok.chars] at hn2
      rw [ByteArray.toList_eq] at hn2
      exact absurd hn2 (by decide)
end Go.Proofs.YtlhhgenpcjjajaaGreatDoor
namespace Go.Proofs.YtlhhgenpcjjajaaGreatDoor
open Go.RowKit
theorem RF.lastO {E : Env} {f : Nat → Nat} {σ : Ab} {w : World} (h : RF E f σ w) : Calls Tryz.prog 179 #[.pointer (some ⟨E.bB, 188, none⟩)] w fun e w' => e = .returned (oV f σ.last) ∧ w' = w := by
  obtain ⟨L, rfl, hr⟩ := h; exact o_last hr
theorem RF.lenA {E : Env} {f : Nat → Nat} {σ : Ab} {w : World} (h : RF E f σ w) : Calls Tryz.prog 269 #[.pointer (some ⟨E.bB, 189, none⟩)] w fun e w' => e = .returned (.int .i64 σ.act.length) ∧ w' = w := by
  obtain ⟨L, rfl, hr⟩ := h; exact a_len hr
theorem RF.atA {E : Env} {f : Nat → Nat} {σ : Ab} {w : World} (h : RF E f σ w) (n : Int) : Calls Tryz.prog 248 #[.pointer (some ⟨E.bB, 189, none⟩), .int .i64 n] w fun e w' => e = .returned (oV f (getAt σ.act n)) ∧ w' = w := by
  obtain ⟨L, rfl, hr⟩ := h; exact a_at hr n
theorem RF.atO {E : Env} {f : Nat → Nat} {σ : Ab} {w : World} (h : RF E f σ w) (n : Int) : Calls Tryz.prog 248 #[.pointer (some ⟨E.bB, 188, none⟩), .int .i64 n] w fun e w' => e = .returned (oV f (getAt σ.opn n)) ∧ w' = w := by
  obtain ⟨L, rfl, hr⟩ := h; exact o_at hr n
theorem RF.hasO {E : Env} {f : Nat → Nat} {σ : Ab} {w : World} (h : RF E f σ w) (x : Option Nat) (hx : σ.isEl x = true) : Calls Tryz.prog 322 #[.pointer (some ⟨E.bB, 188, none⟩), oV f x] w fun e w' => e = .returned (.bool (decide (x ∈ σ.opn))) ∧ w' = w := by
  obtain ⟨L, rfl, hr⟩ := h; exact o_has hr x hx
theorem RF.hasA {E : Env} {f : Nat → Nat} {σ : Ab} {w : World} (h : RF E f σ w) (x : Option Nat) (hx : σ.isEl x = true) : Calls Tryz.prog 322 #[.pointer (some ⟨E.bB, 189, none⟩), oV f x] w fun e w' => e = .returned (.bool (decide (x ∈ σ.act))) ∧ w' = w := by
  obtain ⟨L, rfl, hr⟩ := h; exact a_has hr x hx
theorem RF.aheadO {E : Env} {f : Nat → Nat} {σ : Ab} {w : World} (h : RF E f σ w) (x : Option Nat) (hx : σ.isEl x = true) : Calls Tryz.prog 246 #[.pointer (some ⟨E.bB, 188, none⟩), oV f x] w fun e w' => e = .returned (oV f (getAt σ.opn (posOf σ.opn x - 1))) ∧ w' = w := by
  obtain ⟨L, rfl, hr⟩ := h; exact o_rightAhead hr x hx
theorem RF.actEl {E : Env} {f : Nat → Nat} {σ : Ab} {w : World} (h : RF E f σ w) (n : Int) : σ.isEl (getAt σ.act n) = true := by
  obtain ⟨L, rfl, hr⟩ := h
  unfold getAt
  by_cases hn : 0 ≤ n ∧ n < σ.act.length
  · rw [if_pos hn]
    have hl : n.toNat < σ.act.length := by omega
    have e : σ.act.getD n.toNat none = σ.act[n.toNat] := by simp [List.getD, hl]
    rw [e]
    exact hr.wf.act _ (List.getElem_mem hl)
  · rw [if_neg hn]; rfl
set_option maxHeartbeats 2000000 in
theorem isMO_ok {E : Env} {f : Nat → Nat} {σ : Ab} {w : World} (h : RF E f σ w) (x : Option Nat) (hx : σ.isEl x = true) :
    Calls Tryz.prog 274 #[Bp E, oV f x] w fun e w' => e = .returned (.bool (σ.isMO x)) ∧ w' = w := by
  have C := hide (h.hasO x hx)
  unfold Ab.isMO
  cases x with
  | none =>
    go_enter Tryz.func274, Tryz.ntmps274
    go_wp2
    go_ret
    exact ⟨rfl, rfl⟩
  | some i =>
    have e0 : oV f (some i) = .pointer (some ⟨f i, 0, none⟩) := rfl
    rw [e0] at C ⊢
    go_enter Tryz.func274, Tryz.ntmps274
    go_wp2_with fail
    refine C.out.mono ?_
    rintro e w' ⟨rfl, rfl⟩
    go_wp2
    go_ret
    exact ⟨by simp, rfl⟩
set_option maxHeartbeats 2000000 in
theorem addEntry_m (E : Env) (x : Option Nat) : Moves E 290 (fun f => #[Bp E, oV f x]) (addEntry x) uV := by
  intro f σ w ⟨L, e, h⟩ hm
  subst e
  have c0 := h.low (j := 1) (by decide) h.lim.2.1
  obtain ⟨_, _, _, _, hd, _⟩ := h.lim
  have hol := h.cle
  have C1 := hide (fun q => a_len (h.drewN q))
  unfold addEntry at hm ⊢
  by_cases hl : σ.frm ≤ σ.act.length
  · rw [if_pos hl]
    have C2 := hide (fun q => stop_ok (h.drewN q) 6)
    clear h hm
    go_enter Tryz.func290, Tryz.ntmps290
    go_wp2_with fail
    go_quiet ((go_at_call 269; exact Calls.quiet_of_same (C1.out _)))
    go_wp2_with fail
    refine (C2.out nq).mono ?_
    rintro e w' ⟨k, rfl, h1, h2⟩
    have H1 := hide h1
    have H2 := hide ((Fr.drewN w nq).trans h2)
    clear h1 h2
    go_wp2
    exact ⟨rfl, k, rfl, H1.out, H2.out⟩
  · rw [if_neg hl] at hm ⊢
    have hx : σ.isEl x = true := by
      by_cases hx : σ.isEl x = true
      · exact hx
      · rw [if_neg hx] at hm; exact absurd rfl hm
    rw [if_pos hx]
    have C2 := hide (fun q => a_push (h.drewN q) x hx (by omega))
    clear h hm
    go_enter Tryz.func290, Tryz.ntmps290
    go_wp2_with fail
    go_quiet ((go_at_call 269; exact Calls.quiet_of_same (C1.out _)))
    go_wp2_with fail
    refine (C2.out nq).mono ?_
    rintro e w' ⟨rfl, L', e1, hR, hf⟩
    have HR := hide hR
    have HF := hide ((Fr.drewN w nq).trans hf)
    clear hR hf
    go_wp2
    go_end0
    exact ⟨rfl, ⟨L', e1, HR.out⟩, HF.out, Nat.le_refl _⟩
theorem M.tail {α : Type} {m : M α} {σ : Ab} {R : Res α} (h : R = m σ) : R = (m >>= fun a => (Pure.pure a : M α)) σ := by rw [M.bind_pure]; exact h
set_option maxHeartbeats 1000000 in
theorem addMarker_m (E : Env) : Moves E 223 (fun _ => #[Bp E]) (addEntry none) uV := by
  intro f σ w h hs
  obtain ⟨R, hR⟩ : ∃ R, R = (addEntry none) σ := ⟨_, rfl⟩
  rw [← hR] at hs ⊢
  have HS := hide hs
  have H := hide (At.start h)
  have HR := hide hR
  clear h hs hR
  go_enter Tryz.func223, Tryz.ntmps223
  replace HR := hide (M.tail HR.out)
  go_wp2_with fail
  refine Moves.call (addEntry_m E none) H.out HR.out HS.out (rfl) ?_ ?_
  · intro c p j ws h1 h2 h3
    have H1 := hide h1
    have H2 := hide h2
    have H3 := hide h3
    clear h1 h2 h3
    go_wp2
    exact ⟨rfl, moves_stop H1.out H2.out H3.out⟩
  rintro (_) σ w h1 h2 h3
  have HF := hide h2
  replace H := hide h1
  replace HR := hide h3
  clear h1 h2 h3
  try dsimp only at HR
  go_wp2
  go_end0
  exact moves_ok HR.out H.out rfl
set_option maxHeartbeats 1000000 in
theorem unmark_m (E : Env) : Moves E 289 (fun _ => #[Bp E]) unmark uV := by
  intro f σ w h hs
  obtain ⟨R, hR⟩ : ∃ R, R = (unmark) σ := ⟨_, rfl⟩
  rw [← hR] at hs ⊢
  unfold unmark at hR
  have HS := hide hs
  have H := hide (At.start h)
  have HR := hide hR
  clear h hs hR
  go_enter Tryz.func289, Tryz.ntmps289
  go_wp2_with fail
  refine Moves.call (aPopTo_m E none) H.out HR.out HS.out (rfl) ?_ ?_
  · intro c p j ws h1 h2 h3
    have H1 := hide h1
    have H2 := hide h2
    have H3 := hide h3
    clear h1 h2 h3
    go_wp2
    exact ⟨rfl, moves_stop H1.out H2.out H3.out⟩
  rintro (_) σ w h1 h2 h3
  have HF := hide h2
  replace H := hide h1
  replace HR := hide h3
  clear h1 h2 h3
  try dsimp only at HR
  go_wp2
  go_end0
  exact moves_ok HR.out H.out rfl
theorem recL_snoc {σ : Ab} {xs : List (Option Nat)} {x : Option Nat} : σ.recL ((xs ++ [x]).reverse) = if σ.isMO x then xs.length + 1 else σ.recL xs.reverse := by
  rw [List.reverse_append]
  show (if σ.isMO x then xs.reverse.length + 1 else σ.recL xs.reverse) = _
  rw [List.length_reverse]
end Go.Proofs.YtlhhgenpcjjajaaGreatDoor
namespace Go.Proofs.YtlhhgenpcjjajaaGreatDoor
open Go.RowKit
theorem aRepl_e {E : Env} {f : Nat → Nat} {σ : Ab} {w : World} (h : RF E f σ w) (x y : Option Nat) (hs : aRepl x y σ ≠ .stuck) :
    Calls Tryz.prog 276 #[.pointer (some ⟨E.bB, 189, none⟩), oV f x, oV f y] w fun e w' => e = .returned (.tuple #[]) ∧ aRepl x y σ = .ok () { σ with act := repl σ.act x y } ∧ RF E f { σ with act := repl σ.act x y } w' ∧ Fr E.bs w w' := by
  have := aRepl_m E x y f σ w h hs
  unfold aRepl at this hs ⊢
  by_cases hx : (σ.isEl x && σ.isEl y) = true
  · rw [if_pos hx] at this ⊢
    exact this.mono (fun e w' h => ⟨h.1, rfl, h.2.1, h.2.2.1⟩)
  · rw [if_neg hx] at hs; exact absurd rfl hs
theorem repl_length (xs : List (Option Nat)) (x y : Option Nat) : (repl xs x y).length = xs.length := by
  unfold repl; split <;> simp
theorem insertM_act {j : Nat} {σ σ' : Ab} (h : insertM j σ = .ok () σ') : σ'.act = σ.act := by
  unfold insertM at h
  rw [M.bind_run] at h
  cases h1 : placeM σ with
  | stuck => rw [h1] at h; cases h
  | stop c p => rw [h1] at h; cases h
  | ok pl σ1 =>
    have e1 : σ1 = σ := by
      unfold placeM at h1
      cases hl : σ.last with
      | none => rw [hl] at h1; cases h1
      | some i =>
        rw [hl] at h1
        have h1 : placeFor i σ = .ok pl σ1 := h1
        unfold placeFor at h1
        split at h1
        · exact fosterPlace_same h1
        · exact endOf_same h1
    rw [e1] at h1
    rw [h1] at h
    simp only at h
    rw [M.bind_run] at h
    clear e1
    cases h2 : putEl pl j σ with
    | stuck => rw [h2] at h; cases h
    | stop c p => rw [h2] at h; cases h
    | ok u σ2 =>
      have e2 : σ2.act = σ.act := by
        unfold putEl at h2
        split at h2
        · split at h2
          · cases h2; rfl
          · cases h2
        · cases h2
      rw [h2] at h
      simp only at h
      rw [M.bind_run] at h
      cases h3 : pushM (some j) σ2 with
      | stuck => rw [h3] at h; cases h
      | stop c p => rw [h3] at h; cases h
      | ok u σ3 =>
        rw [h3] at h
        have e3 : σ3.act = σ2.act := by
          unfold pushM at h3
          split at h3
          · cases h3
          · split at h3
            · cases h3; rfl
            · cases h3
        have : σ3 = σ' := by
          have h' : (Res.ok () σ3 : Res Unit) = .ok () σ' := h
          cases h'; rfl
        rw [← this, e3, e2]
set_option maxHeartbeats 8000000 in
set_option maxRecDepth 100000 in
theorem reconstruct_p (E : Env) (hF : FosterOk E) : Does E 190 (fun _ => #[Bp E]) reconstruct uV := by
  intro f σ w h hs
  obtain ⟨R, hR⟩ : ∃ R, R = reconstruct σ := ⟨_, rfl⟩
  rw [← hR] at hs ⊢
  have HS := hide hs
  have H := hide (At.start h)
  have hR2 : R = recM (σ.act.length - σ.recN) σ.recN σ := hR
  have HR := hide hR2
  have C1 := hide h.lenA
  have hlt := h.lt
  have hcl : σ.act.length ≤ 4096 := by obtain ⟨L, _, hr⟩ := h; exact hr.cle
  have hrn : σ.recN ≤ σ.act.length := by
    have : ∀ xs : List (Option Nat), σ.recL xs ≤ xs.length := by
      intro xs
      induction xs with
      | nil => exact Nat.le_refl _
      | cons x xs ih =>
        show (if σ.isMO x then xs.length + 1 else σ.recL xs) ≤ xs.length + 1
        split <;> omega
    have := this σ.act.reverse
    rwa [List.length_reverse] at this
  have HH := hide h
  clear h hs hR hR2
  go_enter Tryz.func190, Tryz.ntmps190
  go_wp2_with fail
  refine C1.out.mono ?_
  rintro e w ⟨rfl, rfl⟩
  go_wp2_with fail
  rename_i K hK0
  have hK : ∀ (u8 u9 u10 u11 u12 u13 u14 u15 u16 u17 u18 u19 u20 u21 u22 : Value), K { tmps := #[Bp E, undef, .int .i64 (σ.recN : Int), undef, Bp E, .pointer (some ⟨E.bB, 0, none⟩), .pointer (some ⟨E.bB, 189, none⟩), .int .i64 (σ.act.length : Int), u8, u9, u10, u11, u12, u13, u14, u15, u16, u17, u18, u19, u20, u21, u22, undef, undef, undef, undef, undef, undef, undef, undef, undef, undef, undef, undef, undef, undef, undef, undef, undef, undef, undef, undef, undef, undef, undef, undef, undef, undef], defers := [] } w := by
    intro u8 u9 u10 u11 u12 u13 u14 u15 u16 u17 u18 u19 u20 u21 u22
    refine hK0 _ _ ?_
    have HRN := hide hrn
    clear hK0 C1
    go_wp2_with fail
    go_loopw [2, 3] (fun v v3 wr => ∃ (k n : Nat) (g : Nat → Nat) (σ1 : Ab), v = .int .i64 (n : Int) ∧ n + k = σ.act.length ∧ At E f σ.nodes.length w g σ1 wr ∧ R = recM k n σ1 ∧ σ1.act.length = σ.act.length) (fun v _ _ => σ.act.length - (intOf v).toNat)
    case atStart => exact ⟨σ.act.length - σ.recN, σ.recN, f, σ, rfl, by have := HRN.out; omega, H.out, HR.out, rfl⟩
    case round =>
      obtain ⟨k, n, g, σ1, rfl, hnk, hat, hR1, hl1⟩ := hrel
      have H := hide hat
      have HR := hide hR1
      have CL := hat.rel.lenA
      rw [hl1] at CL
      have HCL := hide CL
      have hlt := hat.lt
      have HL1 := hide hl1
      clear hat hR1 CL hl1
      cases k with
      | zero =>
        have e0 : (n : Int) = (σ.act.length : Int) := by omega
        have hcond : ((n : Int) < (σ.act.length : Int)) = False := by simp; omega
        go_wp2_with fail
        refine HCL.out.mono ?_
        rintro e w' ⟨rfl, rfl⟩
        go_wp2
        go_end0
        exact leaves_ok HR.out H.out rfl
      | succ k =>
        have hcond : (n : Int) < (σ.act.length : Int) := by omega
        have hold : ∃ old, getAt σ1.act (n : Int) = some old := by
          cases hg : getAt σ1.act (n : Int) with
          | some i => exact ⟨i, rfl⟩
          | none =>
            exfalso
            apply HS.out
            rw [HR.out]
            unfold recM
            rw [M.bind_run]
            unfold actAt
            rw [hg]
        obtain ⟨old, hold⟩ := hold
        have hie := H.out.rel.actEl (n : Int)
        have CA := H.out.rel.atA (n : Int)
        rw [hold] at CA hie
        have HCA := hide CA
        have HOL := hide (Ab.isEl_lt hie)
        replace HR : Hid (R = (anotherM old >>= fun j => (do
            insertM j
            aReplLast old
            recM k (n + 1) : M Unit)) σ1) := by
          refine hide (HR.out.trans ?_)
          show (actAt n >>= _) σ1 = _
          rw [M.bind_run]
          unfold actAt
          rw [hold]
        clear hold hie CA
        go_wp2_with fail
        refine HCL.out.mono ?_
        rintro e wr ⟨rfl, rfl⟩
        go_wp2_with fail
        refine HCA.out.mono ?_
        rintro e wr ⟨rfl, rfl⟩
        rw [show oV g (some old) = .pointer (some ⟨g old, 0, none⟩) from rfl]
        clear HCA HCL
        go_wp2_with fail
        refine Does.callE (another_d E old) H.out HR.out HS.out rfl ?_ ?_
        · intro c p j ws h1 h2 h3
          have H1 := hide h1
          have H2 := hide h2
          have H3 := hide h3
          clear h1 h2 h3
          go_wp2
          exact ⟨rfl, leaves_stop H1.out H2.out H3.out⟩
        rintro j g2 σ2 w2 h1 h0 h2 h3 h4
        have HX := hide h0
        have HJ : Hid (σ2.act = σ1.act) := by
          unfold anotherM at h4
          split at h4
          · split at h4
            · cases h4
            · cases h4; exact hide rfl
          · cases h4
        clear h4
        replace H := hide h1
        replace HR := hide h3
        clear h1 h0 h2 h3
        go_wp2_with fail
        refine Moves.callE (insert_p E hF j) H.out HR.out HS.out rfl ?_ ?_
        · intro c p j ws h1 h2 h3
          have H1 := hide h1
          have H2 := hide h2
          have H3 := hide h3
          clear h1 h2 h3
          go_wp2
          exact ⟨rfl, leaves_stop H1.out H2.out H3.out⟩
        rintro ⟨⟩ σ3 w3 h1 h2 h3 h4
        have HJ3 : Hid (σ3.act = σ1.act) := hide ((insertM_act h4).trans HJ.out)
        clear h4
        replace H := hide h1
        replace HR := hide h3
        have hlt3 := h1.lt
        clear h1 h2 h3
        have hs3 : aRepl (some old) σ3.last σ3 ≠ .stuck := by
          intro hst
          apply HS.out
          rw [HR.out, M.bind_run]
          unfold aReplLast
          rw [hst]
        have CL := hide (H.out.k0 ((Kept.refl _ w3).drew)).rel.lastO
        have CR := aRepl_e (H.out.k0 ((Kept.refl _ w3).drew)).rel (some old) σ3.last hs3
        rw [show oV g2 (some old) = .pointer (some ⟨g old, 0, none⟩) from by show Value.pointer (some ⟨g2 old, 0, none⟩) = _; rw [HX.out old HOL.out]] at CR
        have HCR := hide CR
        clear hs3 CR
        go_wp2_with fail
        go_region_with (first
          | (go_at_call 179; refine CL.out.mono ?_; rintro e w4 ⟨rfl, rfl⟩)
          | (go_at_call 276; refine HCR.out.mono ?_; rintro e w5 ⟨rfl, q1, q2, q3⟩; have HZ := hide ((H.out.k0 ((Kept.refl _ w3).drew)).to q2 (len_le _ _ rfl) q3); have HQ := hide q1; clear q1 q2 q3))
        all_goals (try (go_wp2_with fail))
        all_goals refine ⟨⟨k, n + 1, g2, _, by simp, by omega, HZ.out, ?_, ?_⟩, by simp [intOf]; omega⟩
        · rw [HR.out, M.bind_run]
          unfold aReplLast
          rw [HQ.out]
        · show (repl σ3.act (some old) σ3.last).length = σ.act.length
          rw [repl_length, HJ3.out]
          exact HL1.out
  have HKK := hide hK
  clear hK hK0 H HR C1
  go_loopw [2] (fun v wr => ∃ k : Nat, k ≤ σ.act.length ∧ v = .int .i64 (k : Int) ∧ σ.recL (σ.act.take k).reverse = σ.recN ∧ wr = w) (fun v _ => (intOf v).toNat)
  case atStart => exact ⟨σ.act.length, Nat.le_refl _, rfl, by rw [List.take_length]; rfl, rfl⟩
  case round =>
    obtain ⟨k, hk, rfl, hrec, rfl⟩ := hrel
    cases k with
    | zero =>
      have hz : σ.recN = 0 := by rw [← hrec]; rfl
      have HZ := hide hz
      clear hz hrec
      go_wp2
      have := HKK.out
      rw [HZ.out] at this
      exact this _ _ _ _ _ _ _ _ _ _ _ _ _ _ _
    | succ k =>
      have hkl : k < σ.act.length := by omega
      have e1 : σ.act.take (k + 1) = σ.act.take k ++ [σ.act[k]] := by rw [List.take_add_one, List.getElem?_eq_getElem hkl]; rfl
      rw [e1, recL_snoc] at hrec
      have hg : getAt σ.act ((k : Int)) = σ.act[k] := by
        unfold getAt
        rw [if_pos (by omega)]
        simp [List.getD, hkl]
      have CA := HH.out.atA (k : Int)
      have hie := HH.out.actEl (k : Int)
      rw [hg] at CA hie
      have HCA := hide CA
      have CM := isMO_ok HH.out _ hie
      have e2 : ((k + 1 : Nat) : Int) - 1 = (k : Int) := by omega
      have hpos : (0 : Int) < ((k + 1 : Nat) : Int) := by omega
      have htl : (σ.act.take k).length = k := by simp; omega
      rw [htl] at hrec
      clear e1 hg hie CA htl
      generalize hM : σ.isMO σ.act[k] = b at CM hrec
      have HREC := hide hrec
      have HCM := hide CM
      clear hM hrec CM
      generalize oV f σ.act[k] = vv at HCA HCM
      cases b with
      | true =>
        go_wp2_with fail
        refine HCA.out.mono ?_
        rintro e w ⟨rfl, rfl⟩
        go_wp2_with fail
        refine HCM.out.mono ?_
        rintro e w ⟨rfl, rfl⟩
        go_wp2_with fail
        have := HKK.out
        have hrr : k + 1 = σ.recN := by simpa using HREC.out
        rw [← hrr] at this
        exact this _ _ _ _ _ _ _ _ _ _ _ _ _ _ _
      | false =>
        go_wp2_with fail
        refine HCA.out.mono ?_
        rintro e w ⟨rfl, rfl⟩
        go_wp2_with fail
        refine HCM.out.mono ?_
        rintro e w ⟨rfl, rfl⟩
        go_wp2_with fail
        exact ⟨⟨k, by omega, rfl, by simpa using HREC.out, trivial⟩, by simp [intOf]⟩
end Go.Proofs.YtlhhgenpcjjajaaGreatDoor
namespace Go.Proofs.YtlhhgenpcjjajaaGreatDoor
open Go.RowKit
theorem closeM_run (p q : ByteArray → Bool) (σ : Ab) : closeM p q σ = .ok (σ.inScope p q) (σ.close p q) := by
  unfold closeM Ab.close
  cases σ.inScope p q <;> rfl
theorem close_e {E : Env} {f : Nat → Nat} {σ : Ab} {w : World} (h : RF E f σ w) {k1 k2 : Nat} {lb1 lb2 : Array Value} {p q : ByteArray → Bool} (hp : Ask E.bm (.func (.func k1) #[] lb1) p w) (hq : Ask E.bm (.func (.func k2) #[] lb2) q w) :
    Calls Tryz.prog 228 #[Bp E, .func (.func k1) #[] lb1, .func (.func k2) #[] lb2] w fun e w' => e = .returned (.bool (σ.inScope p q)) ∧ RF E f (σ.close p q) w' ∧ Fr E.bs w w' := by
  have := close_m h hp hq
  rw [closeM_run] at this
  exact this.mono (fun e w' h => ⟨h.1, h.2.1, h.2.2.1⟩)
theorem close_len (σ : Ab) (p q : ByteArray → Bool) : σ.nodes.length ≤ (σ.close p q).nodes.length := by
  unfold Ab.close; split <;> exact Nat.le_refl _
theorem tagOf_e (E : Env) (t : ATok) {f : Nat → Nat} {σ : Ab} {w : World} (h : RF E f σ w) : ∃ a b ao n cp, ∀ w, Calls Tryz.prog 177 #[tokV E t] w fun e w' => e = .returned (.agg #[.int .i64 a, .int .i64 b, .string t.name, .slice ao n cp]) ∧ Kept [] w w' := by
  obtain ⟨ao, n, cp, htv⟩ := h.tv
  have C := fun w => tagOf_ok E t w ⟨ao, n, cp, htv⟩
  obtain ⟨a, b, k, ats⟩ := t
  cases k <;> simp only [tagV, ATok.name, htv] at C ⊢
  case start s => exact ⟨_, _, _, _, _, C⟩
  case stop s => exact ⟨_, _, _, _, _, C⟩
  all_goals exact ⟨_, _, _, _, _, C⟩
set_option maxHeartbeats 4000000 in
theorem endHeading_p (E : Env) (t : ATok) : Does E 212 (fun _ => #[Bp E, tokV E t]) (endHeading) uV := by
  intro f σ w h hs
  obtain ⟨R, hR⟩ : ∃ R, R = (endHeading) σ := ⟨_, rfl⟩
  rw [← hR] at hs ⊢
  unfold endHeading at hR
  have HS := hide hs
  have H := hide (At.start h)
  have HR := hide hR
  clear h hs hR
  go_enter Tryz.func212, Tryz.ntmps212
  obtain ⟨kb, lbb, cb, hb⟩ := H.out.rel.bounds
  have hlt := H.out.lt
  have HQ := hide hb
  have HCB := hide cb
  have HD := hide ((Kept.refl [] w).drew)
  clear hb
  replace HR : Hid (R = .ok () (σ.close (hasS [(⟨#[104, 49]⟩ : ByteArray), (⟨#[104, 50]⟩ : ByteArray)]) (pBounds))) := by
    have := HR.out
    rw [M.bind_run, closeM_run] at this
    exact hide this
  go_wp2_with fail
  go_region_with (first
      | (go_at_call 279; refine (headings_ok E _).mono ?_; rintro e w1 ⟨k1, lb1, rfl, ha1, hk1⟩; have hk0 := HD.out.trans hk1; have c1 : w1.cell? ⟨E.bB, 186, none⟩ = some (.func (.func kb) #[] lbb) := (hk0.cell (p := ⟨E.bB, 186, none⟩) hlt (by simp)).trans HCB.out; have HA1 := hide ha1; have HK1 := hide hk0; clear ha1 hk1 hk0)
      | (go_at_call 228; refine (close_e (p := hasS [(⟨#[104, 49]⟩ : ByteArray), (⟨#[104, 50]⟩ : ByteArray)]) (q := pBounds) (H.out.k0 HK1.out).rel HA1.out (HQ.out.k0 HK1.out)).mono ?_; rintro e w2 ⟨rfl, h1, h2⟩; have HZ := hide ((H.out.k0 HK1.out).to h1 (close_len _ _ _) h2); clear h1 h2))
  all_goals (try (go_wp2_with fail))
  all_goals go_wp2
  all_goals go_end0
  all_goals exact leaves_ok HR.out HZ.out rfl
set_option maxHeartbeats 4000000 in
theorem endNamed_p (E : Env) (s : ByteArray) : Does E 219 (fun _ => #[Bp E, .string s]) (endNamed s) uV := by
  intro f σ w h hs
  obtain ⟨R, hR⟩ : ∃ R, R = (endNamed s) σ := ⟨_, rfl⟩
  rw [← hR] at hs ⊢
  unfold endNamed at hR
  have HS := hide hs
  have H := hide (At.start h)
  have HR := hide hR
  clear h hs hR
  go_enter Tryz.func219, Tryz.ntmps219
  obtain ⟨kb, lbb, cb, hb⟩ := H.out.rel.special
  have hlt := H.out.lt
  have HQ := hide hb
  have HCB := hide cb
  have HD := hide ((Kept.refl [] w).drew)
  clear hb
  replace HR : Hid (R = .ok () (σ.close (hasS [s]) (pSpecial))) := by
    have := HR.out
    rw [M.bind_run, closeM_run] at this
    exact hide this
  go_wp2_with fail
  go_region_with (first
      | (go_at_call 225; refine (is_one E [s] w.drew (by simp)).mono ?_; rintro e w1 ⟨k1, lb1, rfl, ha1, hk1⟩; have hk0 := HD.out.trans hk1; have c1 : w1.cell? ⟨E.bB, 184, none⟩ = some (.func (.func kb) #[] lbb) := (hk0.cell (p := ⟨E.bB, 184, none⟩) hlt (by simp)).trans HCB.out; have HA1 := hide ha1; have HK1 := hide hk0; clear ha1 hk1 hk0)
      | (go_at_call 228; refine (close_e (p := hasS [s]) (q := pSpecial) (H.out.k0 HK1.out).rel HA1.out (HQ.out.k0 HK1.out)).mono ?_; rintro e w2 ⟨rfl, h1, h2⟩; have HZ := hide ((H.out.k0 HK1.out).to h1 (close_len _ _ _) h2); clear h1 h2))
  all_goals (try (go_wp2_with fail))
  all_goals go_wp2
  all_goals go_end0
  all_goals exact leaves_ok HR.out HZ.out rfl
set_option maxHeartbeats 4000000 in
theorem endBody_p (E : Env) (t : ATok) : Does E 209 (fun _ => #[Bp E, tokV E t]) (endBody) uV := by
  intro f σ w h hs
  obtain ⟨R, hR⟩ : ∃ R, R = (endBody) σ := ⟨_, rfl⟩
  rw [← hR] at hs ⊢
  unfold endBody at hR
  have HS := hide hs
  have H := hide (At.start h)
  have HR := hide hR
  clear h hs hR
  go_enter Tryz.func209, Tryz.ntmps209
  obtain ⟨kb, lbb, cb, hb⟩ := H.out.rel.bounds
  have hlt := H.out.lt
  have HQ := hide hb
  have HCB := hide cb
  have HD := hide ((Kept.refl [] w).drew)
  clear hb
  go_wp2_with fail
  go_cut [11] from 4 to 10 (fun r wc => r = .bool (σ.inScope (hasS [(⟨#[98, 111, 100, 121]⟩ : ByteArray)]) (pBounds)) ∧ At E f σ.nodes.length w f (σ) wc)
  case first =>
    go_region_with (first
      | (go_at_call 225; refine (is_one E [(⟨#[98, 111, 100, 121]⟩ : ByteArray)] w.drew (by simp)).mono ?_; rintro e w1 ⟨k1, lb1, rfl, ha1, hk1⟩; have hk0 := HD.out.trans hk1; have c1 : w1.cell? ⟨E.bB, 186, none⟩ = some (.func (.func kb) #[] lbb) := (hk0.cell (p := ⟨E.bB, 186, none⟩) hlt (by simp)).trans HCB.out; have HA1 := hide ha1; have HK1 := hide hk0; clear ha1 hk1 hk0)
      | (go_at_call 238; refine (inScope_r (H.out.k0 HK1.out).rel (hasS [(⟨#[98, 111, 100, 121]⟩ : ByteArray)]) (pBounds) _ _ HA1.out (HQ.out.k0 HK1.out)).mono ?_; rintro e w2 ⟨rfl, hk2⟩; have HZ := hide ((H.out.k0 HK1.out).k0 hk2); clear hk2))
    all_goals (try (go_wp2_with fail))
    all_goals (go_meet; exact ⟨rfl, HZ.out⟩)
  case rest =>
    obtain ⟨rfl, hat⟩ := hcut
    replace H := hide hat
    clear hat HQ HCB HD cb hlt
    cases hc : σ.inScope (hasS [(⟨#[98, 111, 100, 121]⟩ : ByteArray)]) pBounds with
    | true =>
      replace HR : Hid (R = .ok () { σ with mode := 16 }) := by
        have := HR.out
        rw [if_pos hc] at this
        exact hide this
      clear hc
      have c2 := H.out.c192
      have f2 := H.out.free 192
      have hl2 := H.out.lt
      replace H := hide (H.out.set_mode 16)
      go_wp2
      go_end0
      exact leaves_ok HR.out H.out rfl
    | false =>
      replace HR : Hid (R = .ok () σ) := by
        have := HR.out
        rw [if_neg (by simp [hc])] at this
        exact hide this
      clear hc
      go_wp2
      go_end0
      exact leaves_ok HR.out H.out rfl
set_option maxHeartbeats 4000000 in
theorem endHTML_p (E : Env) (rec : Nat → ATok → M Unit) (hA : ∀ (m : Nat) (t : ATok), TokOk E t → Does E 171 (fun _ => #[Bp E, .int .i64 (m : Int), tokV E t]) (rec m t) uV) (t : ATok) (ht : TokOk E t) : Does E 210 (fun _ => #[Bp E, tokV E t]) (endHTML rec t) uV := by
  intro f σ w h hs
  obtain ⟨R, hR⟩ : ∃ R, R = (endHTML rec t) σ := ⟨_, rfl⟩
  rw [← hR] at hs ⊢
  unfold endHTML at hR
  have HS := hide hs
  have H := hide (At.start h)
  have HR := hide hR
  clear h hs hR
  go_enter Tryz.func210, Tryz.ntmps210
  obtain ⟨kb, lbb, cb, hb⟩ := H.out.rel.bounds
  have hlt := H.out.lt
  have HQ := hide hb
  have HCB := hide cb
  have HD := hide ((Kept.refl [] w).drew)
  clear hb
  go_wp2_with fail
  go_cut [11] from 4 to 10 (fun r wc => r = .bool (σ.inScope (hasS [(⟨#[98, 111, 100, 121]⟩ : ByteArray)]) (pBounds)) ∧ At E f σ.nodes.length w f (σ) wc)
  case first =>
    go_region_with (first
      | (go_at_call 225; refine (is_one E [(⟨#[98, 111, 100, 121]⟩ : ByteArray)] w.drew (by simp)).mono ?_; rintro e w1 ⟨k1, lb1, rfl, ha1, hk1⟩; have hk0 := HD.out.trans hk1; have c1 : w1.cell? ⟨E.bB, 186, none⟩ = some (.func (.func kb) #[] lbb) := (hk0.cell (p := ⟨E.bB, 186, none⟩) hlt (by simp)).trans HCB.out; have HA1 := hide ha1; have HK1 := hide hk0; clear ha1 hk1 hk0)
      | (go_at_call 238; refine (inScope_r (H.out.k0 HK1.out).rel (hasS [(⟨#[98, 111, 100, 121]⟩ : ByteArray)]) (pBounds) _ _ HA1.out (HQ.out.k0 HK1.out)).mono ?_; rintro e w2 ⟨rfl, hk2⟩; have HZ := hide ((H.out.k0 HK1.out).k0 hk2); clear hk2))
    all_goals (try (go_wp2_with fail))
    all_goals (go_meet; exact ⟨rfl, HZ.out⟩)
  case rest =>
    obtain ⟨rfl, hat⟩ := hcut
    replace H := hide hat
    clear hat HQ HCB HD cb hlt
    cases hc : σ.inScope (hasS [(⟨#[98, 111, 100, 121]⟩ : ByteArray)]) pBounds with
    | true =>
      replace HR : Hid (R = (takeM rec t >>= fun _ => (Pure.pure () : M Unit)) { σ with mode := 16 }) := by
        have := HR.out
        rw [if_pos hc] at this
        exact hide this
      clear hc
      have c2 := H.out.c192
      have f2 := H.out.free 192
      have hl2 := H.out.lt
      replace H := hide (H.out.set_mode 16)
      go_wp2_with fail
      refine Does.call (take_p E rec hA t ht) H.out HR.out HS.out (rfl) ?_ ?_
      · intro c p j ws h1 h2 h3
        have H1 := hide h1
        have H2 := hide h2
        have H3 := hide h3
        clear h1 h2 h3
        go_wp2
        exact ⟨rfl, leaves_stop H1.out H2.out H3.out⟩
      rintro (_) f σ w h1 h0 h2 h3
      have HX := hide h0
      have HF := hide h2
      clear h0
      replace H := hide h1
      replace HR := hide h3
      clear h1 h2 h3
      try dsimp only at HR
      go_wp2
      go_end0
      exact leaves_ok HR.out H.out rfl
    | false =>
      replace HR : Hid (R = .ok () σ) := by
        have := HR.out
        rw [if_neg (by simp [hc])] at this
        exact hide this
      clear hc
      go_wp2
      go_end0
      exact leaves_ok HR.out H.out rfl
end Go.Proofs.YtlhhgenpcjjajaaGreatDoor
