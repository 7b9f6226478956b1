import Derived.Test.YtlhhgenpcjjajaaGreatDoorDoA
import Derived.Test.YtlhhgenpcjjajaaGreatDoorDoD
import Derived.Sort.BigQuietIn
import Derived.RegionIn
import Derived.TacticsIn
set_option linter.unusedSimpArgs false
set_option linter.unusedVariables false
namespace Go.Proofs.YtlhhgenpcjjajaaGreatDoor
open Go.RowKit
theorem Leaves.k0 {α : Type} {E : Env} {f : Nat → Nat} {n : Nat} {w w' W : World} {r : Res α} {val : (Nat → Nat) → α → Value} {e : Ending} (h : Leaves E f n w' r val e W) (hk : Kept [] w w') : Leaves E f n w r val e W := by
  cases r with
  | ok a σ' => obtain ⟨g, h1, h2, h3, h4, h5⟩ := h; exact ⟨g, h1, h2, h3, h4, (Fr.of_kept0 hk).trans h5⟩
  | stop c p => obtain ⟨k, h1, h2, h3⟩ := h; exact ⟨k, h1, h2, (Fr.of_kept0 hk).trans h3⟩
  | stuck => exact h
def OfTok (E : Env) (t : ATok) : Prop := ∀ (bB bD : Nat) (sp : RSpec) (v0 v1 v2 v3 v4 v5 v6 v7 v8 v9 : Value) (w : World), IsRules E.bm bB bD sp v0 v1 v2 v3 v4 v5 v6 v7 v8 v9 w →
    Calls Tryz.prog 264 #[.agg #[v0, v1, v2, v3, v4, v5, v6, v7, v8, v9], tokV E t] w fun e w' => ∃ v, e = .returned v ∧ IsRu E.bm bB bD (ruleOf sp t) v w ∧ Kept [] w w'
def RuleDoes (E : Env) (r : Ru) (t : ATok) (m : M Unit) : Prop := ∀ v f σ w, RF E f σ w → IsRu E.bm E.bB (f 0) r v w → m σ ≠ .stuck →
    ∃ k bs cs, v = .func (.func k) bs cs ∧ (∀ args w, (callFunc k args).run Tryz.prog w = .ok (.enter k args) w) ∧ Calls Tryz.prog k (bs ++ #[tokV E t] ++ cs) w (Leaves E f σ.nodes.length w (m σ) uV)
def asM (rm : Ru → ATok → M Unit) (m : Nat) (t : ATok) : M Unit := match specs[m]? with
  | some sp => rm (ruleOf sp t) t
  | none => stuck
theorem RF.rules {E : Env} {f : Nat → Nat} {σ : Ab} {w : World} (h : RF E f σ w) {m : Nat} {sp : RSpec} (hm : specs[m]? = some sp) : ∃ v0 v1 v2 v3 v4 v5 v6 v7 v8 v9, IsRules E.bm E.bB (f 0) sp v0 v1 v2 v3 v4 v5 v6 v7 v8 v9 w ∧
    (∀ j, j < 10 → w.cell? ⟨E.bB, 4 + m * 10 + j, none⟩ = [v0, v1, v2, v3, v4, v5, v6, v7, v8, v9][j]?) := by
  obtain ⟨L, rfl, hr⟩ := h
  obtain ⟨cs, hcs, hlen, hru⟩ := hr.env.rules
  obtain ⟨v0, v1, v2, v3, v4, v5, v6, v7, v8, v9, e, hi⟩ := hru m sp hm
  have hm18 : m < 18 := (List.getElem?_eq_some_iff.1 hm).1
  refine ⟨v0, v1, v2, v3, v4, v5, v6, v7, v8, v9, ?_, ?_⟩
  · have hf := hr.fr
    have f1 := hf.n E.bm
    have mo : ∀ {R : Option (List (List ByteArray × Ru))} {v : Value}, IsMapO E.bm E.bB (L.at' 0) R v E.w0 → IsMapO E.bm E.bB (L.at' 0) R v w := by
      intro R v h
      cases R with
      | none => exact h
      | some R => obtain ⟨b, hb⟩ := h; exact ⟨b, hb.fr f1 (hf.calm (.inl hb.at))⟩
    exact ⟨hi.blank.fr f1, hi.char.fr f1, hi.comment.fr f1, hi.doctype.fr f1, hi.textEnd.fr f1, mo hi.start, mo hi.stop, hi.otherStart.fr f1, hi.otherEnd.fr f1, hi.others.fr f1⟩
  · intro j hj
    obtain ⟨C, hb, hC⟩ := hr.blk
    rw [cell_at hb, hC.low _ (by omega), show 4 + m * 10 + j = 4 + (m * 10 + j) by omega, hcs _ (by omega), ← e]
    rw [List.getElem?_take_of_lt hj, List.getElem?_drop, Nat.mul_comm]
set_option maxRecDepth 100000 in
set_option maxHeartbeats 2000000 in
theorem takeAs_p (E : Env) (rm : Ru → ATok → M Unit) (t : ATok) (hO : OfTok E t) (hR : ∀ r, RuleDoes E r t (rm r t)) (m : Nat) : Does E 171 (fun _ => #[Bp E, .int .i64 (m : Int), tokV E t]) (asM rm m t) uV := by
  intro f σ w h hs
  unfold asM at hs ⊢
  cases hm : specs[m]? with
  | none => rw [hm] at hs; exact absurd rfl hs
  | some sp =>
    rw [hm] at hs
    simp only [] at hs ⊢
    have hm18 : m < 18 := (List.getElem?_eq_some_iff.1 hm).1
    obtain ⟨v0, v1, v2, v3, v4, v5, v6, v7, v8, v9, hi, hc⟩ := h.rules hm
    have q0 : w.cell? ⟨E.bB, 4 + m * 10, none⟩ = some v0 := hc 0 (by decide)
    have q1 : w.cell? ⟨E.bB, 4 + m * 10 + 1, none⟩ = some v1 := hc 1 (by decide)
    have q2 : w.cell? ⟨E.bB, 4 + m * 10 + 2, none⟩ = some v2 := hc 2 (by decide)
    have q3 : w.cell? ⟨E.bB, 4 + m * 10 + 3, none⟩ = some v3 := hc 3 (by decide)
    have q4 : w.cell? ⟨E.bB, 4 + m * 10 + 4, none⟩ = some v4 := hc 4 (by decide)
    have q5 : w.cell? ⟨E.bB, 4 + m * 10 + 5, none⟩ = some v5 := hc 5 (by decide)
    have q6 : w.cell? ⟨E.bB, 4 + m * 10 + 6, none⟩ = some v6 := hc 6 (by decide)
    have q7 : w.cell? ⟨E.bB, 4 + m * 10 + 7, none⟩ = some v7 := hc 7 (by decide)
    have q8 : w.cell? ⟨E.bB, 4 + m * 10 + 8, none⟩ = some v8 := hc 8 (by decide)
    have q9 : w.cell? ⟨E.bB, 4 + m * 10 + 9, none⟩ = some v9 := hc 9 (by decide)
    have hlt := h.lt
    have C1 := hide (hO _ _ _ _ _ _ _ _ _ _ _ _ _ w hi)
    have C2 := hide (fun v w' (hk : Kept [] w w') (hv : IsRu E.bm E.bB (f 0) (ruleOf sp t) v w) => hR (ruleOf sp t) v f σ w' (h.kept0 hk) (hv.fr (.of_kept0 hk)) hs)
    clear hO hR h hs hc hi
    generalize hZ : rm (ruleOf sp t) t σ = Z at C2 ⊢
    clear hZ
    generalize tokV E t = tv at *
    go_enter Tryz.func171, Tryz.ntmps171
    go_wp2_with fail
    refine C1.out.mono ?_
    rintro e w1 ⟨v, rfl, hv, hk⟩
    obtain ⟨k, bs, cs, rfl, hcf, hcall⟩ := C2.out v w1 hk hv
    have HC := hide (hcall.mono (fun e W hl => hl.k0 hk))
    clear hcall C1 C2 hv hk
    go_wp2_with fail
    refine HC.out.mono ?_
    intro e W hl
    cases Z with
    | ok a σ' =>
      obtain ⟨g, h1, h2, rfl, h4, h5⟩ := hl
      have HL : Hid (Leaves E f σ.nodes.length w (.ok a σ') uV (.returned (uV g a)) W) := hide ⟨g, h1, h2, rfl, h4, h5⟩
      clear h1 h2 h4 h5
      go_wp2
      go_end0
      exact HL.out
    | stop c p =>
      obtain ⟨j, rfl, h2, h3⟩ := hl
      have H2 := hide h2
      have H3 := hide h3
      clear h2 h3
      go_wp2
      exact ⟨rfl, leaves_stop rfl H2.out H3.out⟩
    | stuck => exact hl.elim
end Go.Proofs.YtlhhgenpcjjajaaGreatDoor
namespace Go.Proofs.YtlhhgenpcjjajaaGreatDoor
open Go.RowKit
def takeF (OK : ATok → Bool) (rm : (Nat → ATok → M Unit) → Ru → ATok → M Unit) : Nat → Nat → ATok → M Unit
  | 0, _, _ => stuck
  | n + 1, m, t => if OK t then asM (rm (takeF OK rm n)) m t else stuck
theorem takeF_p (E : Env) (OK : ATok → Bool) (rm : (Nat → ATok → M Unit) → Ru → ATok → M Unit) (hO : ∀ t, TokOk E t → OK t = true → OfTok E t)
    (hrm : ∀ rec, (∀ (m : Nat) (t : ATok), TokOk E t → Does E 171 (fun _ => #[Bp E, .int .i64 (m : Int), tokV E t]) (rec m t) uV) → ∀ r t, TokOk E t → OK t = true → RuleDoes E r t (rm rec r t)) :
    ∀ n (m : Nat) (t : ATok), TokOk E t → Does E 171 (fun _ => #[Bp E, .int .i64 (m : Int), tokV E t]) (takeF OK rm n m t) uV
  | 0, _, _, _ => fun _ _ _ _ hs => absurd rfl hs
  | n + 1, m, t, ht => by
    unfold takeF
    by_cases ho : OK t = true
    · rw [if_pos ho]
      exact takeAs_p E _ t (hO t ht ho) (fun r => hrm _ (takeF_p E OK rm hO hrm n) r t ht ho) m
    · rw [if_neg ho]
      exact fun _ _ _ _ hs => absurd rfl hs
def TakeM (rec : Nat → ATok → M Unit) (t : ATok) : M Unit := match t.k with
  | .lost => Pure.pure ()
  | _ => fun σ => if σ.behind && eqS t.chars ⟨#[10]⟩ then .ok () { σ with behind := false, at' := t.a } else takeM rec t { σ with behind := false, at' := t.a }
theorem eqS_nl (s : ByteArray) : eqS s ⟨#[10]⟩ = (s.toList == [10]) := by
  unfold eqS
  rw [ByteArray.toList_eq ⟨#[10]⟩]
set_option maxRecDepth 100000 in
set_option maxHeartbeats 1000000 in
theorem bytes_ok (a b : Int) (w : World) : Calls Tryz.prog 436 #[.agg #[.int .i64 a, .int .i64 b]] w fun e w' => e = .returned (.tuple #[.int .i64 a, .int .i64 b]) ∧ Kept [] w w' := by
  go_enter Tryz.func436, Tryz.ntmps436
  go_wp2_with fail
  go_region
  all_goals (try go_wp2)
  all_goals (try go_ret2)
  all_goals exact ⟨rfl, ((Kept.refl [] w).alloc _).drew⟩
set_option maxRecDepth 100000 in
set_option maxHeartbeats 4000000 in
theorem Take_char (E : Env) (rec : Nat → ATok → M Unit) (hA : ∀ (m : Nat) (t : ATok), TokOk E t → Does E 171 (fun _ => #[Bp E, .int .i64 (m : Int), tokV E t]) (rec m t) uV) (a b : Nat) (s : ByteArray) (ats : List (ByteArray × ByteArray)) (ht : TokOk E ⟨a, b, .char s, ats⟩) : Does E 57 (fun _ => #[Bp E, tokV E ⟨a, b, .char s, ats⟩]) (TakeM rec ⟨a, b, .char s, ats⟩) uV := by
  have HT := hide (take_p E rec hA ⟨a, b, .char s, ats⟩ ht)
  have HCh := hide (fun w => charsOf_ok E ⟨a, b, .char s, ats⟩ w)
  intro f σ w h hs
  obtain ⟨R, hR⟩ : ∃ R, R = (TakeM rec ⟨a, b, .char s, ats⟩) σ := ⟨_, rfl⟩
  rw [← hR] at hs ⊢
  unfold TakeM at hR
  simp only [] at hR
  have HS := hide hs
  have H := hide (At.start h)
  have hmeth : ∀ w, (Go.method 500 188 (.agg #[.int .i64 (a : Int), .int .i64 (b : Int), .string s]) "Bytes").run Tryz.prog w = .ok (436, .agg #[.int .i64 (a : Int), .int .i64 (b : Int)]) w := fun w => by kernel_rfl
  have c1 := H.out.c198
  have hlt := h.lt
  have f1 := H.out.free 198
  have f2 := H.out.free 197
  have c2 := H.out.c197
  have cm := fun w => charsOf_ok E ⟨a, b, .char s, ats⟩ w
  simp only [tokV, ATok.chars] at cm HT ⊢
  have q_Lost := fun (v : Value) (xT : TypeId) (w : World) => ta_no (T := 188) (z := .agg #[.int .i64 0, .int .i64 0]) Tryz.underlying190 (by kernel_rfl) (by decide) v xT w
  have CM := hide cm
  clear h hs cm
  have K1 : Hid (∀ o, Kept [] w (w.alloc o)) := hide (fun o => (Kept.refl [] w).alloc o)
  have HB := hide (fun w => bytes_ok (a : Int) (b : Int) w)
  replace H := hide ((H.out.set_behind false).k0 ((Kept.refl [] _).alloc (.cells #[.int .i64 0, .int .i64 0] 190 (0, 0))))
  cases hb : σ.behind with
  | false =>
    have hR2 : R = (takeM rec ⟨a, b, .char s, ats⟩ >>= fun _ => (Pure.pure () : M Unit)) { σ with behind := false, at' := a } := by rw [hR, hb, M.bind_pure]; rfl
    have HR := hide hR2
    rw [hb] at c1
    clear hR hR2 hb K1
    go_enter Tryz.func57, Tryz.ntmps57
    go_wp2_with fail
    refine (HB.out _).mono ?_
    rintro e w1 ⟨rfl, hk1⟩
    replace H := hide (H.out.k0 hk1)
    clear hk1
    have c3 := H.out.c197
    have f3 := H.out.free 197
    have l3 := H.out.lt
    replace H := hide (H.out.set_at a)
    go_wp2_with fail
    refine Does.call (HT.out) H.out HR.out HS.out (rfl) ?_ ?_
    · intro c p j ws h1 h2 h3
      have H1 := hide h1
      have H2 := hide h2
      have H3 := hide h3
      clear h1 h2 h3
      go_wp2
      exact ⟨rfl, leaves_stop H1.out H2.out H3.out⟩
    rintro (_) f σ w h1 h0 h2 h3
    have HX := hide h0
    have HF := hide h2
    clear h0
    replace H := hide h1
    replace HR := hide h3
    clear h1 h2 h3
    try dsimp only at HR
    go_wp2
    go_end0
    exact leaves_ok HR.out H.out rfl
  | true =>
    rw [hb] at c1 hR
    simp only [Bool.true_and] at hR
    clear hb K1
    cases hn : eqS (ATok.chars ⟨a, b, .char s, ats⟩) ⟨#[10]⟩ with
    | false =>
      rw [hn] at hR
      have hR2 : R = (takeM rec ⟨a, b, .char s, ats⟩ >>= fun _ => (Pure.pure () : M Unit)) { σ with behind := false, at' := a } := by rw [hR, M.bind_pure]; rfl
      have HR := hide hR2
      have hn2 := (eqS_nl (ATok.chars ⟨a, b, .char s, ats⟩)).symm.trans hn
      simp only [ATok.chars] at hn2
      clear hR hR2 hn
      go_enter Tryz.func57, Tryz.ntmps57
      go_wp2_with fail
      refine (HB.out _).mono ?_
      rintro e w1 ⟨rfl, hk1⟩
      replace H := hide (H.out.k0 hk1)
      clear hk1
      have c3 := H.out.c197
      have f3 := H.out.free 197
      have l3 := H.out.lt
      replace H := hide (H.out.set_at a)
      go_wp2_with fail
      refine (CM.out _).mono ?_
      rintro e w2 ⟨rfl, hk2⟩
      replace H := hide (H.out.k0 hk2)
      clear hk2
      go_wp2_with fail
      refine Does.call (HT.out) H.out HR.out HS.out (rfl) ?_ ?_
      · intro c p j ws h1 h2 h3
        have H1 := hide h1
        have H2 := hide h2
        have H3 := hide h3
        clear h1 h2 h3
        go_wp2
        exact ⟨rfl, leaves_stop H1.out H2.out H3.out⟩
      rintro (_) f σ w h1 h0 h2 h3
      have HX := hide h0
      have HF := hide h2
      clear h0
      replace H := hide h1
      replace HR := hide h3
      clear h1 h2 h3
      try dsimp only at HR
      go_wp2
      go_end0
      exact leaves_ok HR.out H.out rfl
    | true =>
      rw [hn] at hR
      simp only [] at hR
      have HR := hide hR
      have hn2 := (eqS_nl (ATok.chars ⟨a, b, .char s, ats⟩)).symm.trans hn
      simp only [ATok.chars] at hn2
      clear hR hn
      go_enter Tryz.func57, Tryz.ntmps57
      go_wp2_with fail
      refine (HB.out _).mono ?_
      rintro e w1 ⟨rfl, hk1⟩
      replace H := hide (H.out.k0 hk1)
      clear hk1
      have c3 := H.out.c197
      have f3 := H.out.free 197
      have l3 := H.out.lt
      replace H := hide (H.out.set_at a)
      go_wp2_with fail
      refine (CM.out _).mono ?_
      rintro e w2 ⟨rfl, hk2⟩
      replace H := hide (H.out.k0 hk2)
      clear hk2
      go_wp2
      go_end0
      exact leaves_ok HR.out H.out rfl
set_option maxRecDepth 100000 in
set_option maxHeartbeats 4000000 in
theorem Take_textEnd (E : Env) (rec : Nat → ATok → M Unit) (hA : ∀ (m : Nat) (t : ATok), TokOk E t → Does E 171 (fun _ => #[Bp E, .int .i64 (m : Int), tokV E t]) (rec m t) uV) (a b : Nat)  (ats : List (ByteArray × ByteArray)) (ht : TokOk E ⟨a, b, .textEnd, ats⟩) : Does E 57 (fun _ => #[Bp E, tokV E ⟨a, b, .textEnd, ats⟩]) (TakeM rec ⟨a, b, .textEnd, ats⟩) uV := by
  have HT := hide (take_p E rec hA ⟨a, b, .textEnd, ats⟩ ht)
  have HCh := hide (fun w => charsOf_ok E ⟨a, b, .textEnd, ats⟩ w)
  intro f σ w h hs
  obtain ⟨R, hR⟩ : ∃ R, R = (TakeM rec ⟨a, b, .textEnd, ats⟩) σ := ⟨_, rfl⟩
  rw [← hR] at hs ⊢
  unfold TakeM at hR
  simp only [] at hR
  have HS := hide hs
  have H := hide (At.start h)
  have hmeth : ∀ w, (Go.method 500 186 (.agg #[.int .i64 (a : Int), .int .i64 (b : Int)]) "Bytes").run Tryz.prog w = .ok (436, .agg #[.int .i64 (a : Int), .int .i64 (b : Int)]) w := fun w => by kernel_rfl
  have c1 := H.out.c198
  have hlt := h.lt
  have f1 := H.out.free 198
  have f2 := H.out.free 197
  have c2 := H.out.c197
  have cm := fun w => charsOf_ok E ⟨a, b, .textEnd, ats⟩ w
  simp only [tokV, ATok.chars] at cm HT ⊢
  have q_Lost := fun (v : Value) (xT : TypeId) (w : World) => ta_no (T := 186) (z := .agg #[.int .i64 0, .int .i64 0]) Tryz.underlying190 (by kernel_rfl) (by decide) v xT w
  have CM := hide cm
  clear h hs cm
  have K1 : Hid (∀ o, Kept [] w (w.alloc o)) := hide (fun o => (Kept.refl [] w).alloc o)
  have HB := hide (fun w => bytes_ok (a : Int) (b : Int) w)
  replace H := hide ((H.out.set_behind false).k0 ((Kept.refl [] _).alloc (.cells #[.int .i64 0, .int .i64 0] 190 (0, 0))))
  cases hb : σ.behind with
  | false =>
    have hR2 : R = (takeM rec ⟨a, b, .textEnd, ats⟩ >>= fun _ => (Pure.pure () : M Unit)) { σ with behind := false, at' := a } := by rw [hR, hb, M.bind_pure]; rfl
    have HR := hide hR2
    rw [hb] at c1
    clear hR hR2 hb K1
    go_enter Tryz.func57, Tryz.ntmps57
    go_wp2_with fail
    refine (HB.out _).mono ?_
    rintro e w1 ⟨rfl, hk1⟩
    replace H := hide (H.out.k0 hk1)
    clear hk1
    have c3 := H.out.c197
    have f3 := H.out.free 197
    have l3 := H.out.lt
    replace H := hide (H.out.set_at a)
    go_wp2_with fail
    refine Does.call (HT.out) H.out HR.out HS.out (rfl) ?_ ?_
    · intro c p j ws h1 h2 h3
      have H1 := hide h1
      have H2 := hide h2
      have H3 := hide h3
      clear h1 h2 h3
      go_wp2
      exact ⟨rfl, leaves_stop H1.out H2.out H3.out⟩
    rintro (_) f σ w h1 h0 h2 h3
    have HX := hide h0
    have HF := hide h2
    clear h0
    replace H := hide h1
    replace HR := hide h3
    clear h1 h2 h3
    try dsimp only at HR
    go_wp2
    go_end0
    exact leaves_ok HR.out H.out rfl
  | true =>
    rw [hb] at c1 hR
    simp only [Bool.true_and] at hR
    clear hb K1
    cases hn : eqS (ATok.chars ⟨a, b, .textEnd, ats⟩) ⟨#[10]⟩ with
    | false =>
      rw [hn] at hR
      have hR2 : R = (takeM rec ⟨a, b, .textEnd, ats⟩ >>= fun _ => (Pure.pure () : M Unit)) { σ with behind := false, at' := a } := by rw [hR, M.bind_pure]; rfl
      have HR := hide hR2
      have hn2 := (eqS_nl (ATok.chars ⟨a, b, .textEnd, ats⟩)).symm.trans hn
      simp only [ATok.chars] at hn2
      clear hR hR2 hn
      go_enter Tryz.func57, Tryz.ntmps57
      go_wp2_with fail
      refine (HB.out _).mono ?_
      rintro e w1 ⟨rfl, hk1⟩
      replace H := hide (H.out.k0 hk1)
      clear hk1
      have c3 := H.out.c197
      have f3 := H.out.free 197
      have l3 := H.out.lt
      replace H := hide (H.out.set_at a)
      go_wp2_with fail
      refine (CM.out _).mono ?_
      rintro e w2 ⟨rfl, hk2⟩
      replace H := hide (H.out.k0 hk2)
      clear hk2
      go_wp2_with fail
      refine Does.call (HT.out) H.out HR.out HS.out (rfl) ?_ ?_
      · intro c p j ws h1 h2 h3
        have H1 := hide h1
        have H2 := hide h2
        have H3 := hide h3
        clear h1 h2 h3
        go_wp2
        exact ⟨rfl, leaves_stop H1.out H2.out H3.out⟩
      rintro (_) f σ w h1 h0 h2 h3
      have HX := hide h0
      have HF := hide h2
      clear h0
      replace H := hide h1
      replace HR := hide h3
      clear h1 h2 h3
      try dsimp only at HR
      go_wp2
      go_end0
      exact leaves_ok HR.out H.out rfl
    | true =>
      rw [hn] at hR
      simp only [] at hR
      have HR := hide hR
      have hn2 := (eqS_nl (ATok.chars ⟨a, b, .textEnd, ats⟩)).symm.trans hn
      simp only [ATok.chars] at hn2
      rw [ByteArray.toList_eq] at hn2
      exact absurd hn2 (by decide)
end Go.Proofs.YtlhhgenpcjjajaaGreatDoor
namespace Go.Proofs.YtlhhgenpcjjajaaGreatDoor
open Go.RowKit
theorem RF.lastO {E : Env} {f : Nat → Nat} {σ : Ab} {w : World} (h : RF E f σ w) : Calls Tryz.prog 179 #[.pointer (some ⟨E.bB, 188, none⟩)] w fun e w' => e = .returned (oV f σ.last) ∧ w' = w := by
  obtain ⟨L, rfl, hr⟩ := h; exact o_last hr
theorem RF.lenA {E : Env} {f : Nat → Nat} {σ : Ab} {w : World} (h : RF E f σ w) : Calls Tryz.prog 269 #[.pointer (some ⟨E.bB, 189, none⟩)] w fun e w' => e = .returned (.int .i64 σ.act.length) ∧ w' = w := by
  obtain ⟨L, rfl, hr⟩ := h; exact a_len hr
theorem RF.atA {E : Env} {f : Nat → Nat} {σ : Ab} {w : World} (h : RF E f σ w) (n : Int) : Calls Tryz.prog 248 #[.pointer (some ⟨E.bB, 189, none⟩), .int .i64 n] w fun e w' => e = .returned (oV f (getAt σ.act n)) ∧ w' = w := by
  obtain ⟨L, rfl, hr⟩ := h; exact a_at hr n
theorem RF.hasO {E : Env} {f : Nat → Nat} {σ : Ab} {w : World} (h : RF E f σ w) (x : Option Nat) (hx : σ.isEl x = true) : Calls Tryz.prog 322 #[.pointer (some ⟨E.bB, 188, none⟩), oV f x] w fun e w' => e = .returned (.bool (decide (x ∈ σ.opn))) ∧ w' = w := by
  obtain ⟨L, rfl, hr⟩ := h; exact o_has hr x hx
theorem RF.actEl {E : Env} {f : Nat → Nat} {σ : Ab} {w : World} (h : RF E f σ w) (n : Int) : σ.isEl (getAt σ.act n) = true := by
  obtain ⟨L, rfl, hr⟩ := h
  unfold getAt
  by_cases hn : 0 ≤ n ∧ n < σ.act.length
  · rw [if_pos hn]
    have hl : n.toNat < σ.act.length := by omega
    have e : σ.act.getD n.toNat none = σ.act[n.toNat] := by simp [List.getD, hl]
    rw [e]
    exact hr.wf.act _ (List.getElem_mem hl)
  · rw [if_neg hn]; rfl
set_option maxHeartbeats 2000000 in
theorem isMO_ok {E : Env} {f : Nat → Nat} {σ : Ab} {w : World} (h : RF E f σ w) (x : Option Nat) (hx : σ.isEl x = true) :
    Calls Tryz.prog 274 #[Bp E, oV f x] w fun e w' => e = .returned (.bool (σ.isMO x)) ∧ w' = w := by
  have C := hide (h.hasO x hx)
  unfold Ab.isMO
  cases x with
  | none =>
    go_enter Tryz.func274, Tryz.ntmps274
    go_wp2
    go_ret
    exact ⟨rfl, rfl⟩
  | some i =>
    have e0 : oV f (some i) = .pointer (some ⟨f i, 0, none⟩) := rfl
    rw [e0] at C ⊢
    go_enter Tryz.func274, Tryz.ntmps274
    go_wp2_with fail
    refine C.out.mono ?_
    rintro e w' ⟨rfl, rfl⟩
    go_wp2
    go_ret
    exact ⟨by simp, rfl⟩
theorem recL_snoc {σ : Ab} {xs : List (Option Nat)} {x : Option Nat} : σ.recL ((xs ++ [x]).reverse) = if σ.isMO x then xs.length + 1 else σ.recL xs.reverse := by
  rw [List.reverse_append]
  show (if σ.isMO x then xs.reverse.length + 1 else σ.recL xs.reverse) = _
  rw [List.length_reverse]
end Go.Proofs.YtlhhgenpcjjajaaGreatDoor
namespace Go.Proofs.YtlhhgenpcjjajaaGreatDoor
open Go.RowKit
theorem aRepl_e {E : Env} {f : Nat → Nat} {σ : Ab} {w : World} (h : RF E f σ w) (x y : Option Nat) (hs : aRepl x y σ ≠ .stuck) :
    Calls Tryz.prog 276 #[.pointer (some ⟨E.bB, 189, none⟩), oV f x, oV f y] w fun e w' => e = .returned (.tuple #[]) ∧ aRepl x y σ = .ok () { σ with act := repl σ.act x y } ∧ RF E f { σ with act := repl σ.act x y } w' ∧ Fr E.bs w w' := by
  have := aRepl_m E x y f σ w h hs
  unfold aRepl at this hs ⊢
  by_cases hx : (σ.isEl x && σ.isEl y) = true
  · rw [if_pos hx] at this ⊢
    exact this.mono (fun e w' h => ⟨h.1, rfl, h.2.1, h.2.2.1⟩)
  · rw [if_neg hx] at hs; exact absurd rfl hs
theorem repl_length (xs : List (Option Nat)) (x y : Option Nat) : (repl xs x y).length = xs.length := by
  unfold repl; split <;> simp
theorem insertM_act {j : Nat} {σ σ' : Ab} (h : insertM j σ = .ok () σ') : σ'.act = σ.act := by
  unfold insertM at h
  rw [M.bind_run] at h
  cases h1 : placeM σ with
  | stuck => rw [h1] at h; cases h
  | stop c p => rw [h1] at h; cases h
  | ok pl σ1 =>
    have e1 : σ1 = σ := by
      unfold placeM at h1
      cases hl : σ.last with
      | none => rw [hl] at h1; cases h1
      | some i =>
        rw [hl] at h1
        have h1 : placeFor i σ = .ok pl σ1 := h1
        unfold placeFor at h1
        split at h1
        · exact fosterPlace_same h1
        · exact endOf_same h1
    rw [e1] at h1
    rw [h1] at h
    simp only at h
    rw [M.bind_run] at h
    clear e1
    cases h2 : putEl pl j σ with
    | stuck => rw [h2] at h; cases h
    | stop c p => rw [h2] at h; cases h
    | ok u σ2 =>
      have e2 : σ2.act = σ.act := by
        unfold putEl at h2
        split at h2
        · split at h2
          · cases h2; rfl
          · cases h2
        · cases h2
      rw [h2] at h
      simp only at h
      rw [M.bind_run] at h
      cases h3 : pushM (some j) σ2 with
      | stuck => rw [h3] at h; cases h
      | stop c p => rw [h3] at h; cases h
      | ok u σ3 =>
        rw [h3] at h
        have e3 : σ3.act = σ2.act := by
          unfold pushM at h3
          split at h3
          · cases h3
          · split at h3
            · cases h3; rfl
            · cases h3
        have : σ3 = σ' := by
          have h' : (Res.ok () σ3 : Res Unit) = .ok () σ' := h
          cases h'; rfl
        rw [← this, e3, e2]
set_option maxHeartbeats 8000000 in
set_option maxRecDepth 100000 in
theorem reconstruct_p (E : Env) (hF : FosterOk E) : Does E 190 (fun _ => #[Bp E]) reconstruct uV := by
  intro f σ w h hs
  obtain ⟨R, hR⟩ : ∃ R, R = reconstruct σ := ⟨_, rfl⟩
  rw [← hR] at hs ⊢
  have HS := hide hs
  have H := hide (At.start h)
  have hR2 : R = recM (σ.act.length - σ.recN) σ.recN σ := hR
  have HR := hide hR2
  have C1 := hide h.lenA
  have hlt := h.lt
  have hcl : σ.act.length ≤ 4096 := by obtain ⟨L, _, hr⟩ := h; exact hr.cle
  have hrn : σ.recN ≤ σ.act.length := by
    have : ∀ xs : List (Option Nat), σ.recL xs ≤ xs.length := by
      intro xs
      induction xs with
      | nil => exact Nat.le_refl _
      | cons x xs ih =>
        show (if σ.isMO x then xs.length + 1 else σ.recL xs) ≤ xs.length + 1
        split <;> omega
    have := this σ.act.reverse
    rwa [List.length_reverse] at this
  have HH := hide h
  clear h hs hR hR2
  go_enter Tryz.func190, Tryz.ntmps190
  go_wp2_with fail
  refine C1.out.mono ?_
  rintro e w ⟨rfl, rfl⟩
  go_wp2_with fail
  rename_i K hK0
  have hK : ∀ (u8 u9 u10 u11 u12 u13 u14 u15 u16 u17 u18 u19 u20 u21 u22 : Value), K { tmps := #[Bp E, undef, .int .i64 (σ.recN : Int), undef, Bp E, .pointer (some ⟨E.bB, 0, none⟩), .pointer (some ⟨E.bB, 189, none⟩), .int .i64 (σ.act.length : Int), u8, u9, u10, u11, u12, u13, u14, u15, u16, u17, u18, u19, u20, u21, u22, undef, undef, undef, undef, undef, undef, undef, undef, undef, undef, undef, undef, undef, undef, undef, undef, undef, undef, undef, undef, undef, undef, undef, undef, undef, undef], defers := [] } w := by
    intro u8 u9 u10 u11 u12 u13 u14 u15 u16 u17 u18 u19 u20 u21 u22
    refine hK0 _ _ ?_
    have HRN := hide hrn
    clear hK0 C1
    go_wp2_with fail
    go_loopw [2, 3] (fun v v3 wr => ∃ (k n : Nat) (g : Nat → Nat) (σ1 : Ab), v = .int .i64 (n : Int) ∧ n + k = σ.act.length ∧ At E f σ.nodes.length w g σ1 wr ∧ R = recM k n σ1 ∧ σ1.act.length = σ.act.length) (fun v _ _ => σ.act.length - (intOf v).toNat)
    case atStart => exact ⟨σ.act.length - σ.recN, σ.recN, f, σ, rfl, by have := HRN.out; omega, H.out, HR.out, rfl⟩
    case round =>
      obtain ⟨k, n, g, σ1, rfl, hnk, hat, hR1, hl1⟩ := hrel
      have H := hide hat
      have HR := hide hR1
      have CL := hat.rel.lenA
      rw [hl1] at CL
      have HCL := hide CL
      have hlt := hat.lt
      have HL1 := hide hl1
      clear hat hR1 CL hl1
      cases k with
      | zero =>
        have e0 : (n : Int) = (σ.act.length : Int) := by omega
        have hcond : ((n : Int) < (σ.act.length : Int)) = False := by simp; omega
        go_wp2_with fail
        refine HCL.out.mono ?_
        rintro e w' ⟨rfl, rfl⟩
        go_wp2
        go_end0
        exact leaves_ok HR.out H.out rfl
      | succ k =>
        have hcond : (n : Int) < (σ.act.length : Int) := by omega
        have hold : ∃ old, getAt σ1.act (n : Int) = some old := by
          cases hg : getAt σ1.act (n : Int) with
          | some i => exact ⟨i, rfl⟩
          | none =>
            exfalso
            apply HS.out
            rw [HR.out]
            unfold recM
            rw [M.bind_run]
            unfold actAt
            rw [hg]
        obtain ⟨old, hold⟩ := hold
        have hie := H.out.rel.actEl (n : Int)
        have CA := H.out.rel.atA (n : Int)
        rw [hold] at CA hie
        have HCA := hide CA
        have HOL := hide (Ab.isEl_lt hie)
        replace HR : Hid (R = (anotherM old >>= fun j => (do
            insertM j
            aReplLast old
            recM k (n + 1) : M Unit)) σ1) := by
          refine hide (HR.out.trans ?_)
          show (actAt n >>= _) σ1 = _
          rw [M.bind_run]
          unfold actAt
          rw [hold]
        clear hold hie CA
        go_wp2_with fail
        refine HCL.out.mono ?_
        rintro e wr ⟨rfl, rfl⟩
        go_wp2_with fail
        refine HCA.out.mono ?_
        rintro e wr ⟨rfl, rfl⟩
        rw [show oV g (some old) = .pointer (some ⟨g old, 0, none⟩) from rfl]
        clear HCA HCL
        go_wp2_with fail
        refine Does.callE (another_d E old) H.out HR.out HS.out rfl ?_ ?_
        · intro c p j ws h1 h2 h3
          have H1 := hide h1
          have H2 := hide h2
          have H3 := hide h3
          clear h1 h2 h3
          go_wp2
          exact ⟨rfl, leaves_stop H1.out H2.out H3.out⟩
        rintro j g2 σ2 w2 h1 h0 h2 h3 h4
        have HX := hide h0
        have HJ : Hid (σ2.act = σ1.act) := by
          unfold anotherM at h4
          split at h4
          · split at h4
            · cases h4
            · cases h4; exact hide rfl
          · cases h4
        clear h4
        replace H := hide h1
        replace HR := hide h3
        clear h1 h0 h2 h3
        go_wp2_with fail
        refine Moves.callE (insert_p E hF j) H.out HR.out HS.out rfl ?_ ?_
        · intro c p j ws h1 h2 h3
          have H1 := hide h1
          have H2 := hide h2
          have H3 := hide h3
          clear h1 h2 h3
          go_wp2
          exact ⟨rfl, leaves_stop H1.out H2.out H3.out⟩
        rintro ⟨⟩ σ3 w3 h1 h2 h3 h4
        have HJ3 : Hid (σ3.act = σ1.act) := hide ((insertM_act h4).trans HJ.out)
        clear h4
        replace H := hide h1
        replace HR := hide h3
        have hlt3 := h1.lt
        clear h1 h2 h3
        have hs3 : aRepl (some old) σ3.last σ3 ≠ .stuck := by
          intro hst
          apply HS.out
          rw [HR.out, M.bind_run]
          unfold aReplLast
          rw [hst]
        have CL := hide (H.out.k0 ((Kept.refl _ w3).drew)).rel.lastO
        have CR := aRepl_e (H.out.k0 ((Kept.refl _ w3).drew)).rel (some old) σ3.last hs3
        rw [show oV g2 (some old) = .pointer (some ⟨g old, 0, none⟩) from by show Value.pointer (some ⟨g2 old, 0, none⟩) = _; rw [HX.out old HOL.out]] at CR
        have HCR := hide CR
        clear hs3 CR
        go_wp2_with fail
        go_region_with (first
          | (go_at_call 179; refine CL.out.mono ?_; rintro e w4 ⟨rfl, rfl⟩)
          | (go_at_call 276; refine HCR.out.mono ?_; rintro e w5 ⟨rfl, q1, q2, q3⟩; have HZ := hide ((H.out.k0 ((Kept.refl _ w3).drew)).to q2 (len_le _ _ rfl) q3); have HQ := hide q1; clear q1 q2 q3))
        all_goals (try (go_wp2_with fail))
        all_goals refine ⟨⟨k, n + 1, g2, _, by simp, by omega, HZ.out, ?_, ?_⟩, by simp [intOf]; omega⟩
        · rw [HR.out, M.bind_run]
          unfold aReplLast
          rw [HQ.out]
        · show (repl σ3.act (some old) σ3.last).length = σ.act.length
          rw [repl_length, HJ3.out]
          exact HL1.out
  have HKK := hide hK
  clear hK hK0 H HR C1
  go_loopw [2] (fun v wr => ∃ k : Nat, k ≤ σ.act.length ∧ v = .int .i64 (k : Int) ∧ σ.recL (σ.act.take k).reverse = σ.recN ∧ wr = w) (fun v _ => (intOf v).toNat)
  case atStart => exact ⟨σ.act.length, Nat.le_refl _, rfl, by rw [List.take_length]; rfl, rfl⟩
  case round =>
    obtain ⟨k, hk, rfl, hrec, rfl⟩ := hrel
    cases k with
    | zero =>
      have hz : σ.recN = 0 := by rw [← hrec]; rfl
      have HZ := hide hz
      clear hz hrec
      go_wp2
      have := HKK.out
      rw [HZ.out] at this
      exact this _ _ _ _ _ _ _ _ _ _ _ _ _ _ _
    | succ k =>
      have hkl : k < σ.act.length := by omega
      have e1 : σ.act.take (k + 1) = σ.act.take k ++ [σ.act[k]] := by rw [List.take_add_one, List.getElem?_eq_getElem hkl]; rfl
      rw [e1, recL_snoc] at hrec
      have hg : getAt σ.act ((k : Int)) = σ.act[k] := by
        unfold getAt
        rw [if_pos (by omega)]
        simp [List.getD, hkl]
      have CA := HH.out.atA (k : Int)
      have hie := HH.out.actEl (k : Int)
      rw [hg] at CA hie
      have HCA := hide CA
      have CM := isMO_ok HH.out _ hie
      have e2 : ((k + 1 : Nat) : Int) - 1 = (k : Int) := by omega
      have hpos : (0 : Int) < ((k + 1 : Nat) : Int) := by omega
      have htl : (σ.act.take k).length = k := by simp; omega
      rw [htl] at hrec
      clear e1 hg hie CA htl
      generalize hM : σ.isMO σ.act[k] = b at CM hrec
      have HREC := hide hrec
      have HCM := hide CM
      clear hM hrec CM
      generalize oV f σ.act[k] = vv at HCA HCM
      cases b with
      | true =>
        go_wp2_with fail
        refine HCA.out.mono ?_
        rintro e w ⟨rfl, rfl⟩
        go_wp2_with fail
        refine HCM.out.mono ?_
        rintro e w ⟨rfl, rfl⟩
        go_wp2_with fail
        have := HKK.out
        have hrr : k + 1 = σ.recN := by simpa using HREC.out
        rw [← hrr] at this
        exact this _ _ _ _ _ _ _ _ _ _ _ _ _ _ _
      | false =>
        go_wp2_with fail
        refine HCA.out.mono ?_
        rintro e w ⟨rfl, rfl⟩
        go_wp2_with fail
        refine HCM.out.mono ?_
        rintro e w ⟨rfl, rfl⟩
        go_wp2_with fail
        exact ⟨⟨k, by omega, rfl, by simpa using HREC.out, trivial⟩, by simp [intOf]⟩
end Go.Proofs.YtlhhgenpcjjajaaGreatDoor
namespace Go.Proofs.YtlhhgenpcjjajaaGreatDoor
open Go.RowKit
end Go.Proofs.YtlhhgenpcjjajaaGreatDoor
namespace Go.Proofs.YtlhhgenpcjjajaaGreatDoor
open Go.RowKit
set_option maxHeartbeats 2000000 in
theorem startOther_p (E : Env) (hF : FosterOk E) (t : ATok) (ht : TokOk E t) : Does E 122 (fun _ => #[Bp E, tokV E t]) (startOther t) uV := by
  intro f σ w h hs
  obtain ⟨R, hR⟩ : ∃ R, R = (startOther t) σ := ⟨_, rfl⟩
  rw [← hR] at hs ⊢
  unfold startOther at hR
  have HS := hide hs
  have H := hide (At.start h)
  have HR := hide hR
  clear h hs hR
  go_enter Tryz.func122, Tryz.ntmps122
  go_wp2_with fail
  refine Does.call (reconstruct_p E hF) H.out HR.out HS.out (rfl) ?_ ?_
  · intro c p j ws h1 h2 h3
    have H1 := hide h1
    have H2 := hide h2
    have H3 := hide h3
    clear h1 h2 h3
    go_wp2
    exact ⟨rfl, leaves_stop H1.out H2.out H3.out⟩
  rintro (_) f σ w h1 h0 h2 h3
  have HX := hide h0
  have HF := hide h2
  clear h0
  replace H := hide h1
  replace HR := hide h3
  clear h1 h2 h3
  try dsimp only at HR
  go_wp2_with fail
  refine Does.call (insertTag_p E hF t ht) H.out HR.out HS.out (rfl) ?_ ?_
  · intro c p j ws h1 h2 h3
    have H1 := hide h1
    have H2 := hide h2
    have H3 := hide h3
    clear h1 h2 h3
    go_wp2
    exact ⟨rfl, leaves_stop H1.out H2.out H3.out⟩
  rintro (_) f σ w h1 h0 h2 h3
  have HX := hide h0
  have HF := hide h2
  clear h0
  replace H := hide h1
  replace HR := hide h3
  clear h1 h2 h3
  try dsimp only at HR
  go_wp2
  go_end0
  exact leaves_ok HR.out H.out rfl
set_option maxHeartbeats 2000000 in
theorem charInBody_p (E : Env) (hF : FosterOk E) (t : ATok) : Does E 120 (fun _ => #[Bp E, tokV E t]) (charInBody t) uV := by
  intro f σ w h hs
  obtain ⟨R, hR⟩ : ∃ R, R = (charInBody t) σ := ⟨_, rfl⟩
  rw [← hR] at hs ⊢
  unfold charInBody at hR
  have HS := hide hs
  have H := hide (At.start h)
  have HR := hide hR
  clear h hs hR
  go_enter Tryz.func120, Tryz.ntmps120
  have C := hide (isNul_ok E t w)
  cases hn : isNulS t.chars with
  | true =>
    rw [hn] at C HR
    replace HR : Hid (R = .ok () σ) := HR
    clear hn
    go_wp2_with fail
    refine C.out.mono ?_
    rintro e w ⟨rfl, hk⟩
    replace H := hide (H.out.k0 hk)
    clear hk
    go_wp2
    go_end0
    exact leaves_ok HR.out H.out rfl
  | false =>
    rw [hn] at C HR
    replace HR : Hid (R = (reconstruct >>= fun _ => (do insertChar t; return () : M Unit)) σ) := HR
    clear hn
    go_wp2_with fail
    refine C.out.mono ?_
    rintro e w ⟨rfl, hk⟩
    replace H := hide (H.out.k0 hk)
    clear hk
    go_wp2_with fail
    refine Does.call (reconstruct_p E hF) H.out HR.out HS.out (rfl) ?_ ?_
    · intro c p j ws h1 h2 h3
      have H1 := hide h1
      have H2 := hide h2
      have H3 := hide h3
      clear h1 h2 h3
      go_wp2
      exact ⟨rfl, leaves_stop H1.out H2.out H3.out⟩
    rintro (_) f σ w h1 h0 h2 h3
    have HX := hide h0
    have HF := hide h2
    clear h0
    replace H := hide h1
    replace HR := hide h3
    clear h1 h2 h3
    try dsimp only at HR
    go_wp2_with fail
    refine Does.call (insertChar_p E hF t) H.out HR.out HS.out (rfl) ?_ ?_
    · intro c p j ws h1 h2 h3
      have H1 := hide h1
      have H2 := hide h2
      have H3 := hide h3
      clear h1 h2 h3
      go_wp2
      exact ⟨rfl, leaves_stop H1.out H2.out H3.out⟩
    rintro (_) f σ w h1 h0 h2 h3
    have HX := hide h0
    have HF := hide h2
    clear h0
    replace H := hide h1
    replace HR := hide h3
    clear h1 h2 h3
    try dsimp only at HR
    go_wp2
    go_end0
    exact leaves_ok HR.out H.out rfl
end Go.Proofs.YtlhhgenpcjjajaaGreatDoor
namespace Go.Proofs.YtlhhgenpcjjajaaGreatDoor
open Go.RowKit
section
variable {n : Nat} {P : Program} {ops : Array Oper} {Q : Exit → Act → World → Prop} {md : Region.Mode}
end
end Go.Proofs.YtlhhgenpcjjajaaGreatDoor
namespace Go.Proofs.YtlhhgenpcjjajaaGreatDoor
open Go.RowKit
attribute [local go_sem] Oper.semAt_some
theorem wide_fn (f : FuncId) : Fence.wide.fn f = True := rfl
attribute [local go_sem] wide_fn
attribute [local simp] wide_fn
end Go.Proofs.YtlhhgenpcjjajaaGreatDoor
namespace Go.Proofs.YtlhhgenpcjjajaaGreatDoor
open Go.RowKit
attribute [local go_sem] Oper.semAt_some
def upPost2 (T Tx : List Nat) (I : List (Option Nat) → World → Prop) (Ix : Code → List (Option Nat) → World → Prop) (zs : List (Option Nat)) (W : World) : Exit → Act → World → Prop
  | .normal, _, W' => Kept T W W' ∧ I zs W'
  | .ret, _, W' => Kept Tx W W' ∧ Ix .ret zs W'
  | .exit id, _, W' => Kept Tx W W' ∧ Ix (.exit id) zs W'
  | .goto t, _, W' => Kept Tx W W' ∧ Ix (.goto t) zs W'
  | .panic _, _, _ => False
  | .outgrown, _, _ => False
theorem wpIn_up2 {n : Nat} (hn : 3 ≤ n) {base b j : Nat} {tB : TypeId} {C : Array Value} {v : Value} {f : Option Nat → Option Nat} (hf : ∀ x y, f x = f y → x = y) {ys : List (Option Nat)} {w1 : World} (hL : Lst base b j tB C v (ys.map f) w1)
    {g : Operand} {p : Tmp} {assign body : Code} {Q : Exit → Act → World → Prop} {a : Act} (hg : a.eval g = upVal w1.heap.size)
    (T Tx : List Nat) (hT : ∀ k ∈ T, k < w1.heap.size ∧ k ≠ b ∧ v.ownBlock ≠ some k) (hTx : ∀ k ∈ Tx, k < w1.heap.size)
    (I : List (Option Nat) → World → Prop) (Ix : Code → List (Option Nat) → World → Prop)
    (hI : OwnFrom (w1.heap.size + 2) I) (hIx : ∀ c, OwnFrom (w1.heap.size + 2) (Ix c)) (h0 : I [] (upWorld b j ys.length w1)) (a₁ : Option Nat → Act)
    (hassign : ∀ (l : Nat) (x : Option Nat) (W : World) (K : Act → World → Prop), K (a₁ x) W →
      assign.wpIn (Fence.wide.inRound l) (n - 1 - 1) Tryz.prog (Exit.then K (fun _ _ _ => False)) { tmps := a.tmps.setIfInBounds p (enc x), defers := [] } W)
    (hbody : ∀ (l : Nat) (pre : List (Option Nat)) (y : Option Nat) (W : World), y ∈ ys → I pre W → body.wpIn (Fence.wide.inRound l) (n - 1 - 1) Tryz.prog (upPost2 T Tx I Ix (pre ++ [y]) W) (a₁ (f y)) W)
    (hdone : ∀ (D : Nat) (W : World), w1.heap.size + 2 ≤ D → I ys.reverse W → W.heap[D]? = some (.deferred (some [])) → Q .normal { a with defers := { target := .collected D, args := #[] } :: a.defers } W)
    (hstop : ∀ (D : Nat) (c : Code) (pre : List (Option Nat)) (W : World), w1.heap.size + 2 ≤ D → pre <+: ys.reverse → Ix c pre W → W.heap[D]? = some (.deferred (some [])) → c.wpIn Fence.wide n Tryz.prog Q { a with defers := { target := .collected D, args := #[] } :: a.defers } W) :
    (Code.rangeFunc g #[p] assign body).wpIn Fence.wide n Tryz.prog Q a (upWorld b j ys.length w1) := by
  have hsz : (upWorld b j ys.length w1).heap.size = w1.heap.size + 2 := by simp
  have hbl := lt_of_block hL.blk
  have hk0 : Kept [] w1 (upWorld b j ys.length w1) := ((Kept.refl _ _).alloc _).alloc _
  have hL2 : Lst base b j tB C v (ys.map f) (upWorld b j ys.length w1) := hL.keepsB (KeepsB.of_kept (K := b :: v.ownBlock.toList) hk0 (fun k hk => ⟨by
    rcases List.mem_cons.1 hk with rfl | hk
    · exact hbl
    · exact (hL.row.lt k (by simpa using hk)).2, by simp⟩)) (by simp) (fun k hk => by simp [hk])
  obtain ⟨b0, b1⟩ := (⟨(Below.heap_alloc _ _ _ (by simp)).trans (heap_alloc_at w1 _), by
      have := heap_alloc_at (w1.alloc (.cells #[.pointer (some ⟨b, j, none⟩)] 280 (0, 0))) (.cells #[.int .i64 (ys.length : Int)] 3 (0, 0))
      rwa [World.size_alloc] at this⟩ : (upWorld b j ys.length w1).heap[w1.heap.size]? = some (.cells #[.pointer (some ⟨b, j, none⟩)] 280 (0, 0)) ∧ (upWorld b j ys.length w1).heap[w1.heap.size + 1]? = some (.cells #[.int .i64 (ys.length : Int)] 3 (0, 0)))
  obtain ⟨K, hK⟩ : ∃ K, K = b :: w1.heap.size :: v.ownBlock.toList := ⟨_, rfl⟩
  have hKlt : ∀ k ∈ K, k < w1.heap.size + 2 := by
    intro k hk
    rw [hK] at hk
    rcases List.mem_cons.1 hk with rfl | hk
    · omega
    · rcases List.mem_cons.1 hk with rfl | hk
      · omega
      · have := (hL.row.lt k (by simpa using hk)).2; omega
  have hKT : ∀ k ∈ K, k ∉ T := by
    intro k hk hkT
    obtain ⟨t1, t2, t3⟩ := hT k hkT
    rw [hK] at hk
    rcases List.mem_cons.1 hk with rfl | hk
    · exact t2 rfl
    · rcases List.mem_cons.1 hk with rfl | hk
      · omega
      · exact t3 (by simpa using hk)
  have hup := up_stops (n - 1) (by omega) base b j tB C v (ys.map f) ys.length w1.heap.size K _ hL2 (by simp) (by rw [hK]; simp) (by rw [hK]; simp) (by intro k hk; rw [hK]; simp [hk]) (by rw [hsz]; omega) b1 b0
  have mono : ∀ {α : Type} {W W' : World} {row : Option Nat} {B : Nat}, B ≤ W.heap.size → W.grownBy W' row → B ≤ W'.heap.size := fun h1 h2 => Nat.le_trans h1 h2.size
  refine wpIn_rangeFunc_ownG rfl (by omega) (gf := 357) hg trivial (Go.Proofs.enters_of Tryz.func357 (by kernel_rfl) rfl) hup KeepsB.trans (fun W l o o' hl h1 h2 h3 => KeepsB.put (w := upWorld b j ys.length w1) (by rw [hsz]; exact hKlt) W l o o' hl h1 h2 h3) (Below.refl _ _) (fun _ => rfl)
    (fun pre W => w1.heap.size + 2 ≤ W.heap.size ∧ ∃ zs, pre.map (·.1) = zs.map f ∧ I zs W) (fun c pre W => ∃ zs, pre.map (·.1) = zs.map f ∧ Ix c zs W) ?_ ?_ ?_ (fun x => a₁ x.1) ?_ ?_ ?_ ?_
  · rintro s A B row ⟨hs, zs, h1, h2⟩ hgr hr
    rw [hsz] at hr
    exact ⟨Nat.le_trans hs hgr.size, zs, h1, hI zs A B row h2 hgr hr⟩
  · rintro c s A B row ⟨zs, h1, h2⟩ hgr hr
    rw [hsz] at hr
    exact ⟨zs, h1, hIx c zs A B row h2 hgr hr⟩
  · exact ⟨by rw [hsz]; exact Nat.le_refl _, [], rfl, h0⟩
  · intro l x W K' hK'
    have := hassign l x.1 W K' hK'
    have e : (#[p].zip #[enc x.1]).foldl (fun t (p, v) => t.setIfInBounds p v) a.tmps = a.tmps.setIfInBounds p (enc x.1) := by simp
    rw [e]; exact this
  · rintro l pre ⟨x, hx⟩ W ⟨hs, zs, h1, h2⟩ _
    obtain ⟨y, hy, rfl⟩ := List.mem_map.1 hx
    refine wpIn_mono (hbody l zs y W hy h2) ?_
    have keep : ∀ {W' : World}, Kept T W W' → KeepsFrom (upWorld b j ys.length w1).heap.size W W' := by
      intro W' hk
      refine ⟨hk.size, fun k o hBk ho _ => ?_⟩
      rw [hsz] at hBk
      rw [hk.block k (Array.getElem?_eq_some_iff.1 ho).1 (fun hkT => by have := (hT k hkT).1; omega)]
      exact ho
    have keepx : ∀ {W' : World}, Kept Tx W W' → KeepsFrom (upWorld b j ys.length w1).heap.size W W' := by
      intro W' hk
      refine ⟨hk.size, fun k o hBk ho _ => ?_⟩
      rw [hsz] at hBk
      rw [hk.block k (Array.getElem?_eq_some_iff.1 ho).1 (fun hkT => by have := hTx k hkT; omega)]
      exact ho
    have hmap : (pre ++ [(⟨f y, hx⟩ : { x : Option Nat // x ∈ ys.map f })]).map (·.1) = (zs ++ [y]).map f := by rw [List.map_append, h1]; simp
    intro e a' W' hp
    cases e with
    | normal => exact ⟨keep hp.1, KeepsB.of_kept hp.1 (fun k hk => ⟨Nat.lt_of_lt_of_le (hKlt k hk) hs, hKT k hk⟩), Nat.le_trans hs hp.1.size, _, hmap, hp.2⟩
    | ret => exact ⟨keepx hp.1, _, hmap, hp.2⟩
    | exit id => exact ⟨keepx hp.1, _, hmap, hp.2⟩
    | goto t => exact ⟨keepx hp.1, _, hmap, hp.2⟩
    | panic _ => exact hp
    | outgrown => exact hp
  · rintro D xs W hD hS ⟨_, zs, h1, h2⟩ hK'
    rw [hsz] at hD
    have hS' : xs.map (·.1) = ((ys.map f).take ys.length).reverse := hS
    rw [h1, List.take_of_length_le (by simp), ← List.map_reverse] at hS'
    rw [map_inj_list hf hS'] at h2
    exact hdone D W hD h2 hK'
  · rintro D c pre W hD hS ⟨zs, h1, h2⟩ hK'
    rw [hsz] at hD
    have hS' : pre.map (·.1) <+: ((ys.map f).take ys.length).reverse := hS
    rw [h1, List.take_of_length_le (by simp), ← List.map_reverse] at hS'
    exact hstop D c zs W hD (prefix_map hf hS') h2 hK'
end Go.Proofs.YtlhhgenpcjjajaaGreatDoor
namespace Go.Proofs.YtlhhgenpcjjajaaGreatDoor
open Go.RowKit
end Go.Proofs.YtlhhgenpcjjajaaGreatDoor
namespace Go.Proofs.YtlhhgenpcjjajaaGreatDoor
open Go.RowKit
attribute [local go_sem] Oper.semAt_some
end Go.Proofs.YtlhhgenpcjjajaaGreatDoor
namespace Go.Proofs.YtlhhgenpcjjajaaGreatDoor
open Go.RowKit
attribute [local go_sem] Oper.semAt_some
attribute [local go_sem] wide_fn
attribute [local simp] wide_fn
def Ab.blk (σ : Ab) (pre : List (Option Nat)) (b : Option Nat) : Option Nat := pre.foldl (fun b y => if pSpecial (σ.nmO y) then y else b) b
end Go.Proofs.YtlhhgenpcjjajaaGreatDoor
