import Derived.Test.YtlhhgenpcjjajaaGreatDoorRlA
import Derived.Test.YtlhhgenpcjjajaaGreatDoorCfA
import Derived.Test.YtlhhgenpcjjajaaGreatDoorDoA
import Derived.Test.YtlhhgenpcjjajaaGreatDoorOfC
import Derived.Test.YtlhhgenpcjjajaaGreatDoorBdR
import Derived.Test.YtlhhgenpcjjajaaGreatDoorRd
set_option linter.unusedSimpArgs false
set_option linter.unusedVariables false
namespace Go.Proofs.YtlhhgenpcjjajaaGreatDoor
open Go.RowKit
set_option maxRecDepth 100000 in
set_option maxHeartbeats 1000000 in
theorem kind_char (E : Env) (a b : Nat) (s : ByteArray) (w : World) : Calls Tryz.prog 58 #[tokV E ⟨a, b, .char s, []⟩] w fun e w' => e = .returned (.int .i64 1) ∧ w' = w := by
  simp only [tokV]
  have q_Char := fun (v : Value) (xT : TypeId) (w : World) => ta_yes Tryz.underlying188 v xT w
  go_enter Tryz.func58, Tryz.ntmps58
  go_wp2
  go_ret
  exact ⟨rfl, rfl⟩
set_option maxRecDepth 100000 in
set_option maxHeartbeats 1000000 in
theorem kind_end (E : Env) (a b : Nat) (w : World) : Calls Tryz.prog 58 #[tokV E ⟨a, b, .textEnd, []⟩] w fun e w' => e = .returned (.int .i64 0) ∧ w' = w := by
  simp only [tokV]
  have q_Char := fun (v : Value) (xT : TypeId) (w : World) => ta_no (T := 186) (z := .agg #[.int .i64 0, .int .i64 0, .string ⟨#[]⟩]) Tryz.underlying188 (by kernel_rfl) (by decide) v xT w
  have q_Comment := fun (v : Value) (xT : TypeId) (w : World) => ta_no (T := 186) (z := .agg #[.int .i64 0, .int .i64 0, .string ⟨#[]⟩]) Tryz.underlying198 (by kernel_rfl) (by decide) v xT w
  have q_Doctype := fun (v : Value) (xT : TypeId) (w : World) => ta_no (T := 186) (z := .agg #[.int .i64 0, .int .i64 0, .string ⟨#[]⟩, .bool false]) Tryz.underlying200 (by kernel_rfl) (by decide) v xT w
  have q_StartTag := fun (v : Value) (xT : TypeId) (w : World) => ta_no (T := 186) (z := .agg #[.int .i64 0, .int .i64 0, .string ⟨#[]⟩, .slice none 0 0]) Tryz.underlying196 (by kernel_rfl) (by decide) v xT w
  have q_EndTag := fun (v : Value) (xT : TypeId) (w : World) => ta_no (T := 186) (z := .agg #[.int .i64 0, .int .i64 0, .string ⟨#[]⟩, .slice none 0 0]) Tryz.underlying197 (by kernel_rfl) (by decide) v xT w
  have q_Lost := fun (v : Value) (xT : TypeId) (w : World) => ta_no (T := 186) (z := .agg #[.int .i64 0, .int .i64 0]) Tryz.underlying190 (by kernel_rfl) (by decide) v xT w
  go_enter Tryz.func58, Tryz.ntmps58
  go_wp2
  go_ret
  exact ⟨rfl, rfl⟩
set_option maxHeartbeats 1000000 in
theorem document_ok (E : Env) (f : Nat → Nat) (σ : Ab) (w : World) (h : RF E f σ w) : Calls Tryz.prog 59 #[Bp E] w fun e w' => e = .returned (nV f 0) ∧ w' = w := by
  have c := (At.start h).c187
  have hlt := h.lt
  clear h
  go_enter Tryz.func59, Tryz.ntmps59
  go_wp2
  go_ret
  exact ⟨rfl, rfl⟩
theorem RF.rdR {bs bm bB r : Nat} {C : Array Value} {R : RC} {bg ps : Nat} {w0 : World} {f : Nat → Nat} {σ : Ab} {w : World} (h : RF (envOf bs bm bB r C R bg ps w0) f σ w) (ho : R.ofT = σ.ofT) (hp : R.plT = σ.plainT) : Rd w r R bg ps := by
  obtain ⟨L, _, hr⟩ := h
  have := hr.rd
  have e : w.heap[r]? = some (.cells (((rcells R bg ps).setIfInBounds 7 (.string σ.ofT)).setIfInBounds 8 (.bool σ.plainT)) 165 (0, 0)) := this
  rw [rcells_same R bg ps _ _ ho.symm hp.symm] at e
  exact e
structure RgP (w : World) (bm bB bD r : Nat) (C : Array Value) (R : RC) (g cap : Nat) (cut : Nat → Nat) (d f l base : Nat) (bg ps : Nat) (v : Value) (L : List Sp) (wr : World) : Prop where
  rel : ∃ fl a w0, fl 0 = bD ∧ RF (envOf w.heap.size bm bB r C R bg ps w0) fl (stI d f l R.cs ps a) wr
  ats : Ats wr r R g cap cut
  aty : ∃ cA, wr.heap[g]? = some (.cells cA 3 (0, 0))
  tb : wr.heap[w.heap.size + 1]? = some (.cells #[v, .pointer none] 74 (0, 0))
  sb : wr.heap[w.heap.size + 2]? = some (.cells #[.pointer none] 78 (0, 0))
  own : wr.ownsRow base 53 3 v L.length (scells L)
  kept : Kept [] w wr
  le : ps ≤ R.cs.size
  len : L.length ≤ ps
  big : w.heap.size ≤ base ∧ base ≤ wr.heap.size
  rge : w.heap.size ≤ r
theorem RgP.rd {w : World} {bm bB bD r : Nat} {C : Array Value} {R : RC} {g cap : Nat} {cut : Nat → Nat} {d f l base bg ps : Nat} {v : Value} {L : List Sp} {wr : World} (h : RgP w bm bB bD r C R g cap cut d f l base bg ps v L wr) (ho : R.ofT = ⟨#[]⟩) (hp : R.plT = false) : Rd wr r R bg ps := by
  obtain ⟨fl, a, w0, _, hr⟩ := h.rel
  exact hr.rdR (by rw [ho, (stI_of _ _ _ _ _ _).1]) (by rw [hp, (stI_of _ _ _ _ _ _).2])
theorem RgP.next {w : World} {bm bB bD r : Nat} {C : Array Value} {R : RC} {g cap : Nat} {cut : Nat → Nat} {d f l base bg ps : Nat} {v : Value} {L : List Sp} {wr w2 : World} (h : RgP w bm bB bD r C R g cap cut d f l base bg ps v L wr) (ho : R.ofT = ⟨#[]⟩) (hp : R.plT = false) (hk : Kept [r] wr w2) {bg' ps' : Nat} (hr : Rd w2 r R bg' ps') :
    (∃ fl a, fl 0 = bD ∧ RF (envOf w.heap.size bm bB r C R bg' ps' w2) fl (stI d f l R.cs ps a) w2) ∧ Ats w2 r R g cap cut ∧ (∃ cA, w2.heap[g]? = some (.cells cA 3 (0, 0))) ∧ w2.heap[w.heap.size + 1]? = some (.cells #[v, .pointer none] 74 (0, 0)) ∧ w2.heap[w.heap.size + 2]? = some (.cells #[.pointer none] 78 (0, 0)) ∧ w2.ownsRow base 53 3 v L.length (scells L) ∧ Kept [] w w2 := by
  have hrd := h.rd ho hp
  obtain ⟨fl, a, w0, h0, hrf⟩ := h.rel
  have ne : ∀ {k : Nat} {c : Array Value} {t : TypeId}, wr.heap[k]? = some (.cells c t (0, 0)) → t ≠ 165 → k ∉ [r] := by
    intro k c t hk' ht hm
    have e := List.mem_singleton.1 hm
    subst e
    unfold Rd at hrd
    rw [hrd] at hk'
    simp at hk'
    exact ht hk'.2.symm
  refine ⟨⟨fl, a, h0, hrf.turn [165] (.of_kept hk (fun k hk' _ => by
    have e := List.mem_singleton.1 hk'
    subst e
    exact ⟨⟨_, _, _, hrd, by simp⟩, h.rge⟩)) (fun t _ ht => by simpa using ht) (by decide) hr (by rw [ho, (stI_of _ _ _ _ _ _).1]) (by rw [hp, (stI_of _ _ _ _ _ _).2])⟩, h.ats.kept hk, ?_, hk.at h.tb (ne h.tb (by decide)), hk.at h.sb (ne h.sb (by decide)), hk.ownsRow h.own ?_, h.kept.next hk (by simpa using h.rge)⟩
  · obtain ⟨cA, hA⟩ := h.aty
    exact ⟨cA, hk.at hA (ne hA (by decide))⟩
  · intro k hk'
    rcases h.own.2 with ⟨e, _⟩ | ⟨q, cap', cur, e, _, hc, _⟩
    · rw [e] at hk'; cases hk'
    · rw [e] at hk'
      have e3 := Option.some.inj hk'
      subst e3
      exact ne hc (by decide)
end Go.Proofs.YtlhhgenpcjjajaaGreatDoor
namespace Go.Proofs.YtlhhgenpcjjajaaGreatDoor
open Go.RowKit
theorem zero_rule (w : World) : (zeroValue 168).run Tryz.prog w = .ok .nilFunc w := by kernel_rfl
theorem look_map {bm bB bD : Nat} {R : Option (List (List ByteArray × Ru))} {v : Value} {w : World} (h : IsMapO bm bB bD R v w) (n : ByteArray) :
    ∃ u, (∀ w', Kept [] w w' → (Instr.lookup 170 v (.string n) false).run Tryz.prog w' = .ok u w') ∧ IsRu bm bB bD (lookO R n) u w := by
  cases R with
  | none =>
    obtain rfl : v = .map none := h
    refine ⟨.nilFunc, fun w' _ => ?_, rfl⟩
    have hu : (underlying 9).run Tryz.prog w' = .ok .string w' := run_underlying Tryz.underlying9 _
    have hc : ∀ x, (Instr.checkKey x 10000 9 (.string n)).run Tryz.prog w' = .ok () w' := fun x => by
      unfold Instr.checkKey
      simp [hu]
    simp [Instr.lookup, run_underlying (show Tryz.prog.underlying 170 = some (.map 9 168) by kernel_rfl), hc, Instr.findKey, Instr.findNow, hu, zero_rule, Result.andThen]
  | some R =>
    obtain ⟨b, L, rfl, hm, hr⟩ := h
    have hlt := hm.lt
    refine ⟨(getL L n).getD .nilFunc, fun w' hk => run_lookS (by kernel_rfl) zero_rule (hm.keeps (hk.block b hlt (by simp))) n, ?_⟩
    have h2 := hr n
    show IsRu bm bB bD ((lookR R n).getD .nil) _ w
    cases hq : lookR R n with
    | none => rw [hq] at h2; rw [show getL L n = none from h2]; rfl
    | some r => rw [hq] at h2; obtain ⟨u, e, hu⟩ := h2; rw [e]; exact hu
set_option maxRecDepth 100000 in
set_option maxHeartbeats 4000000 in
theorem of_start (E : Env) (bB bD a b : Nat) (n : ByteArray) (ats : List (ByteArray × ByteArray)) (sp : RSpec) (v0 v1 v2 v3 v4 v5 v6 v7 v8 v9 : Value) (w : World) (h : IsRules E.bm bB bD sp v0 v1 v2 v3 v4 v5 v6 v7 v8 v9 w) (htv : ∃ x m c, E.tv = .slice x m c) :
    Calls Tryz.prog 264 #[.agg #[v0, v1, v2, v3, v4, v5, v6, v7, v8, v9], tokV E ⟨a, b, .start n, ats⟩] w fun e w' => ∃ v, e = .returned v ∧ IsRu E.bm bB bD (ruleOf sp ⟨a, b, .start n, ats⟩) v w ∧ Kept [] w w' := by
  have hone := h.one
  have k0 := cells1 (hone v0 (by simp))
  have k1 := cells1 (hone v1 (by simp))
  have k2 := cells1 (hone v2 (by simp))
  have k3 := cells1 (hone v3 (by simp))
  have k4 := cells1 (hone v4 (by simp))
  have k5 := cells1 (hone v5 (by simp))
  have k6 := cells1 (hone v6 (by simp))
  have k7 := cells1 (hone v7 (by simp))
  have k8 := cells1 (hone v8 (by simp))
  have k9 := cells1 (hone v9 (by simp))
  clear hone
  have HI := hide h
  clear h
  have HG := hide (fun o => two_at w (.cells #[v0, v1, v2, v3, v4, v5, v6, v7, v8, v9] 172 (0, 0)) o)
  have HG1 := hide (heap_alloc_at w (.cells #[v0, v1, v2, v3, v4, v5, v6, v7, v8, v9] 172 (0, 0)))
  have HK0 := hide (fun o => ((Kept.refl [] w).alloc (.cells #[v0, v1, v2, v3, v4, v5, v6, v7, v8, v9] 172 (0, 0))).alloc o)
  have HK1 := hide ((Kept.refl [] w).alloc (.cells #[v0, v1, v2, v3, v4, v5, v6, v7, v8, v9] 172 (0, 0)))
  simp only [tokV]
  obtain ⟨x0, m0, c0, htv⟩ := htv
  rw [htv]
  clear htv
  have q_Char := fun (v : Value) (xT : TypeId) (w : World) => ta_no (T := 196) (z := .agg #[.int .i64 0, .int .i64 0, .string ⟨#[]⟩]) Tryz.underlying188 (by kernel_rfl) (by decide) v xT w
  have q_Comment := fun (v : Value) (xT : TypeId) (w : World) => ta_no (T := 196) (z := .agg #[.int .i64 0, .int .i64 0, .string ⟨#[]⟩]) Tryz.underlying198 (by kernel_rfl) (by decide) v xT w
  have q_Doctype := fun (v : Value) (xT : TypeId) (w : World) => ta_no (T := 196) (z := .agg #[.int .i64 0, .int .i64 0, .string ⟨#[]⟩, .bool false]) Tryz.underlying200 (by kernel_rfl) (by decide) v xT w
  have q_StartTag := fun (v : Value) (xT : TypeId) (w : World) => ta_yes Tryz.underlying196 v xT w
  obtain ⟨u, hlk, hu⟩ := look_map HI.out.start n
  have HLK := hide hlk
  have hl2 := hlk ((w.alloc (.cells #[v0, v1, v2, v3, v4, v5, v6, v7, v8, v9] 172 (0, 0))).alloc (.cells #[.int .i64 (a : Int), .int .i64 (b : Int), .string n, .slice x0 m0 c0] 196 (0, 0))) (HK0.out _)
  have gB := HG.out (.cells #[.int .i64 (a : Int), .int .i64 (b : Int), .string n, .slice x0 m0 c0] 196 (0, 0))
  have gT := heap_alloc_at (w.alloc (.cells #[v0, v1, v2, v3, v4, v5, v6, v7, v8, v9] 172 (0, 0))) (.cells #[.int .i64 (a : Int), .int .i64 (b : Int), .string n, .slice x0 m0 c0] 196 (0, 0))
  have HK2 := hide (HK0.out (.cells #[.int .i64 (a : Int), .int .i64 (b : Int), .string n, .slice x0 m0 c0] 196 (0, 0)))
  obtain ⟨W, hW⟩ : ∃ W, W = ((w.alloc (.cells #[v0, v1, v2, v3, v4, v5, v6, v7, v8, v9] 172 (0, 0))).alloc (.cells #[.int .i64 (a : Int), .int .i64 (b : Int), .string n, .slice x0 m0 c0] 196 (0, 0))) := ⟨_, rfl⟩
  have hz : (w.alloc (.cells #[v0, v1, v2, v3, v4, v5, v6, v7, v8, v9] 172 (0, 0))).heap.size = w.heap.size + 1 := by simp
  rw [hz] at gT
  have q5 : W.cell? ⟨w.heap.size, 5, none⟩ = some v5 := by rw [hW, cell_at gB]; rfl
  have q7 : W.cell? ⟨w.heap.size, 7, none⟩ = some v7 := by rw [hW, cell_at gB]; rfl
  have q9 : W.cell? ⟨w.heap.size, 9, none⟩ = some v9 := by rw [hW, cell_at gB]; rfl
  have qn : W.cell? ⟨w.heap.size + 1, 2, none⟩ = some (.string n) := by rw [hW, cell_at gT]; rfl
  rw [← hW] at HK2 hl2
  have HW := hide hW.symm
  clear gB gT HG HG1 HK0 HK1 hlk hW hz HLK
  have hr : ruleOf sp ⟨a, b, .start n, ats⟩ = firstR [lookO sp.start n, sp.otherStart, sp.others] := rfl
  have HAll : Hid (AllRu E.bm bB bD w _ [u, v7, v9]) := hide (.cons hu (.cons HI.out.otherStart (.cons HI.out.others (.nil))))
  have HR := hide hr
  clear hr
  have HC : Hid (Calls Tryz.prog 316 #[.slice (some ⟨W.heap.size, 0, none⟩) 3 3] ((W).alloc (.cells #[u, v7, v9] 168 (0, 0))) fun e w3 => e = .returned (firstV [u, v7, v9]) ∧ w3 = (W).alloc (.cells #[u, v7, v9] 168 (0, 0))) := by
    have := firstOf_any ((W).heap.size) 3 [u, v7, v9] ((W).alloc (.cells #[u, v7, v9] 168 (0, 0))) (heap_alloc_at _ _) HAll.out.isF (by simp)
    try rw [World.size_alloc] at this
    exact hide this
  have f5 := hu.fv
  have f7 := HI.out.otherStart.fv
  have f9 := HI.out.others.fv
  clear hu
  go_enter Tryz.func264, Tryz.ntmps264
  go_wp2_with fail
  rw [HW.out]
  go_wp2_with fail
  rw [hl2]
  clear hl2
  rcases f5 with rfl | ⟨k5, a5, l5, rfl⟩
  all_goals rcases f7 with rfl | ⟨k7, a7, l7, rfl⟩
  all_goals rcases f9 with rfl | ⟨k9, a9, l9, rfl⟩
  all_goals go_wp2_with fail
  all_goals refine HC.out.mono ?_
  all_goals rintro e w3 ⟨rfl, rfl⟩
  all_goals have HFF := hide HAll.out.first
  all_goals simp only [firstV] at HFF ⊢
  all_goals go_wp2
  all_goals go_ret
  all_goals exact ⟨_, rfl, HR.out ▸ HFF.out, HK2.out.alloc _⟩
end Go.Proofs.YtlhhgenpcjjajaaGreatDoor
namespace Go.Proofs.YtlhhgenpcjjajaaGreatDoor
open Go.RowKit
set_option maxRecDepth 100000 in
set_option maxHeartbeats 4000000 in
theorem Take_start (E : Env) (rec : Nat → ATok → M Unit) (hA : ∀ (m : Nat) (t : ATok), TokOk E t → Does E 171 (fun _ => #[Bp E, .int .i64 (m : Int), tokV E t]) (rec m t) uV) (a b : Nat) (n : ByteArray) (ats : List (ByteArray × ByteArray)) (ht : TokOk E ⟨a, b, .start n, ats⟩) : Does E 57 (fun _ => #[Bp E, tokV E ⟨a, b, .start n, ats⟩]) (TakeM rec ⟨a, b, .start n, ats⟩) uV := by
  have HT := hide (take_p E rec hA ⟨a, b, .start n, ats⟩ ht)
  have HCh := hide (fun w => charsOf_ok E ⟨a, b, .start n, ats⟩ w)
  intro f σ w h hs
  obtain ⟨R, hR⟩ : ∃ R, R = (TakeM rec ⟨a, b, .start n, ats⟩) σ := ⟨_, rfl⟩
  rw [← hR] at hs ⊢
  unfold TakeM at hR
  simp only [] at hR
  have HS := hide hs
  have H := hide (At.start h)
  have hmeth0 : ∀ (tv : Value) w, (Go.method 500 196 (.agg #[.int .i64 (a : Int), .int .i64 (b : Int), .string n, tv]) "Bytes").run Tryz.prog w = .ok (436, .agg #[.int .i64 (a : Int), .int .i64 (b : Int)]) w := fun tv w => by kernel_rfl
  have hmeth := hmeth0 E.tv
  clear hmeth0
  have c1 := H.out.c198
  have hlt := h.lt
  have f1 := H.out.free 198
  have f2 := H.out.free 197
  have c2 := H.out.c197
  have cm := fun w => charsOf_ok E ⟨a, b, .start n, ats⟩ w
  simp only [tokV, ATok.chars] at cm HT ⊢
  have q_Lost := fun (v : Value) (xT : TypeId) (w : World) => ta_no (T := 196) (z := .agg #[.int .i64 0, .int .i64 0]) Tryz.underlying190 (by kernel_rfl) (by decide) v xT w
  have CM := hide cm
  clear h hs cm
  have K1 : Hid (∀ o, Kept [] w (w.alloc o)) := hide (fun o => (Kept.refl [] w).alloc o)
  have HB := hide (fun w => bytes_ok (a : Int) (b : Int) w)
  replace H := hide ((H.out.set_behind false).k0 ((Kept.refl [] _).alloc (.cells #[.int .i64 0, .int .i64 0] 190 (0, 0))))
  cases hb : σ.behind with
  | false =>
    have hR2 : R = (takeM rec ⟨a, b, .start n, ats⟩ >>= fun _ => (Pure.pure () : M Unit)) { σ with behind := false, at' := a } := by rw [hR, hb, M.bind_pure]; rfl
    have HR := hide hR2
    rw [hb] at c1
    clear hR hR2 hb K1
    go_enter Tryz.func57, Tryz.ntmps57
    go_wp2_with fail
    refine (HB.out _).mono ?_
    rintro e w1 ⟨rfl, hk1⟩
    replace H := hide (H.out.k0 hk1)
    clear hk1
    have c3 := H.out.c197
    have f3 := H.out.free 197
    have l3 := H.out.lt
    replace H := hide (H.out.set_at a)
    go_wp2_with fail
    refine Does.call (HT.out) H.out HR.out HS.out (rfl) ?_ ?_
    · intro c p j ws h1 h2 h3
      have H1 := hide h1
      have H2 := hide h2
      have H3 := hide h3
      clear h1 h2 h3
      go_wp2
      exact ⟨rfl, leaves_stop H1.out H2.out H3.out⟩
    rintro (_) f σ w h1 h0 h2 h3
    have HX := hide h0
    have HF := hide h2
    clear h0
    replace H := hide h1
    replace HR := hide h3
    clear h1 h2 h3
    try dsimp only at HR
    go_wp2
    go_end0
    exact leaves_ok HR.out H.out rfl
  | true =>
    rw [hb] at c1 hR
    simp only [Bool.true_and] at hR
    clear hb K1
    cases hn : eqS (ATok.chars ⟨a, b, .start n, ats⟩) ⟨#[10]⟩ with
    | false =>
      rw [hn] at hR
      have hR2 : R = (takeM rec ⟨a, b, .start n, ats⟩ >>= fun _ => (Pure.pure () : M Unit)) { σ with behind := false, at' := a } := by rw [hR, M.bind_pure]; rfl
      have HR := hide hR2
      have hn2 := (eqS_nl (ATok.chars ⟨a, b, .start n, ats⟩)).symm.trans hn
      simp only [ATok.chars] at hn2
      clear hR hR2 hn
      go_enter Tryz.func57, Tryz.ntmps57
      go_wp2_with fail
      refine (HB.out _).mono ?_
      rintro e w1 ⟨rfl, hk1⟩
      replace H := hide (H.out.k0 hk1)
      clear hk1
      have c3 := H.out.c197
      have f3 := H.out.free 197
      have l3 := H.out.lt
      replace H := hide (H.out.set_at a)
      go_wp2_with fail
      refine (CM.out _).mono ?_
      rintro e w2 ⟨rfl, hk2⟩
      replace H := hide (H.out.k0 hk2)
      clear hk2
      go_wp2_with fail
      refine Does.call (HT.out) H.out HR.out HS.out (rfl) ?_ ?_
      · intro c p j ws h1 h2 h3
        have H1 := hide h1
        have H2 := hide h2
        have H3 := hide h3
        clear h1 h2 h3
        go_wp2
        exact ⟨rfl, leaves_stop H1.out H2.out H3.out⟩
      rintro (_) f σ w h1 h0 h2 h3
      have HX := hide h0
      have HF := hide h2
      clear h0
      replace H := hide h1
      replace HR := hide h3
      clear h1 h2 h3
      try dsimp only at HR
      go_wp2
      go_end0
      exact leaves_ok HR.out H.out rfl
    | true =>
      rw [hn] at hR
      simp only [] at hR
      have HR := hide hR
      have hn2 := (eqS_nl (ATok.chars ⟨a, b, .start n, ats⟩)).symm.trans hn
      simp only [ATok.chars] at hn2
      rw [ByteArray.toList_eq] at hn2
      exact absurd hn2 (by decide)
end Go.Proofs.YtlhhgenpcjjajaaGreatDoor
namespace Go.Proofs.YtlhhgenpcjjajaaGreatDoor
open Go.RowKit
def okS (t : ATok) : Bool := match t.k with
  | .char _ => true
  | .textEnd => true
  | .start _ => true
  | _ => false
def signRm (rec : Nat → ATok → M Unit) : Ru → ATok → M Unit
  | .meth f, t => if f = 122 then startOther t else plainRm rec (.meth f) t
  | r, t => plainRm rec r t
theorem okS_of (E : Env) (htv : ∃ x m c, E.tv = .slice x m c) (t : ATok) (h : okS t = true) : OfTok E t := by
  obtain ⟨a, b, k, ats⟩ := t
  cases k with
  | char s => exact fun bB bD sp v0 v1 v2 v3 v4 v5 v6 v7 v8 v9 w hr => of_char E bB bD a b s ats sp v0 v1 v2 v3 v4 v5 v6 v7 v8 v9 w hr
  | textEnd => exact fun bB bD sp v0 v1 v2 v3 v4 v5 v6 v7 v8 v9 w hr => of_textEnd E bB bD a b ats sp v0 v1 v2 v3 v4 v5 v6 v7 v8 v9 w hr
  | start n => exact fun bB bD sp v0 v1 v2 v3 v4 v5 v6 v7 v8 v9 w hr => of_start E bB bD a b n ats sp v0 v1 v2 v3 v4 v5 v6 v7 v8 v9 w hr htv
  | stop n => cases h
  | comment s => cases h
  | doctype n q => cases h
  | lost => cases h
theorem signRm_p (E : Env) (rec : Nat → ATok → M Unit) (hA : ∀ (m : Nat) (t : ATok), TokOk E t → Does E 171 (fun _ => #[Bp E, .int .i64 (m : Int), tokV E t]) (rec m t) uV) (r : Ru) (t : ATok) (ht : TokOk E t) : RuleDoes E r t (signRm rec r t) := by
  cases r with
  | meth f =>
    show RuleDoes E (.meth f) t (if f = 122 then startOther t else plainRm rec (.meth f) t)
    split
    · rename_i e; subst e; exact meth_p E t _ _ (enters_of Tryz.func122 (by kernel_rfl) rfl) (startOther_p E (foster_ok E) t ht)
    · exact plainRm_p E rec hA (.meth f) t ht
  | nothing => exact plainRm_p E rec hA _ t ht
  | nil => exact plainRm_p E rec hA _ t ht
  | asIn m => exact plainRm_p E rec hA _ t ht
  | comment p o => exact plainRm_p E rec hA _ t ht
  | ahead f => exact plainRm_p E rec hA _ t ht
  | ends f => exact plainRm_p E rec hA _ t ht
  | ifT r => exact plainRm_p E rec hA _ t ht
  | starts ks m => exact plainRm_p E rec hA _ t ht
  | implies ks n m => exact plainRm_p E rec hA _ t ht
  | item ks => exact plainRm_p E rec hA _ t ht
def takeS : Nat → ATok → M Unit := takeF okS signRm 8
theorem takeS_p (E : Env) (htv : ∃ x m c, E.tv = .slice x m c) (m : Nat) (t : ATok) (ht : TokOk E t) : Does E 171 (fun _ => #[Bp E, .int .i64 (m : Int), tokV E t]) (takeS m t) uV :=
  takeF_p E okS signRm (fun t _ ho => okS_of E htv t ho) (fun rec hA r t ht _ => signRm_p E rec hA r t ht) 8 m t ht
theorem takeS_at (n m : Nat) (t : ATok) (ho : okS t = true) (sp : RSpec) (h : specs[m]? = some sp) (r : Ru) (hr : ruleOf sp t = r) : takeF okS signRm (n + 1) m t = signRm (takeF okS signRm n) r t := by
  rw [takeF, if_pos ho, asM_at _ m t sp h r hr]
def kidsN (o : Option ByteArray) : List Nd := match o with
  | none => []
  | some _ => [.tx 5]
def SS (a : Nat) (ats : List (ByteArray × ByteArray)) (o : Option ByteArray) : Ab := { nodes := [.el ⟨⟨#[]⟩, [], none, [.el 1]⟩, .el ⟨(⟨#[104, 116, 109, 108]⟩ : ByteArray), [], some 0, [.el 2, .el 3]⟩, .el ⟨(⟨#[104, 101, 97, 100]⟩ : ByteArray), [], some 1, []⟩, .el ⟨(⟨#[98, 111, 100, 121]⟩ : ByteArray), [], some 1, [.el 4]⟩, .el ⟨(⟨#[115, 112, 97, 110]⟩ : ByteArray), ats, some 3, kidsN o⟩] ++ txB o, opn := [some 1, some 3, some 4], act := [], head := some 2, form := none, mode := 6, kept := 0, waiting := [], fostering := false, quirks := true, at' := a, behind := false, ofT := ⟨#[]⟩, plainT := false, fresh := false, dep := 64, frm := 1, atl := 1 }
def F0 (a : Nat) : Ab := { S0 64 1 1 a with fresh := true }
def F1 (a : Nat) : Ab := { F0 a with quirks := true, mode := 1 }
def FH (a : Nat) : Ab := { SH 64 1 1 a with fresh := true }
def FD (a : Nat) : Ab := { SD 64 1 1 a with fresh := true }
def FE (a : Nat) : Ab := { SE 64 1 1 a with fresh := true }
def FB (a : Nat) : Ab := { SB 64 1 1 a none with fresh := true }
theorem x0 (a : Nat) (g : Nat → ATok → M Unit) (t : ATok) : startWithoutDoctype g t (F0 a) = g 1 t (F1 a) := M.tail_run (takeM g t) (F1 a)
theorem x1 (a : Nat) (g : Nat → ATok → M Unit) (t : ATok) : impliedHTML g t (F1 a) = g 2 t (FH a) := by
  have e : openHTML false [] (F1 a) = .ok () (FH a) := rfl
  unfold impliedHTML
  rw [M.bind_run, e]
  exact M.tail_run (takeM g t) _
theorem x2 (a : Nat) (g : Nat → ATok → M Unit) (t : ATok) : impliedHead g t (FH a) = g 3 t (FD a) := by
  have e : openHead false [] (FH a) = .ok () (FD a) := rfl
  unfold impliedHead
  rw [M.bind_run, e]
  exact M.tail_run (takeM g t) _
theorem x3 (a : Nat) (g : Nat → ATok → M Unit) (t : ATok) : impliedEndOfHead g t (FD a) = g 4 t (FE a) := by
  have e : endHead (FD a) = .ok () (FE a) := rfl
  unfold impliedEndOfHead
  rw [M.bind_run, e]
  exact M.tail_run (takeM g t) _
theorem x4 (a : Nat) (g : Nat → ATok → M Unit) (t : ATok) : impliedBody g t (FE a) = g 6 t (FB a) := by
  have e : insertNamed (⟨#[98, 111, 100, 121]⟩ : ByteArray) (FE a) = .ok () { FB a with mode := 4 } := rfl
  unfold impliedBody
  rw [M.bind_run, e]
  exact M.tail_run (takeM g t) _
theorem span_rules (x y : Nat) (ats : List (ByteArray × ByteArray)) : ruleOf (specs[0]) ⟨x, y, .start (⟨#[115, 112, 97, 110]⟩ : ByteArray), ats⟩ = .meth 101 ∧ ruleOf (specs[1]) ⟨x, y, .start (⟨#[115, 112, 97, 110]⟩ : ByteArray), ats⟩ = .meth 104 ∧ ruleOf (specs[2]) ⟨x, y, .start (⟨#[115, 112, 97, 110]⟩ : ByteArray), ats⟩ = .meth 108
    ∧ ruleOf (specs[3]) ⟨x, y, .start (⟨#[115, 112, 97, 110]⟩ : ByteArray), ats⟩ = .meth 114 ∧ ruleOf (specs[4]) ⟨x, y, .start (⟨#[115, 112, 97, 110]⟩ : ByteArray), ats⟩ = .meth 117 ∧ ruleOf (specs[6]) ⟨x, y, .start (⟨#[115, 112, 97, 110]⟩ : ByteArray), ats⟩ = .meth 122 := by
  refine ⟨?_, ?_, ?_, ?_, ?_, ?_⟩ <;> kernel_rfl
theorem startOther_FB (a x y : Nat) (ats : List (ByteArray × ByteArray)) : startOther ⟨x, y, .start (⟨#[115, 112, 97, 110]⟩ : ByteArray), ats⟩ (FB a) = .ok () (SS a ats none) := by
  have e : reconstruct (FB a) = .ok () (FB a) := rfl
  unfold startOther
  rw [M.bind_run, e]
  rfl
theorem take_span (a x y : Nat) (ats : List (ByteArray × ByteArray)) : TakeM takeS ⟨x, y, .start (⟨#[115, 112, 97, 110]⟩ : ByteArray), ats⟩ (F0 a) = .ok () (SS x ats none) := by
  show takeS 0 ⟨x, y, .start (⟨#[115, 112, 97, 110]⟩ : ByteArray), ats⟩ (F0 x) = _
  obtain ⟨h0, h1, h2, h3, h4, h6⟩ := span_rules x y ats
  unfold takeS
  rw [takeS_at 7 0 _ rfl specs[0] rfl _ h0]
  refine (x0 x _ _).trans ?_
  rw [takeS_at 6 1 _ rfl specs[1] rfl _ h1]
  refine (x1 x _ _).trans ?_
  rw [takeS_at 5 2 _ rfl specs[2] rfl _ h2]
  refine (x2 x _ _).trans ?_
  rw [takeS_at 4 3 _ rfl specs[3] rfl _ h3]
  refine (x3 x _ _).trans ?_
  rw [takeS_at 3 4 _ rfl specs[4] rfl _ h4]
  refine (x4 x _ _).trans ?_
  rw [takeS_at 2 6 _ rfl specs[6] rfl _ h6]
  exact startOther_FB x x y ats
theorem take_inspan (a x y : Nat) (s : ByteArray) (hz : isNulS s = false) (ats : List (ByteArray × ByteArray)) (o : Option ByteArray) (hs : ∀ u, o = some u → u.size + s.size ≤ 1048576) : TakeM takeS ⟨x, y, .char s, []⟩ (SS a ats o) = .ok () (SS x ats (some (appO o s))) := by
  show takeS 6 ⟨x, y, .char s, []⟩ (SS x ats o) = _
  unfold takeS
  have h : ruleOf (specs[6]) ⟨x, y, .char s, []⟩ = .meth 120 := by cases hb : isBlankS s <;> simp only [ruleOf, hb, ↓reduceIte] <;> rfl
  rw [takeS_at 7 6 _ rfl specs[6] rfl _ h]
  show charInBody ⟨x, y, .char s, []⟩ (SS x ats o) = _
  unfold charInBody
  rw [show isNulS (ATok.chars ⟨x, y, .char s, []⟩) = false from hz]
  simp only [Bool.false_eq_true, ↓reduceIte]
  have e : reconstruct (SS x ats o) = .ok () (SS x ats o) := rfl
  rw [M.bind_run, e]
  refine (M.tail_run (insertChar ⟨x, y, .char s, []⟩) _).trans ?_
  cases o with
  | none =>
    show ((putChars (4, 0) s >>= fun _ => (Pure.pure () : M Unit)) (SS x ats none)) = _
    rw [M.tail_run]
    rfl
  | some u =>
    have hu := hs u rfl
    have e2 : insertChar ⟨x, y, .char s, []⟩ (SS x ats (some u)) = if u.size + s.size ≤ 1048576 then .ok () (SS x ats (some (u ++ s))) else .stuck := by
      show ((putChars (4, 1) s >>= fun _ => (Pure.pure () : M Unit)) (SS x ats (some u))) = _
      rw [M.tail_run]
      show (if u.size + s.size ≤ 1048576 then Res.ok () _ else .stuck) = _
      rfl
    rw [e2, if_pos hu]
    rfl
theorem take_spanEnd (a x y : Nat) (ats : List (ByteArray × ByteArray)) (o : Option ByteArray) : TakeM takeS ⟨x, y, .textEnd, []⟩ (SS a ats o) = .ok () (SS x ats o) := by
  show takeS 6 ⟨x, y, .textEnd, []⟩ (SS x ats o) = _
  unfold takeS
  have h : ruleOf (specs[6]) ⟨x, y, .textEnd, []⟩ = .nothing := rfl
  rw [takeS_at 7 6 _ rfl specs[6] rfl _ h]
  rfl
end Go.Proofs.YtlhhgenpcjjajaaGreatDoor
namespace Go.Proofs.YtlhhgenpcjjajaaGreatDoor
open Go.RowKit Go.PlainAid Go.Shelf Go.Lib
def cpt (n : Int) : Int := if n = 0 ∨ (55296 ≤ n ∧ n ≤ 57343) ∨ n ≥ 1114112 then 65533 else if n = 128 then 8364 else if n = 133 then 8230 else if n = 145 then 8216 else if n = 146 then 8217 else if n = 147 then 8220 else if n = 148 then 8221 else if n = 150 then 8211 else if n = 151 then 8212 else if n = 153 then 8482 else n
theorem cpt_ret {x n : Int} (h : x = cpt n) : Ending.returned (.int .i32 x) = .returned (.int .i32 (cpt n)) := by rw [h]
theorem cpt_none {n : Int} (h0 : ¬ n = 0) (hb : n < 55296) (h128 : (n == 128) = false) (h133 : (n == 133) = false) (h145 : (n == 145) = false) (h146 : (n == 146) = false) (h147 : (n == 147) = false) (h148 : (n == 148) = false) (h150 : (n == 150) = false) (h151 : (n == 151) = false) (h153 : (n == 153) = false) : cpt n = n := by
  simp only [beq_eq_false_iff_ne, ne_eq] at *
  unfold cpt
  repeat' split
  all_goals omega
set_option maxRecDepth 100000 in
set_option maxHeartbeats 1000000 in
theorem codePoint_any (n : Int) (w : World) (h0 : 0 ≤ n) (h1 : n ≤ 1114112) :
    Calls Tryz.prog 314 #[.int .i64 n] w fun e w' => e = .returned (.int .i32 (cpt n)) ∧ w' = w := by
  by_cases a : n = 0
  · subst a
    go_enter Tryz.func314, Tryz.ntmps314
    go_wp2
    go_ret
    exact ⟨rfl, rfl⟩
  · by_cases b : 55296 ≤ n
    · by_cases b2 : n ≤ 57343
      · go_enter Tryz.func314, Tryz.ntmps314
        go_wp2
        go_ret
        exact ⟨cpt_ret (by unfold cpt; rw [if_pos (by omega)]), rfl⟩
      · by_cases b3 : n ≥ 1114112
        · go_enter Tryz.func314, Tryz.ntmps314
          go_wp2
          go_ret
          exact ⟨cpt_ret (by unfold cpt; rw [if_pos (by omega)]), rfl⟩
        · go_enter Tryz.func314, Tryz.ntmps314
          go_wp2
          go_ret
          exact ⟨cpt_ret (by unfold cpt; repeat' split; all_goals omega), rfl⟩
    · go_enter Tryz.func314, Tryz.ntmps314
      go_wp2
      all_goals
        (go_ret
         first
          | exact ⟨cpt_ret (by rw [eq_of_beq ‹(n == 128) = true›]; rfl), rfl⟩
          | exact ⟨cpt_ret (by rw [eq_of_beq ‹(n == 133) = true›]; rfl), rfl⟩
          | exact ⟨cpt_ret (by rw [eq_of_beq ‹(n == 145) = true›]; rfl), rfl⟩
          | exact ⟨cpt_ret (by rw [eq_of_beq ‹(n == 146) = true›]; rfl), rfl⟩
          | exact ⟨cpt_ret (by rw [eq_of_beq ‹(n == 147) = true›]; rfl), rfl⟩
          | exact ⟨cpt_ret (by rw [eq_of_beq ‹(n == 148) = true›]; rfl), rfl⟩
          | exact ⟨cpt_ret (by rw [eq_of_beq ‹(n == 150) = true›]; rfl), rfl⟩
          | exact ⟨cpt_ret (by rw [eq_of_beq ‹(n == 151) = true›]; rfl), rfl⟩
          | exact ⟨cpt_ret (by rw [eq_of_beq ‹(n == 153) = true›]; rfl), rfl⟩
          | exact ⟨cpt_ret (cpt_none a b ‹(n == 128) = false› ‹(n == 133) = false› ‹(n == 145) = false› ‹(n == 146) = false› ‹(n == 147) = false› ‹(n == 148) = false› ‹(n == 150) = false› ‹(n == 151) = false› ‹(n == 153) = false›).symm, rfl⟩)
def digitI (c : Int) : Int := if 48 ≤ c ∧ c ≤ 57 then c - 48 else if 97 ≤ c ∧ c ≤ 102 then c - 87 else if 65 ≤ c ∧ c ≤ 70 then c - 55 else 99
theorem digitI_range (c : Int) : 0 ≤ digitI c ∧ digitI c ≤ 99 := by unfold digitI; split <;> (try split) <;> (try split) <;> omega
theorem cdigit_any (c : Int) (w : World) (h0 : 0 ≤ c) (h1 : c ≤ 255) :
    Calls Tryz.prog 346 #[.int .u8 c] w fun e w' => e = .returned (.bool (decide (48 ≤ c ∧ c ≤ 57))) ∧ w' = w := by
  by_cases a1 : 48 ≤ c <;> by_cases a2 : c ≤ 57
  all_goals first | (exfalso; omega) | skip
  all_goals (go_enter Tryz.func346, Tryz.ntmps346; go_wp2; go_ret; exact ⟨by first | (simp; done) | (simp; omega), rfl⟩)
set_option maxRecDepth 100000 in
set_option maxHeartbeats 1000000 in
theorem digit_any (c : Int) (w : World) (h0 : 0 ≤ c) (h1 : c ≤ 255) :
    Calls Tryz.prog 313 #[.int .u8 c] w fun e w' => e = .returned (.int .i64 (digitI c)) ∧ w' = w := by
  have C := hide (cdigit_any c w h0 h1)
  by_cases a : 48 ≤ c ∧ c ≤ 57
  · rw [show decide (48 ≤ c ∧ c ≤ 57) = true from by simp [a]] at C
    have e : digitI c = c - 48 := by unfold digitI; rw [if_pos a]
    rw [e]; clear e
    obtain ⟨a1, a2⟩ := a
    go_enter Tryz.func313, Tryz.ntmps313
    go_wp2_with fail
    refine C.out.mono ?_
    rintro e w' ⟨rfl, rfl⟩
    go_wp2
    go_ret
    exact ⟨rfl, rfl⟩
  · rw [show decide (48 ≤ c ∧ c ≤ 57) = false from by simp; omega] at C
    by_cases b : 97 ≤ c
    · by_cases b2 : c ≤ 102
      · have e : digitI c = c - 97 + 10 := by unfold digitI; rw [if_neg a, if_pos ⟨b, b2⟩]; omega
        rw [e]; clear e a
        go_enter Tryz.func313, Tryz.ntmps313
        go_wp2_with fail
        refine C.out.mono ?_
        rintro e w' ⟨rfl, rfl⟩
        go_wp2
        go_ret
        exact ⟨rfl, rfl⟩
      · have e : digitI c = 99 := by unfold digitI; rw [if_neg a, if_neg (by omega), if_neg (by omega)]
        rw [e]; clear e a
        go_enter Tryz.func313, Tryz.ntmps313
        go_wp2_with fail
        refine C.out.mono ?_
        rintro e w' ⟨rfl, rfl⟩
        go_wp2
        go_ret
        exact ⟨rfl, rfl⟩
    · by_cases d : 65 ≤ c
      · by_cases d2 : c ≤ 70
        · have e : digitI c = c - 65 + 10 := by unfold digitI; rw [if_neg a, if_neg (by omega), if_pos ⟨d, d2⟩]; omega
          rw [e]; clear e a
          go_enter Tryz.func313, Tryz.ntmps313
          go_wp2_with fail
          refine C.out.mono ?_
          rintro e w' ⟨rfl, rfl⟩
          go_wp2
          go_ret
          exact ⟨rfl, rfl⟩
        · have e : digitI c = 99 := by unfold digitI; rw [if_neg a, if_neg (by omega), if_neg (by omega)]
          rw [e]; clear e a
          go_enter Tryz.func313, Tryz.ntmps313
          go_wp2_with fail
          refine C.out.mono ?_
          rintro e w' ⟨rfl, rfl⟩
          go_wp2
          go_ret
          exact ⟨rfl, rfl⟩
      · have e : digitI c = 99 := by unfold digitI; rw [if_neg a, if_neg (by omega), if_neg (by omega)]
        rw [e]; clear e a
        go_enter Tryz.func313, Tryz.ntmps313
        go_wp2_with fail
        refine C.out.mono ?_
        rintro e w' ⟨rfl, rfl⟩
        go_wp2
        go_ret
        exact ⟨rfl, rfl⟩
end Go.Proofs.YtlhhgenpcjjajaaGreatDoor
