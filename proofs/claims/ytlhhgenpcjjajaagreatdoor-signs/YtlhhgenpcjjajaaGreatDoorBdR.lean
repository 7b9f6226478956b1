import Derived.Test.YtlhhgenpcjjajaaGreatDoorOfC
import Derived.Test.YtlhhgenpcjjajaaGreatDoorProg
import Derived.WalkKit
import Derived.WalkSpells
import Derived.WalkLawsBesides
import Derived.LaidEql
import Derived.Stop.Asserts
import Derived.RowKitTokens
import Derived.Test.YtlhhgenpcjjajaaGreatDoorKept
import Derived.Defers
import Derived.Recover
import Derived.Laws.Pointers
import Derived.Outline
import Derived.Deep.RegionWith
import Derived.Deep.QuietTactic
import Derived.BigQuiet
import Derived.Laws.IdiomStrings
import Derived.Laws.Concat
import Derived.Handy
set_option linter.unusedSimpArgs false
set_option linter.unusedVariables false
namespace Go.Proofs.YtlhhgenpcjjajaaGreatDoor
open Go.RowKit
attribute [local go_sem] Oper.semAt_some
theorem foster_done {σ : Ab} : ∀ {xs : List (Option Nat)}, (∀ y ∈ xs, (!eqS (σ.nmO y) (⟨#[116, 97, 98, 108, 101]⟩ : ByteArray)) = true ∨ y = getAt σ.opn 0) → fosterL σ xs = none
  | [], _ => rfl
  | x :: xs, h => by
    unfold fosterL
    rw [if_pos (by rcases h x (by simp) with h1 | h1 <;> simp [h1])]
    exact foster_done fun y hy => h y (by simp [hy])
theorem foster_stop {σ : Ab} {y : Option Nat} {rest : List (Option Nat)} (hr : ¬((!eqS (σ.nmO y) (⟨#[116, 97, 98, 108, 101]⟩ : ByteArray)) = true ∨ y = getAt σ.opn 0)) : ∀ {xs : List (Option Nat)}, (∀ y ∈ xs, (!eqS (σ.nmO y) (⟨#[116, 97, 98, 108, 101]⟩ : ByteArray)) = true ∨ y = getAt σ.opn 0) → fosterL σ (xs ++ [y] ++ rest) = some y
  | [], _ => by
    show fosterL σ (y :: rest) = some y
    unfold fosterL
    rw [if_neg (by simpa using hr)]
  | x :: xs, h => by
    show fosterL σ (x :: (xs ++ [y] ++ rest)) = some y
    unfold fosterL
    rw [if_pos (by rcases h x (by simp) with h1 | h1 <;> simp [h1])]
    exact foster_stop hr fun y hy => h y (by simp [hy])
theorem place_fin0 {W W2 w : World} {s : Nat} (hk : Kept [] W W2) (hw : Kept [] w W) (hs : w.heap.size ≤ s) (hb : W2.heap[s]? = some (.cells #[.pointer none, .int .i64 0] 235 (0, 0))) (v0 v1 : Value) :
    Kept [s] W ((W2.setCell ⟨s, 0, none⟩ v0).setCell ⟨s, 1, none⟩ v1) ∧ Kept [] w ((W2.setCell ⟨s, 0, none⟩ v0).setCell ⟨s, 1, none⟩ v1) ∧ ((W2.setCell ⟨s, 0, none⟩ v0).setCell ⟨s, 1, none⟩ v1).heap[s]? = some (.cells #[v0, v1] 235 (0, 0)) :=
  ⟨((hk.mono (by simp)).setCell (.inl (by simp)) _).setCell (.inl (by simp)) _, (((hw.trans hk)).setCell (.inr hs) _).setCell (.inr hs) _, block_setCell (block_setCell hb 0 v0) 1 v1⟩
theorem place_fin {W W2 w : World} {s : Nat} (hk : Kept [] W W2) (hw : Kept [] w W) (hs : w.heap.size ≤ s) (hb : W2.heap[s]? = some (.cells #[.pointer none, .int .i64 0] 235 (0, 0))) (v0 v1 : Value) (o : Obj) :
    Kept [s] W (((W2.setCell ⟨s, 0, none⟩ v0).setCell ⟨s, 1, none⟩ v1).alloc o) ∧ Kept [] w (((W2.setCell ⟨s, 0, none⟩ v0).setCell ⟨s, 1, none⟩ v1).alloc o) ∧ (((W2.setCell ⟨s, 0, none⟩ v0).setCell ⟨s, 1, none⟩ v1).alloc o).heap[s]? = some (.cells #[v0, v1] 235 (0, 0)) := by
  obtain ⟨h1, h2, h3⟩ := place_fin0 hk hw hs hb v0 v1
  exact ⟨h1.alloc _, h2.alloc _, ((Kept.refl [] _).alloc o).at h3 (by simp)⟩
set_option maxRecDepth 100000 in
set_option maxHeartbeats 4000000 in
theorem foster_ok (E : Env) : FosterOk E := by
  intro f σ w h hs
  have hres : ∃ pl, fosterPlace σ = .ok pl σ := by
    cases hq : fosterPlace σ with
    | ok pl σ1 => exact ⟨pl, by rw [fosterPlace_same hq]⟩
    | stop c p =>
      exfalso
      unfold fosterPlace at hq
      split at hq
      · split at hq
        · unfold fosterAt at hq
          split at hq
          · split at hq
            · split at hq
              · split at hq <;> cases hq
              · cases hq
            · split at hq
              · unfold endOf at hq; split at hq <;> cases hq
              · cases hq
          · cases hq
        · cases hq
        · split at hq
          · unfold endOf at hq; split at hq <;> cases hq
          · cases hq
      · cases hq
    | stuck => exact absurd hq hs
  obtain ⟨pl0, hpl0⟩ := hres
  have htab : σ.tablesOk = true := by
    cases ht : σ.tablesOk with
    | true => rfl
    | false => unfold fosterPlace at hpl0; rw [ht] at hpl0; simp at hpl0
  rw [hpl0]
  obtain ⟨L, rfl, hr⟩ := h
  refine (callsIn_wide (n := 3)).1 ?_
  refine callsIn_of_wp_marks Tryz.func267 rfl trivial ?_ rfl
  simp only [Tryz.ntmps267, List.size_toArray, List.length_cons, List.length_nil, Nat.reduceAdd, Nat.reduceSub, Array.replicate_succ, Array.replicate_zero, List.push_toArray, List.append_toArray, List.nil_append, List.cons_append]
  have hl1 := hr.lt
  obtain ⟨wa, hwa⟩ : ∃ wa, wa = (w.alloc (.cells #[Bp E] 121 (0, 0))).alloc (.cells #[.pointer none, .int .i64 0] 235 (0, 0)) := ⟨_, rfl⟩
  have hka : Kept [] w wa := by rw [hwa]; exact ((Kept.refl _ _).alloc _).alloc _
  have ba0 : wa.heap[w.heap.size]? = some (.cells #[Bp E] 121 (0, 0)) := by
    have := (two_blocks w (.cells #[Bp E] 121 (0, 0)) (.cells #[.pointer none, .int .i64 0] 235 (0, 0))).1
    rwa [← hwa] at this
  obtain ⟨w1, hw1⟩ : ∃ w1, w1 = wa.alloc (.cells #[oV L.at' (getAt σ.opn 0)] 72 (0, 0)) := ⟨_, rfl⟩
  have hk1 : Kept [] w w1 := by rw [hw1]; exact hka.alloc _
  obtain ⟨b0, b1, b2⟩ := three_blocks w (.cells #[Bp E] 121 (0, 0)) (.cells #[.pointer none, .int .i64 0] 235 (0, 0)) (.cells #[oV L.at' (getAt σ.opn 0)] 72 (0, 0))
  rw [← hwa, ← hw1] at b0 b1 b2
  have hza : wa.heap.size = w.heap.size + 1 + 1 := by rw [hwa]; simp
  have hz1 : w1.heap.size = w.heap.size + 1 + 1 + 1 := by rw [hw1]; simp [hza]
  have CA := hide (o_at (hr.kept0 hka) 0)
  have hr1 := hr.kept0 hk1
  obtain ⟨C, hL, hC⟩ := hr1.lstO
  have HL := hide hL
  have HU := hide (l_up E.bs E.bB 188 _ C _ _ w1 hL)
  have HRl := hide hr
  have HO := hide (fun g (hg : L.ov.ownBlock = some g) => row_lt hr.orow hg)
  have HN := hide (fun (W : World) (hk : Kept [] w W) (i : Nat) (e : AEl) (hi : σ.el? i = some e) => (hr.kept0 hk).nameAt hi)
  have HS := hide (fun (y : Option Nat) (hy : y ∈ σ.opn) => hr.opn_some hy)
  have HI := hide hr.inj
  have HE := hide (fun (W : World) (hk : Kept [] w W) (x : Option Nat) (hx : σ.isEl x = true) => (hr.kept0 hk).isEl hx)
  clear hr hr1 hC hL
  have HZ := hide hz1
  have HZa := hide hza
  have HWa := hide hwa
  have HW := hide hw1
  clear hz1 hw1 hza hwa
  have ca0 : wa.cell? ⟨w.heap.size, 0, none⟩ = some (Bp E) := by rw [cell_at ba0]; rfl
  have hla : E.bB < wa.heap.size := Nat.lt_of_lt_of_le hl1 hka.size
  have hlb : w.heap.size < wa.heap.size := by have := HZa.out; omega
  gi_wp2_with fail
  rw [← HWa.out]
  refine ⟨trivial, (callsIn_wide.2 CA.out).mono ?_⟩
  rintro e wa ⟨rfl, rfl⟩
  gi_wp2_with fail
  rw [← HW.out]
  refine ⟨trivial, (callsIn_wide.2 HU.out).mono ?_⟩
  rintro e w' ⟨rfl, rfl⟩
  gi_wp2
  refine wpIn_up2 (by omega) (f := omap L.at') (fun x y e => omap_inj HI.out e) HL.out (by rfl) [] [w.heap.size + 1] (by simp) (by intro k hk; have := List.mem_singleton.1 hk; subst this; have := HZ.out; omega)
    (fun pre W => Kept [] w W ∧ W.heap[w.heap.size]? = some (.cells #[Bp E] 121 (0, 0)) ∧ W.heap[w.heap.size + 1]? = some (.cells #[.pointer none, .int .i64 0] 235 (0, 0)) ∧ W.heap[wa.heap.size]? = some (.cells #[oV L.at' (getAt σ.opn 0)] 72 (0, 0)) ∧ ∀ y ∈ pre, (!eqS (σ.nmO y) (⟨#[116, 97, 98, 108, 101]⟩ : ByteArray)) = true ∨ y = getAt σ.opn 0)
    (fun c pre W => c = .ret ∧ Kept [] w W ∧ ∃ pre' i pl, pre = pre' ++ [some i] ∧ (∀ y ∈ pre', (!eqS (σ.nmO y) (⟨#[116, 97, 98, 108, 101]⟩ : ByteArray)) = true ∨ y = getAt σ.opn 0) ∧ ¬((!eqS (σ.nmO (some i)) (⟨#[116, 97, 98, 108, 101]⟩ : ByteArray)) = true ∨ some i = getAt σ.opn 0) ∧ fosterAt i σ = .ok pl σ ∧ W.heap[w.heap.size + 1]? = some (.cells #[.pointer (some ⟨L.at' pl.1, 0, none⟩), .int .i64 (pl.2 : Int)] 235 (0, 0)))
    ?_ ?_ ?_ (fun x => { tmps := #[Bp E, .pointer (some ⟨w.heap.size, 0, none⟩), .pointer (some ⟨w.heap.size + 1, 0, none⟩), .pointer (some ⟨wa.heap.size, 0, none⟩), enc x, undef, undef, Bp E, .pointer (some ⟨E.bB, 0, none⟩), .pointer (some ⟨E.bB, 188, none⟩), oV L.at' (getAt σ.opn 0), Bp E, .pointer (some ⟨E.bB, 0, none⟩), .pointer (some ⟨E.bB, 188, none⟩), upVal w1.heap.size, enc x, undef, undef, undef, undef, undef, undef, undef, undef, undef, undef, undef, undef, undef, undef, undef, undef, undef, undef, undef, undef, undef, undef, undef, undef, undef], defers := [] }) ?assign ?body ?done ?stopx
  · rintro s A B row ⟨h1, h2, h3, h4, h5⟩ hg hr
    have hz1 := HZ.out
    have hza := HZa.out
    exact ⟨kept_grown h1 hg hr (by omega), at_grown h2 hg hr (by omega), at_grown h3 hg hr (by omega), at_grown h4 hg hr (by omega), h5⟩
  · rintro c s A B row ⟨h0, h1, pre', i, pl, h2, h3, h4, h5, h6⟩ hg hr
    have hz1 := HZ.out
    exact ⟨h0, kept_grown h1 hg hr (by omega), pre', i, pl, h2, h3, h4, h5, at_grown h6 hg hr (by omega)⟩
  · have hk : Kept [] w1 (upWorld E.bB 188 (σ.opn.length) w1) := ((Kept.refl _ _).alloc _).alloc _
    refine ⟨hk1.trans hk, hk.at b0 (by simp), hk.at b1 (by simp), ?_, by simp⟩
    rw [HZa.out]
    exact hk.at b2 (by simp)
  case assign =>
    intro l x W K hK
    gi_wp2
    exact hK
  case body =>
    rintro l pre y W hy ⟨h1, h2, h3, h4, h5⟩
    obtain ⟨i, e0, rfl, hi⟩ := HS.out y hy
    have hrW := HRl.out.kept0 h1
    have c0 := HN.out W h1 i e0 hi
    have c1 : W.cell? ⟨w.heap.size, 0, none⟩ = some (Bp E) := by rw [cell_at h2]; rfl
    have c2 : W.cell? ⟨wa.heap.size, 0, none⟩ = some (oV L.at' (getAt σ.opn 0)) := by rw [cell_at h4]; rfl
    have heq : (binOp .eql 72 (.pointer (some ⟨L.at' i, 0, none⟩)) (oV L.at' (getAt σ.opn 0))).run Tryz.prog W = .ok (.bool (decide (some i = getAt σ.opn 0))) W := by
      have hg0 : σ.isEl (getAt σ.opn 0) = true := by
        unfold getAt
        by_cases hn : (0 : Int) ≤ 0 ∧ (0 : Int) < σ.opn.length
        · rw [if_pos hn]
          have hl0 : 0 < σ.opn.length := by omega
          show σ.isEl (σ.opn.getD 0 none) = true
          rw [List.getD_eq_getElem?_getD, List.getElem?_eq_getElem hl0]
          exact Ab.isEl_of (hrW.wf.opn _ (List.getElem_mem hl0))
        · rw [if_neg hn]; rfl
      have heq := eql_el (HE.out W h1 (some i) (by show (σ.el? i).isSome = true; rw [hi]; rfl)) (HE.out W h1 _ hg0)
      rw [decide_eq_decide.2 (⟨fun e => omap_inj HI.out e, fun e => by rw [e]⟩ : omap L.at' (some i) = omap L.at' (getAt σ.opn 0) ↔ some i = getAt σ.opn 0)] at heq
      exact heq
    have hnm : eqS (σ.nmO (some i)) (⟨#[116, 97, 98, 108, 101]⟩ : ByteArray) = ((σ.nm i).toList == [116, 97, 98, 108, 101]) := by
      show eqS (σ.nm i) _ = _
      unfold eqS
      rw [ByteArray.toList_eq ⟨#[116, 97, 98, 108, 101]⟩]
    have B5 := hide h5
    have HK := hide h1
    have B2 := hide h2
    have B3 := hide h3
    have B4 := hide h4
    have HHI := hide hi
    have HRW := hide hrW
    clear h1 h2 h3 h4 h5 hrW hi
    try dsimp only
    rw [show enc (omap L.at' (some i)) = .pointer (some ⟨L.at' i, 0, none⟩) from rfl]
    cases htb : ((σ.nm i).toList == [116, 97, 98, 108, 101]) with
    | false =>
      rw [htb] at hnm
      have HG : Hid ((!eqS (σ.nmO (some i)) (⟨#[116, 97, 98, 108, 101]⟩ : ByteArray)) = true ∨ some i = getAt σ.opn 0) := hide (.inl (by rw [hnm]; rfl))
      have htb' : ((σ.nm i).toList != [116, 97, 98, 108, 101]) = true := by simp [bne, htb]
      clear hnm heq
      gi_wp2
      refine ⟨Kept.refl _ _, HK.out, B2.out, B3.out, B4.out, fun y hy => ?_⟩
      rcases List.mem_append.1 hy with hy | hy
      · exact B5.out y hy
      · rw [List.mem_singleton.1 hy]; exact HG.out
    | true =>
      rw [htb] at hnm
      have htb' : ((σ.nm i).toList != [116, 97, 98, 108, 101]) = false := by simp [bne, htb]
      by_cases hfi : some i = getAt σ.opn 0
      · rw [decide_eq_true hfi] at heq
        have HG : Hid ((!eqS (σ.nmO (some i)) (⟨#[116, 97, 98, 108, 101]⟩ : ByteArray)) = true ∨ some i = getAt σ.opn 0) := hide (.inr hfi)
        clear hnm hfi
        gi_wp2
        refine ⟨Kept.refl _ _, HK.out, B2.out, B3.out, B4.out, fun y hy => ?_⟩
        rcases List.mem_append.1 hy with hy | hy
        · exact B5.out y hy
        · rw [List.mem_singleton.1 hy]; exact HG.out
      · rw [decide_eq_false hfi] at heq
        have HG : Hid (¬((!eqS (σ.nmO (some i)) (⟨#[116, 97, 98, 108, 101]⟩ : ByteArray)) = true ∨ some i = getAt σ.opn 0)) := hide (by rw [hnm]; simp [hfi])
        have hok : (fosterAt i σ).isOk = true := by
          have := List.all_eq_true.1 htab (some i) hy
          simp only [Bool.or_eq_true, decide_eq_true_eq] at this
          rcases this with (h | h) | h
          · exfalso; have e : eqS (σ.nmO (some i)) (⟨#[116, 97, 98, 108, 101]⟩ : ByteArray) = eqS (σ.nm i) (⟨#[116, 97, 98, 108, 101]⟩ : ByteArray) := rfl; rw [← e, hnm] at h; cases h
          · exact absurd h hfi
          · exact h
        have HOK := hide hok
        clear hnm hfi hok
        cases hp : e0.par with
        | some p =>
          have hep : ∃ ep, σ.el? p = some ep ∧ 0 ≤ posN ep.kids (Nd.isEl i) ∧ fosterAt i σ = .ok (p, (posN ep.kids (Nd.isEl i)).toNat) σ := by
            have hk := HOK.out
            unfold fosterAt at hk ⊢
            rw [HHI.out] at hk ⊢
            simp only [hp] at hk ⊢
            cases hq : σ.el? p with
            | none => rw [hq] at hk; simp [Res.isOk] at hk
            | some ep =>
              simp only [hq] at hk ⊢
              by_cases hps : 0 ≤ posN ep.kids (Nd.isEl i)
              · exact ⟨ep, rfl, hps, by rw [if_pos hps]⟩
              · rw [if_neg hps] at hk; simp [Res.isOk] at hk
          obtain ⟨ep, hep, hps, hfa⟩ := hep
          have CF := hide (t_front_yes HRW.out HHI.out hp hep)
          obtain ⟨q, hq⟩ : ∃ q : Nat, posN ep.kids (Nd.isEl i) = (q : Int) := ⟨(posN ep.kids (Nd.isEl i)).toNat, by omega⟩
          rw [hq] at CF hfa
          have HFA : Hid (fosterAt i σ = .ok (p, q) σ) := hide (by rw [hfa]; rfl)
          clear hep hps hfa hq hp
          gi_wp2_with fail
          refine ⟨trivial, (CallsIn.inRound l (callsIn_wide.2 CF.out)).mono ?_⟩
          rintro e W2 ⟨rfl, hrel2, hk2⟩
          have b3' := hk2.at B3.out (by simp)
          have d0 : W2.cell? ⟨w.heap.size + 1, 0, none⟩ = some (.pointer none) := by rw [cell_at b3']; rfl
          have d1 : W2.cell? ⟨w.heap.size + 1, 1, none⟩ = some (.int .i64 0) := by rw [cell_at b3']; rfl
          have g0 := free_at b3' 0
          have g1 := free_at b3' 1
          have hl3 : w.heap.size + 1 < W2.heap.size := lt_of_block b3'
          have HB3 := hide b3'
          have HK2 := hide hk2
          clear hrel2 hk2 b3'
          gi_wp2
          obtain ⟨t1, t2, t3⟩ := place_fin HK2.out HK.out (Nat.le_succ _) HB3.out (.pointer (some ⟨L.at' p, 0, none⟩)) (.int .i64 (q : Int)) (.cells #[.pointer (some ⟨L.at' p, 0, none⟩), .int .i64 (q : Int)] 235 (0, 0))
          exact ⟨t1, rfl, t2, pre, i, (p, q), rfl, B5.out, HG.out, HFA.out, t3⟩
        | none =>
          have hep : ∃ q e, getAt σ.opn (posOf σ.opn (some i) - 1) = some q ∧ σ.el? q = some e ∧ fosterAt i σ = .ok (q, e.kids.length) σ := by
            have hk := HOK.out
            unfold fosterAt at hk ⊢
            rw [HHI.out] at hk ⊢
            simp only [hp] at hk ⊢
            cases hq : getAt σ.opn (posOf σ.opn (some i) - 1) with
            | none => rw [hq] at hk; simp [Res.isOk] at hk
            | some q =>
              simp only [hq] at hk ⊢
              unfold endOf at hk ⊢
              cases hq2 : σ.el? q with
              | none => rw [hq2] at hk; simp [Res.isOk] at hk
              | some e => exact ⟨q, e, rfl, hq2, by simp⟩
          obtain ⟨q, eq, hgq, heq2, hfa⟩ := hep
          have CF := hide (t_front_no HRW.out HHI.out hp)
          have HFA := hide hfa
          have CAH := hide (fun (W' : World) (hk : Kept [] W W') => (show Calls Tryz.prog 246 #[.pointer (some ⟨E.bB, 188, none⟩), .pointer (some ⟨L.at' i, 0, none⟩)] W' (fun e w' => e = .returned (.pointer (some ⟨L.at' q, 0, none⟩)) ∧ w' = W') from by
            have := o_rightAhead (HRW.out.kept0 hk) (some i) (by show (σ.el? i).isSome = true; rw [HHI.out]; rfl)
            rw [hgq] at this
            exact this))
          have CE := hide (fun (W' : World) (hk : Kept [] W W') => t_end (HRW.out.kept0 hk) heq2)
          clear hfa hgq heq2 hp
          gi_wp2_with fail
          refine ⟨trivial, (CallsIn.inRound l (callsIn_wide.2 CF.out)).mono ?_⟩
          rintro e W2 ⟨rfl, hrel2, hk2⟩
          have hk3 : Kept [] W (W2.alloc (.cells #[.pointer none, .int .i64 0] 235 (0, 0))) := hk2.alloc _
          have e1 : W2.cell? ⟨w.heap.size, 0, none⟩ = some (Bp E) := by rw [cell_at (hk2.at B2.out (by simp))]; rfl
          have hlw : w.heap.size < W2.heap.size := lt_of_block (hk2.at B2.out (by simp))
          have HK3 := hide hk3
          clear hrel2 hk2 hk3
          gi_wp2_with fail
          refine ⟨trivial, (CallsIn.inRound l (callsIn_wide.2 (CAH.out _ HK3.out))).mono ?_⟩
          rintro e W3 ⟨rfl, rfl⟩
          gi_wp2_with fail
          refine ⟨trivial, (CallsIn.inRound l (callsIn_wide.2 (CE.out _ HK3.out))).mono ?_⟩
          rintro e W4 ⟨rfl, hrel4, hk4⟩
          have hk5 := HK3.out.trans hk4
          have b3' := hk5.at B3.out (by simp)
          have d0 : W4.cell? ⟨w.heap.size + 1, 0, none⟩ = some (.pointer none) := by rw [cell_at b3']; rfl
          have d1 : W4.cell? ⟨w.heap.size + 1, 1, none⟩ = some (.int .i64 0) := by rw [cell_at b3']; rfl
          have g0 := free_at b3' 0
          have g1 := free_at b3' 1
          have HB3 := hide b3'
          have HK5 := hide hk5
          clear hrel4 hk4 hk5 b3'
          gi_wp2
          obtain ⟨t1, t2, t3⟩ := place_fin0 HK5.out HK.out (Nat.le_succ _) HB3.out (.pointer (some ⟨L.at' q, 0, none⟩)) (.int .i64 (eq.kids.length : Int))
          exact ⟨t1, rfl, t2, pre, i, (q, eq.kids.length), rfl, B5.out, HG.out, HFA.out, t3⟩
  case done =>
    rintro D W hD ⟨h1, h2, h3, h4, h5⟩ hK
    have hfin : ∃ q e, getAt σ.opn 0 = some q ∧ σ.el? q = some e ∧ pl0 = (q, e.kids.length) := by
      have hq := hpl0
      unfold fosterPlace at hq
      rw [if_pos htab, foster_done h5] at hq
      simp only at hq
      cases hg : getAt σ.opn 0 with
      | none => rw [hg] at hq; cases hq
      | some q =>
        rw [hg] at hq
        simp only at hq
        unfold endOf at hq
        cases he : σ.el? q with
        | none => rw [he] at hq; cases hq
        | some e => rw [he] at hq; cases hq; exact ⟨q, e, rfl, he, rfl⟩
    obtain ⟨q, eq, hgq, heq2, rfl⟩ := hfin
    have c2 : W.cell? ⟨wa.heap.size, 0, none⟩ = some (.pointer (some ⟨L.at' q, 0, none⟩)) := by rw [cell_at h4, hgq]; rfl
    have CE := hide (t_end (HRl.out.kept0 h1) heq2)
    have HK := hide h1
    have B3 := hide h3
    have HD := hide hD
    clear h1 h2 h3 h4 h5 hD hgq heq2
    gi_wp2_with fail
    refine ⟨trivial, (callsIn_wide.2 CE.out).mono ?_⟩
    rintro e W4 ⟨rfl, hrel4, hk4⟩
    have b3' := hk4.at B3.out (by simp)
    have d0 : W4.cell? ⟨w.heap.size + 1, 0, none⟩ = some (.pointer none) := by rw [cell_at b3']; rfl
    have d1 : W4.cell? ⟨w.heap.size + 1, 1, none⟩ = some (.int .i64 0) := by rw [cell_at b3']; rfl
    have g0 := free_at b3' 0
    have g1 := free_at b3' 1
    have hK4 := (hk4.block D (Array.getElem?_eq_some_iff.1 hK).1 (by simp)).trans hK
    obtain ⟨t1, t2, t3⟩ := place_fin0 hk4 HK.out (Nat.le_succ _) b3' (.pointer (some ⟨L.at' q, 0, none⟩)) (.int .i64 (eq.kids.length : Int))
    have T2 := hide t2
    have T3 := hide t3
    have HB3 := hide b3'
    have HK4 := hide hK4
    have hK5 := ((((Kept.refl [w.heap.size + 1] W4).setCell (p := ⟨w.heap.size + 1, 0, none⟩) (.inl (by simp)) (.pointer (some ⟨L.at' q, 0, none⟩))).setCell (p := ⟨w.heap.size + 1, 1, none⟩) (.inl (by simp)) (.int .i64 (eq.kids.length : Int))).block D (Array.getElem?_eq_some_iff.1 hK4).1 (by have := HZ.out; have := HD.out; simp; omega)).trans hK4
    have HK5 := hide hK5
    clear hrel4 hk4 b3' t1 t2 t3 hK4 hK5
    gi_wp2
    refine ⟨by simp, .inl ⟨_, _, rfl, run_takeDeferred HK5.out, ?_⟩⟩
    have hz1 := HZ.out
    have hD := HD.out
    have hbz : (World.putObj _ D (.deferred none)).heap[w.heap.size + 1]? = _ := (World.putObj_heap_other (by omega)).trans T3.out
    have hkz := T2.out.take (D := D) (by omega) (.deferred none)
    refine ⟨pV L.at' (q, eq.kids.length), ?_, rfl, ⟨L, rfl, HRl.out.kept0 hkz⟩, .of_kept0 hkz, Nat.le_refl _⟩
    simp [results, Tryz.results267, asAddr, Result.andThen, go_sem, cell_at hbz]
  case stopx =>
    rintro D c pre W hD hpre ⟨rfl, h1, pre', i, pl, rfl, h3, h4, h5, h6⟩ hK
    have hfin : pl0 = pl := by
      obtain ⟨rest, hrest⟩ := hpre
      have hq := hpl0
      unfold fosterPlace at hq
      rw [if_pos htab, ← hrest, foster_stop h4 h3] at hq
      simp only at hq
      rw [h5] at hq
      cases hq; rfl
    subst hfin
    have HK := hide h1
    have T3 := hide h6
    have HD := hide hD
    clear h1 h3 h4 h5 h6 hD hpre
    gi_wp2
    refine ⟨by simp, .inl ⟨_, _, rfl, run_takeDeferred hK, ?_⟩⟩
    have hz1 := HZ.out
    have hD := HD.out
    have hbz : (World.putObj _ D (.deferred none)).heap[w.heap.size + 1]? = _ := (World.putObj_heap_other (by omega)).trans T3.out
    have hkz := HK.out.take (D := D) (by omega) (.deferred none)
    refine ⟨pV L.at' pl0, ?_, rfl, ⟨L, rfl, HRl.out.kept0 hkz⟩, .of_kept0 hkz, Nat.le_refl _⟩
    simp [results, Tryz.results267, asAddr, Result.andThen, go_sem, cell_at hbz]
end Go.Proofs.YtlhhgenpcjjajaaGreatDoor
namespace Go.Proofs.YtlhhgenpcjjajaaGreatDoor
open Go.RowKit
def plainRm (rec : Nat → ATok → M Unit) : Ru → ATok → M Unit
  | .nothing, _ => Pure.pure ()
  | .meth f, t => if f = 101 then startWithoutDoctype rec t else if f = 104 then impliedHTML rec t else if f = 108 then impliedHead rec t
    else if f = 114 then impliedEndOfHead rec t else if f = 117 then impliedBody rec t else if f = 120 then charInBody t else stuck
  | _, _ => stuck
set_option maxHeartbeats 1000000 in
theorem nothing_p (E : Env) (t : ATok) : RuleDoes E .nothing t (Pure.pure ()) := by
  intro v f σ w h hv hs
  refine ⟨97, #[], #[], hv, enters_of Tryz.func97 (by kernel_rfl) rfl, ?_⟩
  have H := hide (At.start h)
  clear h hv hs
  show Calls Tryz.prog 97 #[tokV E t] w _
  generalize tokV E t = tv
  go_enter Tryz.func97, Tryz.ntmps97
  go_wp2
  go_end0
  exact leaves_ok rfl H.out rfl
theorem meth_p (E : Env) (t : ATok) (k : Nat) (m : M Unit) (hk : ∀ args w, (callFunc k args).run Tryz.prog w = .ok (.enter k args) w) (h : Does E k (fun _ => #[Bp E, tokV E t]) m uV) : RuleDoes E (.meth k) t m := by
  intro v f σ w hr hv hs
  exact ⟨k, #[ptrv E.bB], #[], hv, hk, h f σ w hr hs⟩
theorem stuck_p (E : Env) (r : Ru) (t : ATok) : RuleDoes E r t stuck := fun _ _ _ _ _ _ hs => absurd rfl hs
theorem plainRm_p (E : Env) (rec : Nat → ATok → M Unit) (hA : ∀ (m : Nat) (t : ATok), TokOk E t → Does E 171 (fun _ => #[Bp E, .int .i64 (m : Int), tokV E t]) (rec m t) uV) (r : Ru) (t : ATok) (ht : TokOk E t) : RuleDoes E r t (plainRm rec r t) := by
  cases r with
  | nothing => exact nothing_p E t
  | meth f =>
    show RuleDoes E (.meth f) t (if f = 101 then startWithoutDoctype rec t else if f = 104 then impliedHTML rec t else if f = 108 then impliedHead rec t
      else if f = 114 then impliedEndOfHead rec t else if f = 117 then impliedBody rec t else if f = 120 then charInBody t else stuck)
    split
    · rename_i e; subst e; exact meth_p E t _ _ (enters_of Tryz.func101 (by kernel_rfl) rfl) (startWithoutDoctype_p E rec hA t ht)
    split
    · rename_i e; subst e; exact meth_p E t _ _ (enters_of Tryz.func104 (by kernel_rfl) rfl) (impliedHTML_p E rec hA t ht)
    split
    · rename_i e; subst e; exact meth_p E t _ _ (enters_of Tryz.func108 (by kernel_rfl) rfl) (impliedHead_p E (foster_ok E) rec hA t ht)
    split
    · rename_i e; subst e; exact meth_p E t _ _ (enters_of Tryz.func114 (by kernel_rfl) rfl) (impliedEndOfHead_p E rec hA t ht)
    split
    · rename_i e; subst e; exact meth_p E t _ _ (enters_of Tryz.func117 (by kernel_rfl) rfl) (impliedBody_p E (foster_ok E) rec hA t ht)
    split
    · rename_i e; subst e; exact meth_p E t _ _ (enters_of Tryz.func120 (by kernel_rfl) rfl) (charInBody_p E (foster_ok E) t)
    · exact stuck_p E _ t
  | nil => exact stuck_p E _ t
  | asIn m => exact stuck_p E _ t
  | comment p o => exact stuck_p E _ t
  | ahead f => exact stuck_p E _ t
  | ends f => exact stuck_p E _ t
  | ifT r => exact stuck_p E _ t
  | starts ks m => exact stuck_p E _ t
  | implies ks n m => exact stuck_p E _ t
  | item ks => exact stuck_p E _ t
end Go.Proofs.YtlhhgenpcjjajaaGreatDoor
namespace Go.Proofs.YtlhhgenpcjjajaaGreatDoor
open Go.RowKit
def S0 (d f l a : Nat) : Ab := { nodes := [.el ⟨⟨#[]⟩, [], none, []⟩], opn := [], act := [], head := none, form := none, mode := 0, kept := 0, waiting := [], fostering := false, quirks := false, at' := a, behind := false, ofT := ⟨#[]⟩, plainT := false, fresh := false, dep := d, frm := f, atl := l }
def kidsB : Option ByteArray → List Nd
  | none => []
  | some _ => [.tx 4]
def txB : Option ByteArray → List ANd
  | none => []
  | some s => [.tx s]
def SB (d f l a : Nat) (s : Option ByteArray) : Ab := { nodes := [.el ⟨⟨#[]⟩, [], none, [.el 1]⟩, .el ⟨(⟨#[104, 116, 109, 108]⟩ : ByteArray), [], some 0, [.el 2, .el 3]⟩, .el ⟨(⟨#[104, 101, 97, 100]⟩ : ByteArray), [], some 1, []⟩, .el ⟨(⟨#[98, 111, 100, 121]⟩ : ByteArray), [], some 1, kidsB s⟩] ++ txB s, opn := [some 1, some 3], act := [], head := some 2, form := none, mode := 6, kept := 0, waiting := [], fostering := false, quirks := true, at' := a, behind := false, ofT := ⟨#[]⟩, plainT := false, fresh := false, dep := d, frm := f, atl := l }
theorem asM_at (rm : Ru → ATok → M Unit) (m : Nat) (t : ATok) (sp : RSpec) (h : specs[m]? = some sp) (r : Ru) (hr : ruleOf sp t = r) : asM rm m t = rm r t := by
  unfold asM; rw [h, ← hr]
theorem M.tail_run (g : M Unit) (σ : Ab) : (g >>= fun _ => (Pure.pure () : M Unit)) σ = g σ := by
  rw [M.bind_run]; cases g σ <;> rfl
def SH (d f l a : Nat) : Ab := { S0 d f l a with nodes := [.el ⟨⟨#[]⟩, [], none, [.el 1]⟩, .el ⟨(⟨#[104, 116, 109, 108]⟩ : ByteArray), [], some 0, []⟩], opn := [some 1], quirks := true, mode := 2 }
def SD (d f l a : Nat) : Ab := { S0 d f l a with nodes := [.el ⟨⟨#[]⟩, [], none, [.el 1]⟩, .el ⟨(⟨#[104, 116, 109, 108]⟩ : ByteArray), [], some 0, [.el 2]⟩, .el ⟨(⟨#[104, 101, 97, 100]⟩ : ByteArray), [], some 1, []⟩], opn := [some 1, some 2], head := some 2, quirks := true, mode := 3 }
def SE (d f l a : Nat) : Ab := { S0 d f l a with nodes := [.el ⟨⟨#[]⟩, [], none, [.el 1]⟩, .el ⟨(⟨#[104, 116, 109, 108]⟩ : ByteArray), [], some 0, [.el 2]⟩, .el ⟨(⟨#[104, 101, 97, 100]⟩ : ByteArray), [], some 1, []⟩], opn := [some 1], head := some 2, quirks := true, mode := 4 }
theorem u0 (d f l a : Nat) (g : Nat → ATok → M Unit) (t : ATok) : startWithoutDoctype g t (S0 d f l a) = g 1 t { S0 d f l a with quirks := true, mode := 1 } := M.tail_run (takeM g t) { S0 d f l a with quirks := true, mode := 1 }
theorem u1 (d f l a : Nat) (g : Nat → ATok → M Unit) (t : ATok) : impliedHTML g t { S0 (d + 4) f l a with quirks := true, mode := 1 } = g 2 t (SH (d + 4) f l a) := by
  have e : openHTML false [] { S0 (d + 4) f l a with quirks := true, mode := 1 } = .ok () (SH (d + 4) f l a) := rfl
  unfold impliedHTML
  rw [M.bind_run, e]
  exact M.tail_run (takeM g t) _
theorem u2 (d f l a : Nat) (g : Nat → ATok → M Unit) (t : ATok) : impliedHead g t (SH (d + 4) f l a) = g 3 t (SD (d + 4) f l a) := by
  have e : openHead false [] (SH (d + 4) f l a) = .ok () (SD (d + 4) f l a) := rfl
  unfold impliedHead
  rw [M.bind_run, e]
  exact M.tail_run (takeM g t) _
theorem u3 (d f l a : Nat) (g : Nat → ATok → M Unit) (t : ATok) : impliedEndOfHead g t (SD (d + 4) f l a) = g 4 t (SE (d + 4) f l a) := by
  have e : endHead (SD (d + 4) f l a) = .ok () (SE (d + 4) f l a) := rfl
  unfold impliedEndOfHead
  rw [M.bind_run, e]
  exact M.tail_run (takeM g t) _
theorem u4 (d f l a : Nat) (g : Nat → ATok → M Unit) (t : ATok) : impliedBody g t (SE (d + 4) f l a) = g 6 t (SB (d + 4) f l a none) := by
  have e : insertNamed (⟨#[98, 111, 100, 121]⟩ : ByteArray) (SE (d + 4) f l a) = .ok () { SB (d + 4) f l a none with mode := 4 } := rfl
  unfold impliedBody
  rw [M.bind_run, e]
  exact M.tail_run (takeM g t) _
def appO : Option ByteArray → ByteArray → ByteArray
  | none, s => s
  | some u, s => u ++ s
end Go.Proofs.YtlhhgenpcjjajaaGreatDoor
namespace Go.Proofs.YtlhhgenpcjjajaaGreatDoor
open Go.RowKit Go.Extern.Stop Go.Stop Go.Extern
end Go.Proofs.YtlhhgenpcjjajaaGreatDoor
namespace Go.Proofs.YtlhhgenpcjjajaaGreatDoor
open Go.RowKit Go.Extern.Stop Go.Stop Go.Extern
end Go.Proofs.YtlhhgenpcjjajaaGreatDoor
namespace Go.Proofs.YtlhhgenpcjjajaaGreatDoor
open Go.RowKit Go.Extern.Stop Go.Stop Go.Extern
end Go.Proofs.YtlhhgenpcjjajaaGreatDoor
namespace Go.Proofs.YtlhhgenpcjjajaaGreatDoor
open Go.RowKit Go.Extern.Stop Go.Stop Go.Extern
end Go.Proofs.YtlhhgenpcjjajaaGreatDoor
namespace Go.Proofs.YtlhhgenpcjjajaaGreatDoor
open Go.RowKit Go.Extern.Stop Go.Stop Go.Extern
def errorType (w : World) : Prop := w.cell? ⟨0, 0, none⟩ = some (.iface 145 (.agg #[.pointer (some ⟨7, 59, none⟩)]))
end Go.Proofs.YtlhhgenpcjjajaaGreatDoor
namespace Go.Proofs.YtlhhgenpcjjajaaGreatDoor
open Go.RowKit
section
variable {P : Program} {ops : Array Oper} {Q : Exit → Act → World → Prop} {md : Region.Mode}
end
end Go.Proofs.YtlhhgenpcjjajaaGreatDoor
namespace Go.Proofs.YtlhhgenpcjjajaaGreatDoor
open Go.RowKit Go.Extern.Stop Go.Stop Go.Extern
set_option maxHeartbeats 400000 in
theorem told_nil (w : World) :
    Calls Tryz.prog 26 #[.nilIface] w fun e w' => e = .returned (.tuple #[.int .i64 0, .int .i64 0]) ∧ Kept [] w w' := by
  go_enter Tryz.func26, Tryz.ntmps26
  go_wp2
  go_ret2
  exact ⟨rfl, ((Kept.refl _ _).alloc _).alloc _⟩
end Go.Proofs.YtlhhgenpcjjajaaGreatDoor
namespace Go.Proofs.YtlhhgenpcjjajaaGreatDoor
open Go.RowKit Go.Extern.Stop Go.Stop Go.Extern
def xcells (a : Int × Int × Int) (tv : Value) : Array Value := #[.int .i64 a.1, .int .i64 a.2.1, .int .i64 a.2.2, tv, .bool false, .int .i64 0, .nilIface, .slice none 0 0, .pointer none]
def limits (d f a : Int) : Prop := 4 ≤ d ∧ d ≤ 64 ∧ 1 ≤ f ∧ f ≤ 32 ∧ 1 ≤ a ∧ a ≤ 16
set_option maxHeartbeats 400000 in
theorem hnew_ok (d f a : Int) (w : World) (h : limits d f a) :
    Calls Tryz.prog 25 #[.int .i64 d, .int .i64 f, .int .i64 a] w fun e w' => e = .returned (.tuple #[.pointer (some ⟨w.heap.size, 0, none⟩), .nilIface]) ∧ w' = w.alloc (.cells (xcells (d, f, a) (.slice none 0 0)) 76) := by
  obtain ⟨h1, h2, h3, h4, h5, h6⟩ := h
  go_enter Tryz.func25, Tryz.ntmps25
  go_wp2
  go_ret2
  exact ⟨rfl, rfl⟩
set_option maxHeartbeats 400000 in
theorem pnew_ok (d f a : Int) (w : World) (h : limits d f a) :
    Calls Tryz.prog 14 #[.int .i64 d, .int .i64 f, .int .i64 a] w fun e w' => e = .returned (.tuple #[.pointer (some ⟨w.heap.size, 0, none⟩), .int .i64 0]) ∧ w'.heap[w.heap.size]? = some (.cells (xcells (d, f, a) (.slice none 0 0)) 76 (0, 0)) ∧ Kept [] w w' := by
  go_enter Tryz.func14, Tryz.ntmps14
  go_wp2_with fail
  refine (hnew_ok d f a _ h).mono ?_
  rintro e w1 ⟨rfl, rfl⟩
  go_wp2_with fail
  refine (told_nil _).mono ?_
  rintro e w2 ⟨rfl, hk⟩
  have K2 : Kept [] w w2 := ((Kept.refl _ _).alloc _).next hk (by simp)
  have h2 := hk.at (heap_alloc_at w _) (by simp)
  clear hk
  have H2 : Hid _ := h2
  clear h2
  go_wp2
  go_ret2
  exact ⟨rfl, H2.out, K2⟩
end Go.Proofs.YtlhhgenpcjjajaaGreatDoor
namespace Go.Proofs.YtlhhgenpcjjajaaGreatDoor
open Go.RowKit Go.Extern.Stop Go.Stop Go.Extern
theorem info_u8 : (Tryz.prog.info? 5).map (fun i => (i.zero, i.size, i.bytes)) = some (some (.int .u8 0), 1, 1) := by kernel_rfl
set_option maxHeartbeats 400000 in
theorem isClosed_no (bx : Nat) (a : Int × Int × Int) (tv : Value) (w : World) (hx : w.heap[bx]? = some (.cells (xcells a tv) 76 (0, 0))) :
    Calls Tryz.prog 37 #[.pointer (some ⟨bx, 0, none⟩)] w fun e w' => e = .returned (.bool false) ∧ w' = w := by
  have c2 : w.cell? ⟨bx, 4, none⟩ = some (.bool false) := by rw [cell_at hx]; rfl
  clear hx
  go_enter Tryz.func37, Tryz.ntmps37
  go_wp2
  go_ret
  exact ⟨rfl, rfl⟩
set_option maxHeartbeats 1000000 in
set_option maxRecDepth 100000 in
theorem xwrite_ok (bx g c : Nat) (a : Int × Int × Int) (tv : Value) (s t : ByteArray) (base : Nat) (w : World) (hx : w.heap[bx]? = some (.cells (xcells a tv) 76 (0, 0)))
    (ho : w.ownsRow base 5 1 tv s.size (bcells s)) (ht : ∀ j u, (bcells t)[j]? = some u → w.cell? ⟨g, j, none⟩ = some u) (hl : s.size + t.size ≤ 1024) (hb : base ≤ w.heap.size) :
    Calls Tryz.prog 27 #[.pointer (some ⟨bx, 0, none⟩), .slice (some ⟨g, 0, none⟩) t.size c] w fun e w' => e = .returned (.tuple #[.int .i64 t.size, .nilIface]) ∧
      ∃ tv', w'.heap[bx]? = some (.cells (xcells a tv') 76 (0, 0)) ∧ w'.ownsRow base 5 1 tv' (s ++ t).size (bcells (s ++ t)) ∧ Kept (bx :: tv.ownBlock.toList) w w' ∧ (tv'.ownBlock = tv.ownBlock ∨ ∀ k, tv'.ownBlock = some k → w.heap.size ≤ k) := by
  obtain ⟨i0, hi, hz0, hz1, hz2⟩ := info_parts info_u8
  have c1 : w.cell? ⟨bx, 3, none⟩ = some tv := by rw [cell_at hx]; rfl
  have hsh : ∃ ao cap, tv = .slice ao s.size cap := by
    rcases ho.2 with ⟨rfl, h0⟩ | ⟨g, cap, cur, rfl, _⟩
    · exact ⟨_, _, by rw [h0]⟩
    · exact ⟨_, _, rfl⟩
  obtain ⟨ao, cap, rfl⟩ := hsh
  have H0 : Hid _ := hx
  have HO : Hid _ := ho
  have HT : Hid _ := ht
  clear hx ho ht
  go_enter Tryz.func27, Tryz.ntmps27
  go_wp2_with fail
  refine (isClosed_no bx a _ _ H0.out).mono ?_
  rintro e w1 ⟨rfl, rfl⟩
  go_wp2_with (at_builtin; refine wpList_append_ownF _ rfl _ _ 55 rfl base 5 i0 (.int .u8 0) 1 1 Tryz.underlying55 hi hz0 hz1 hz2 rfl (by decide) _ _ _ rfl HO.out ⟨g, 0, none⟩ t.size c (bcells t) rfl ?c1 ?c2 ?c3 ?c4 ?c5 hb ?_)
  case c1 => rw [bcells_length, Nat.mul_one]
  case c2 => exact fun j u h => by rw [addr_add]; exact HT.out j u h
  case c3 => exact bcells_one t
  case c4 => unfold maxLen; omega
  case c5 => omega
  intro v' w2 hown' hgrow hfr
  obtain ⟨ao', cap', hv⟩ := owns_shape hown'
  subst hv
  have hne : ∀ k, (Value.slice ao s.size cap).ownBlock = some k → k ≠ bx := by
    intro k hk
    rcases HO.out.2 with ⟨h, _⟩ | ⟨g', cap', cur, h, _, hc, _⟩
    · rw [h] at hk; cases hk
    · rw [h] at hk
      obtain rfl := Option.some.inj hk
      exact block_ne hc H0.out (by decide)
  have h2 : w2.heap[bx]? = some (.cells (xcells a (.slice ao s.size cap)) 76 (0, 0)) := by
    rw [hgrow.block bx (lt_of_block H0.out) (fun h => hne bx h.symm rfl)]; exact H0.out
  have d1 : w2.cell? ⟨bx, 3, none⟩ = some (.slice ao s.size cap) := by rw [cell_at h2]; rfl
  have d2 := free_at h2 3
  have h3 := block_setCell h2 3 (.slice ao' (s.size + t.size) cap')
  have h4 : (w2.setCell ⟨bx, 3, none⟩ (.slice ao' (s.size + t.size) cap')).ownsRow base 5 1 (.slice ao' (s.size + t.size) cap') (s ++ t).size (bcells (s ++ t)) := by
    have hsz : (s ++ t).size = s.size + t.size := ByteArray.size_append
    rw [hsz, bcells_append]
    refine ownsRow_setCell_other hown' ?_ _
    intro hk
    rcases hown'.2 with ⟨h, _⟩ | ⟨g', cap', cur, h, _, hc, _⟩
    · rw [h] at hk; cases hk
    · rw [h] at hk
      obtain rfl := Option.some.inj hk
      exact block_ne hc h2 (by decide) rfl
  have h5 : Kept (bx :: (Value.slice ao s.size cap).ownBlock.toList) w1 (w2.setCell ⟨bx, 3, none⟩ (.slice ao' (s.size + t.size) cap')) :=
    ((Kept.refl _ _).grown hgrow (fun k hk => .inl (by simp [hk]))).setCell (.inl (by simp)) _
  have H3 : Hid _ := h3
  have H4 : Hid _ := h4
  have HF : Hid _ := hfr
  clear h3 h4 h2 hown' hgrow hfr hne c1
  go_wp2
  go_ret2
  exact ⟨rfl, _, H3.out, H4.out, h5, HF.out⟩
end Go.Proofs.YtlhhgenpcjjajaaGreatDoor
namespace Go.Proofs.YtlhhgenpcjjajaaGreatDoor
open Go.RowKit Go.Extern.Stop Go.Stop Go.Extern
theorem bcells_at (t : ByteArray) (j : Nat) (u : Value) (h : (bcells t)[j]? = some u) : ∃ hj : j < t.data.size, u = .int .u8 (t.data[j].toNat : Int) := by
  unfold bcells at h
  rw [List.getElem?_map] at h
  obtain ⟨b, hb, rfl⟩ := Option.map_eq_some_iff.1 h
  obtain ⟨hj, rfl⟩ := List.getElem?_eq_some_iff.1 hb
  exact ⟨by simpa using hj, by simp⟩
theorem bytesRow_cells (t : ByteArray) (cap j : Nat) (u : Value) (h : (bcells t)[j]? = some u) : (bytesRow t cap)[j]? = some u := by
  obtain ⟨hj, rfl⟩ := bcells_at t j u h
  exact bytesRow_at t cap j hj
theorem bytesRow_size (t : ByteArray) (cap : Nat) : t.size ≤ (bytesRow t cap).size := by
  have : t.data.size = t.size := rfl
  simp [bytesRow, this]
theorem cell_mark {w : World} {b : Nat} {c : Array Value} {t : TypeId} {m : Nat × Nat} (h : w.heap[b]? = some (.cells c t m)) (j : Nat) : w.cell? ⟨b, j, none⟩ = c[j]? := by simp [World.cell?, h]
theorem free_mark {w : World} {b : Nat} {c : Array Value} {t : TypeId} {n : Nat} (h : w.heap[b]? = some (.cells c t (n, n + 1))) (j : Nat) (hj : j < n) : w.frozen? ⟨b, j, none⟩ = false := by
  simp [World.frozen?, h]; omega
theorem mark_setCell {w : World} {b : Nat} {c : Array Value} {t : TypeId} {m : Nat × Nat} (h : w.heap[b]? = some (.cells c t m)) (j : Nat) (u : Value) : (w.setCell ⟨b, j, none⟩ u).heap[b]? = some (.cells (c.setIfInBounds j u) t m) := by
  have hlt := lt_of_block h
  have h' : w.heap[b] = .cells c t m := by simpa [Array.getElem?_eq_getElem hlt] using h
  show (w.heap.modify b _)[b]? = _
  rw [Array.getElem?_eq_getElem (by simpa using hlt), Array.getElem_modify_self, h']
  rfl
def Turned (g sz bx : Nat) (xc : Array Value) (base n : Nat) (tv : Value) (xs : List Value) (S : List Nat) (w wr : World) : Prop :=
  (∃ C : Array Value, wr.heap[g]? = some (.cells C 5 (sz, sz + 1)) ∧ C.size = sz) ∧ wr.heap[bx]? = some (.cells xc 76 (0, 0)) ∧ wr.ownsRow base 5 1 tv n xs ∧ Kept S w wr
theorem Turned.store {g sz bx : Nat} {xc : Array Value} {base n : Nat} {tv : Value} {xs : List Value} {S : List Nat} {w wr : World} (h : Turned g sz bx xc base n tv xs S w wr) (hg : w.heap.size ≤ g) (hb : bx ≠ g) (ht : tv.ownBlock ≠ some g) (j : Nat) (u : Value) :
    Turned g sz bx xc base n tv xs S w (wr.setCell ⟨g, j, none⟩ u) := by
  obtain ⟨⟨C, hC, hs⟩, hx, ho, hk⟩ := h
  refine ⟨⟨_, mark_setCell hC j u, by simpa using hs⟩, ?_, ownsRow_setCell_other ho ht u, hk.setCell (.inr hg) u⟩
  rw [Below.heap_setCell wr ⟨g, j, none⟩ u bx hb]; exact hx
theorem Turned.cell {g sz bx : Nat} {xc : Array Value} {base n : Nat} {tv : Value} {xs : List Value} {S : List Nat} {w wr : World} (h : Turned g sz bx xc base n tv xs S w wr) (j : Nat) (hj : j < sz) : (∃ v, wr.cell? ⟨g, j, none⟩ = some v) ∧ wr.frozen? ⟨g, j, none⟩ = false := by
  obtain ⟨⟨C, hC, hs⟩, _⟩ := h
  refine ⟨⟨C[j]'(by omega), ?_⟩, free_mark hC j hj⟩
  rw [cell_mark hC]; exact Array.getElem?_eq_getElem (by omega)
set_option maxRecDepth 100000 in
set_option maxHeartbeats 1000000 in
theorem pwrite_ok (bx : Nat) (a : Int × Int × Int) (tv : Value) (s t : ByteArray) (base : Nat) (w : World) (hx : w.heap[bx]? = some (.cells (xcells a tv) 76 (0, 0)))
    (ho : w.ownsRow base 5 1 tv s.size (bcells s)) (hl : s.size + t.size ≤ 1024) (hb : base ≤ w.heap.size) :
    Calls Tryz.prog 15 #[.pointer (some ⟨bx, 0, none⟩), .string t] w fun e w' => e = .returned (.tuple #[.int .i64 t.size, .int .i64 0, .bool true]) ∧
      ∃ tv', w'.heap[bx]? = some (.cells (xcells a tv') 76 (0, 0)) ∧ w'.ownsRow base 5 1 tv' (s ++ t).size (bcells (s ++ t)) ∧ Kept (bx :: tv.ownBlock.toList) w w' ∧ (tv'.ownBlock = tv.ownBlock ∨ ∀ k, tv'.ownBlock = some k → w.heap.size ≤ k) := by
  have hcv := run_bytes_of_string (P := Tryz.prog) w 9 55 5 t Tryz.underlying9 Tryz.underlying55 Tryz.underlying5
  obtain ⟨cp, hcp⟩ : ∃ cp, cp = grownCap w t.size 0 5 := ⟨_, rfl⟩
  rw [← hcp] at hcv
  clear hcp
  have hrz := bytesRow_size t cp
  have hrc := bytesRow_cells t cp
  generalize bytesRow t cp = R at hcv hrz hrc
  obtain ⟨W1, hW1⟩ : ∃ W1, W1 = w.drew.alloc (.cells R 5 (R.size, R.size + 1)) := ⟨_, rfl⟩
  rw [← hW1] at hcv
  have hB : W1.heap[w.heap.size]? = some (.cells R 5 (R.size, R.size + 1)) := by rw [hW1]; exact heap_alloc_at w.drew _
  have K1 : Kept [] w W1 := by rw [hW1]; exact (Kept.refl [] w).drew.alloc _
  have z1 : W1.heap.size = w.heap.size + 1 := by rw [hW1]; show (w.heap.push _).size = _; simp
  clear hW1
  have hbx := lt_of_block hx
  have hol := ho.lt
  have x1 := K1.at hx (by simp)
  have o1 := K1.ownsRow ho (fun _ _ => by simp)
  have C1 := xwrite_ok bx w.heap.size cp a tv s t base W1 x1 o1 (fun j u h => by rw [cell_mark hB]; exact hrc j u h) hl (by omega)
  have HC1 := hide C1
  have HB := hide hB
  have HR := hide hrc
  have HX := hide hol
  have HZ : Hid (W1.heap.size = w.heap.size + 1) := z1
  clear C1 hB hrc hol z1 x1 o1 hx ho
  go_enter Tryz.func15, Tryz.ntmps15
  go_wp2_with fail
  refine HC1.out.mono ?_
  rintro e w2 ⟨rfl, tv', hx2, ho2, hk2, hf2⟩
  clear hcv HC1
  go_wp2_with fail
  refine (told_nil _).mono ?_
  rintro e w3 ⟨rfl, hk3⟩
  have hS : w.heap.size ∉ bx :: tv.ownBlock.toList := by
    simp only [List.mem_cons, Option.mem_toList, not_or]
    exact ⟨by omega, fun h => by have := (HX.out _ h).2; omega⟩
  have hB3 : w3.heap[w.heap.size]? = some (.cells R 5 (R.size, R.size + 1)) := hk3.at (hk2.at HB.out hS) (by simp)
  have hT : Turned w.heap.size R.size bx (xcells a tv') base (s ++ t).size tv' (bcells (s ++ t)) (bx :: tv.ownBlock.toList) w w3 :=
    ⟨⟨R, hB3, rfl⟩, hk3.at hx2 (by simp), hk3.ownsRow ho2 (fun _ _ => by simp), ((K1.mono (by simp)).trans hk2).trans (hk3.mono (by simp))⟩
  have hne : tv'.ownBlock ≠ some w.heap.size := by
    rcases hf2 with h | h
    · rw [h]; intro h'; have := (HX.out _ h').2; omega
    · intro h'; have := h _ h'; have := HZ.out; omega
  have hfin : tv'.ownBlock = tv.ownBlock ∨ ∀ k, tv'.ownBlock = some k → w.heap.size ≤ k := by
    rcases hf2 with h | h
    · exact .inl h
    · exact .inr fun k hk => by have := h k hk; have := HZ.out; omega
  have hback : (convert 55 9 (.slice (some ⟨w.heap.size, 0, none⟩) t.size cp)).run Tryz.prog w3 = .ok (.string t) w3 := by
    have := run_convert_bytes_back (P := Tryz.prog) w3 55 9 5 ⟨w.heap.size, 0, none⟩ cp t.data.toList Tryz.underlying55 Tryz.underlying5 Tryz.underlying9 (fun j hj => by
      rw [addr_add, cell_mark hB3]
      exact HR.out j _ (by unfold bcells; rw [List.getElem?_map, List.getElem?_eq_getElem hj]; rfl))
    simpa using this
  have HT := hide hT
  have HN := hide hne
  have HF := hide hfin
  have HZR := hide hrz
  clear hT hne hfin hf2 hk2 hk3 hx2 ho2 hB3 hS K1 hrz
  go_wp2_with fail
  clear hback
  go_loopw [33] (fun i wr => ∃ k : Nat, k ≤ t.size ∧ i = .int .i64 k ∧ Turned w.heap.size R.size bx (xcells a tv') base (s ++ t).size tv' (bcells (s ++ t)) (bx :: tv.ownBlock.toList) w wr) (fun i _ => t.size - (intOf i).toNat)
  case atStart => exact ⟨0, Nat.zero_le _, rfl, HT.out⟩
  case round =>
    obtain ⟨k, hk, rfl, hT⟩ := hrel
    have HT2 := hide hT
    clear hT
    by_cases hlt : k < t.size
    · obtain ⟨⟨v, hv⟩, hfz⟩ := HT2.out.cell k (by have := HZR.out; omega)
      have HS := hide (HT2.out.store (Nat.le_refl _) (by omega) HN.out k (.int .u8 33))
      go_wp2
      go_roundw
      case rel => exact ⟨k + 1, by omega, by go_num, HS.out⟩
      case measure => simp [intOf]; omega
    · go_wp2
      go_ret3
      exact ⟨rfl, tv', HT2.out.2.1, HT2.out.2.2.1, HT2.out.2.2.2, HF.out⟩
end Go.Proofs.YtlhhgenpcjjajaaGreatDoor
