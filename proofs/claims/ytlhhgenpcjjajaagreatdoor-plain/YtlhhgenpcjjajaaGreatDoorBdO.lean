import Derived.Test.YtlhhgenpcjjajaaGreatDoorBdL
import Derived.Test.YtlhhgenpcjjajaaGreatDoorOfD
set_option linter.unusedSimpArgs false
set_option linter.unusedVariables false
namespace Go.Proofs.YtlhhgenpcjjajaaGreatDoor
open Go.RowKit
attribute [local go_sem] Oper.semAt_some
theorem Kept.both {a w : World} (h : Kept [] a w) {b : Nat} {c : Array Value} {t : TypeId} (hb : a.heap[b]? = some (.cells c t (0, 0))) (j : Nat) (v : Value) : Kept [] (a.setCell ⟨b, j, none⟩ v) (w.setCell ⟨b, j, none⟩ v) := by
  have k1 := (Kept.refl [b] a).setCell (p := ⟨b, j, none⟩) (.inl (by simp)) v
  have k2 := (Kept.refl [b] w).setCell (p := ⟨b, j, none⟩) (.inl (by simp)) v
  have hsa : (a.setCell ⟨b, j, none⟩ v).heap.size = a.heap.size := by simp
  have hsw : (w.setCell ⟨b, j, none⟩ v).heap.size = w.heap.size := by simp
  refine ⟨k2.os.trans (h.os.trans k1.os.symm), k2.tape.trans (h.tape.trans k1.tape.symm), k2.output.trans (h.output.trans k1.output.symm), by rw [hsa, hsw]; exact h.size, fun k hk _ => ?_⟩
  rw [hsa] at hk
  by_cases hkb : k = b
  · subst hkb
    exact (block_setCell (h.at hb (by simp)) j v).trans (block_setCell hb j v).symm
  · rw [k2.block k (Nat.lt_of_lt_of_le hk h.size) (by simpa using hkb), k1.block k hk (by simpa using hkb), h.block k hk (by simp)]
theorem reset_done {σ : Ab} : ∀ {xs : List (Option Nat)}, (∀ y ∈ xs, modeWithin (σ.nmO y) = 6) → resetL σ xs = 6
  | [], _ => rfl
  | x :: xs, h => by
    unfold resetL
    rw [if_pos (h x (by simp))]
    exact reset_done fun y hy => h y (by simp [hy])
theorem reset_stop {σ : Ab} {y : Option Nat} {rest : List (Option Nat)} (hr : modeWithin (σ.nmO y) ≠ 6) : ∀ {xs : List (Option Nat)}, (∀ y ∈ xs, modeWithin (σ.nmO y) = 6) → resetL σ (xs ++ [y] ++ rest) = modeWithin (σ.nmO y)
  | [], _ => by
    show resetL σ (y :: rest) = _
    unfold resetL
    rw [if_neg hr]
  | x :: xs, h => by
    show resetL σ (x :: (xs ++ [y] ++ rest)) = _
    unfold resetL
    rw [if_pos (h x (by simp))]
    exact reset_stop hr fun y hy => h y (by simp [hy])
set_option maxRecDepth 100000 in
set_option maxHeartbeats 4000000 in
theorem reset_m {E : Env} {f : Nat → Nat} {σ : Ab} {w : World} (h : RF E f σ w) :
    Calls Tryz.prog 230 #[Bp E] w (MLeaves E f σ.nodes.length w (resetM σ) uV) := by
  obtain ⟨L, rfl, hr⟩ := h
  refine (callsIn_wide (n := 3)).1 ?_
  refine callsIn_of_wp_marks Tryz.func230 rfl trivial ?_ rfl
  simp only [Tryz.ntmps230, List.size_toArray, List.length_cons, List.length_nil, Nat.reduceAdd, Nat.reduceSub, Array.replicate_succ, Array.replicate_zero, List.push_toArray, List.append_toArray, List.nil_append, List.cons_append]
  have hl1 := hr.lt
  have cm := hr.c192
  have fm := hr.free 192
  have hrS := hr.set_mode 6
  have hfS : Fr E.bs w (w.setCell ⟨E.bB, 192, none⟩ (.int .i64 ((6 : Nat) : Int))) := (At.start ⟨L, rfl, hr⟩).fset 192 _
  obtain ⟨w1, hw1⟩ : ∃ w1, w1 = (w.setCell ⟨E.bB, 192, none⟩ (.int .i64 6)).alloc (.cells #[Bp E] 121 (0, 0)) := ⟨_, rfl⟩
  have hk1 : Kept [] (w.setCell ⟨E.bB, 192, none⟩ (.int .i64 6)) w1 := by rw [hw1]; exact (Kept.refl _ _).alloc _
  have b0 : w1.heap[w.heap.size]? = some (.cells #[Bp E] 121 (0, 0)) := by
    rw [hw1]
    have := heap_alloc_at (w.setCell ⟨E.bB, 192, none⟩ (.int .i64 6)) (.cells #[Bp E] 121 (0, 0))
    simpa using this
  have hz1 : w1.heap.size = w.heap.size + 1 := by rw [hw1]; simp
  have hr1 := hrS.kept0 hk1
  obtain ⟨C, hL, hC⟩ := hr1.lstO
  have HL := hide hL
  have HU := hide (l_up E.bs E.bB 188 _ C _ _ w1 hL)
  have HO := hide (fun g (hg : L.ov.ownBlock = some g) => row_lt hr.orow hg)
  have HN := hide (fun (W : World) (hk : Kept [] w1 W) (i : Nat) (e : AEl) (hi : σ.el? i = some e) => (show W.cell? ⟨L.at' i, 0, none⟩ = some (.string (σ.nm i)) from (hr1.kept0 hk).nameAt (σ := { σ with mode := 6 }) hi))
  have HS := hide (fun (y : Option Nat) (hy : y ∈ σ.opn) => hr.opn_some hy)
  have HI := hide hr.inj
  have HM := hide (fun (W : World) (hk : Kept [] w1 W) => (⟨(hr1.kept0 hk).c192, (hr1.kept0 hk).free 192, (hr1.kept0 hk).lt⟩ : _ ∧ _ ∧ _))
  have HR1 := hide hr1
  have HFR := hide (hfS.trans (.of_kept0 hk1))
  have HBK := hide hL.blk
  have HSZ := hide (hr.fr.size)
  clear hr hr1 hC hL hrS hfS hk1
  have HZ := hide hz1
  have HW := hide hw1
  clear hz1 hw1
  gi_wp2_with fail
  rw [← HW.out]
  refine ⟨trivial, (callsIn_wide.2 HU.out).mono ?_⟩
  rintro e w' ⟨rfl, rfl⟩
  gi_wp2
  refine wpIn_up2 (by omega) (f := omap L.at') (fun x y e => omap_inj HI.out e) HL.out (by rfl) [] [E.bB] (by simp) (by intro k hk; have := List.mem_singleton.1 hk; subst this; have := HZ.out; omega)
    (fun pre W => Kept [] w1 W ∧ ∀ y ∈ pre, modeWithin (σ.nmO y) = 6)
    (fun c pre W => c = .ret ∧ ∃ pre' y, pre = pre' ++ [y] ∧ (∀ y ∈ pre', modeWithin (σ.nmO y) = 6) ∧ modeWithin (σ.nmO y) ≠ 6 ∧ Kept [] (w1.setCell ⟨E.bB, 192, none⟩ (.int .i64 (modeWithin (σ.nmO y) : Int))) W)
    ?_ ?_ ?_ (fun x => { tmps := #[Bp E, .pointer (some ⟨w.heap.size, 0, none⟩), enc x, undef, Bp E, .pointer (some ⟨E.bB, 0, none⟩), .pointer (some ⟨E.bB, 192, none⟩), Bp E, .pointer (some ⟨E.bB, 0, none⟩), .pointer (some ⟨E.bB, 188, none⟩), upVal w1.heap.size, enc x, undef, undef, undef, undef, undef, undef, undef, undef, undef, undef, undef], defers := [] }) ?assign ?body ?done ?stop
  · rintro s A B row ⟨h1, h5⟩ hg hr
    exact ⟨kept_grown h1 hg hr (by omega), h5⟩
  · rintro c s A B row ⟨h0, pre', y, h2, h3, h4, h5⟩ hg hr
    exact ⟨h0, pre', y, h2, h3, h4, kept_grown h5 hg hr (by simp)⟩
  · exact ⟨((Kept.refl _ _).alloc _).alloc _, by simp⟩
  case assign =>
    intro l x W K hK
    gi_wp2
    exact hK
  case body =>
    rintro l pre y W hy ⟨h1, h5⟩
    obtain ⟨i, e0, rfl, hi⟩ := HS.out y hy
    have c0 := HN.out W h1 i e0 hi
    have c1 : W.cell? ⟨w.heap.size, 0, none⟩ = some (Bp E) := by rw [cell_at (h1.at b0 (by simp))]; rfl
    obtain ⟨c2, f2, hl2⟩ := HM.out W h1
    have HB := hide (fun W => modeWithin_ok (σ.nm i) W)
    have HK := hide h1
    have B5 := hide h5
    have HT := hide (fun v => (Kept.refl [E.bB] W).setCell (p := ⟨E.bB, 192, none⟩) (.inl (by simp)) v)
    have HT2 := hide (fun v => h1.both HBK.out 192 v)
    clear h1 h5
    try dsimp only
    rw [show enc (omap L.at' (some i)) = .pointer (some ⟨L.at' i, 0, none⟩) from rfl]
    obtain ⟨mm, hmm⟩ : ∃ mm, mm = modeWithin (σ.nm i) := ⟨_, rfl⟩
    rw [← hmm] at HB
    have HMM : Hid (modeWithin (σ.nmO (some i)) = mm) := hide hmm.symm
    clear hmm
    gi_wp2_with (first | (refine ⟨trivial, ?_⟩; refine (CallsIn.inRound l (callsIn_wide.2 (HB.out _))).mono ?_; rintro e W ⟨rfl, rfl⟩))
    · rename_i hne
      have hne' : mm ≠ 6 := by intro e; subst e; simp at hne
      refine ⟨HT.out _, rfl, pre, some i, rfl, B5.out, by rw [HMM.out]; exact hne', ?_⟩
      rw [HMM.out]
      exact HT2.out _
    · rename_i hne
      have hne' : mm = 6 := by
        have : ¬ ((mm : Int) ≠ 6) := by simpa using hne
        omega
      refine ⟨Kept.refl _ _, HK.out, fun y hy => ?_⟩
      rcases List.mem_append.1 hy with hy | hy
      · exact B5.out y hy
      · rw [List.mem_singleton.1 hy, HMM.out]; exact hne'
  case done =>
    rintro D W hD ⟨h1, h5⟩ hK
    have hsc : resetM σ = .ok () { σ with mode := 6 } := by
      show Res.ok () { σ with mode := resetL σ σ.opn.reverse } = _
      rw [reset_done h5]
    rw [hsc]
    have HK := hide h1
    have HD := hide hD
    clear h1 hD h5 hsc
    gi_wp2
    refine ⟨by simp, .inl ⟨_, _, rfl, run_takeDeferred hK, ?_⟩⟩
    have hz1 := HZ.out
    have hD := HD.out
    have hk2 := HK.out.take (D := D) (by omega) (.deferred none)
    exact ⟨_, results_none rfl _ _ _, rfl, ⟨L, rfl, HR1.out.kept0 hk2⟩, HFR.out.trans (.of_kept0 hk2), Nat.le_refl _⟩
  case stop =>
    rintro D c pre W hD hpre ⟨rfl, pre', y, rfl, h3, h4, h5⟩ hK
    obtain ⟨rest, hrest⟩ := hpre
    have hsc : resetM σ = .ok () { σ with mode := modeWithin (σ.nmO y) } := by
      show Res.ok () { σ with mode := resetL σ σ.opn.reverse } = _
      rw [← hrest, reset_stop h4 h3]
    rw [hsc]
    have hrr := HR1.out.set_mode (modeWithin (σ.nmO y))
    have hff : Fr E.bs w1 (w1.setCell ⟨E.bB, 192, none⟩ (.int .i64 (modeWithin (σ.nmO y) : Int))) := (At.start ⟨L, rfl, HR1.out⟩).fset 192 _
    have HK := hide h5
    have HD := hide hD
    have HRR := hide hrr
    have HFF := hide hff
    clear h3 h4 h5 hrest hD hsc hrr hff
    gi_wp2
    refine ⟨by simp, .inl ⟨_, _, rfl, run_takeDeferred hK, ?_⟩⟩
    have hz1 := HZ.out
    have hD := HD.out
    have hk2 := HK.out.take (D := D) (by simp; omega) (.deferred none)
    exact ⟨_, results_none rfl _ _ _, rfl, ⟨L, rfl, HRR.out.kept0 hk2⟩, (HFR.out.trans HFF.out).trans (.of_kept0 hk2), Nat.le_refl _⟩
end Go.Proofs.YtlhhgenpcjjajaaGreatDoor
namespace Go.Proofs.YtlhhgenpcjjajaaGreatDoor
open Go.RowKit
attribute [local go_sem] Oper.semAt_some
attribute [local go_sem] wide_fn
attribute [local simp] wide_fn
def Ab.blk (σ : Ab) (pre : List (Option Nat)) (b : Option Nat) : Option Nat := pre.foldl (fun b y => if pSpecial (σ.nmO y) then y else b) b
theorem block_done {σ : Ab} {it : Nat} : ∀ {xs : List (Option Nat)} {b : Option Nat}, (∀ y ∈ xs, y ≠ some it) → σ.blockL it xs b = σ.blk xs b
  | [], _, _ => rfl
  | x :: xs, b, h => by
    unfold Ab.blockL
    rw [if_neg (h x (by simp))]
    exact block_done fun y hy => h y (by simp [hy])
theorem block_stop {σ : Ab} {it : Nat} {rest : List (Option Nat)} : ∀ {xs : List (Option Nat)} {b : Option Nat}, (∀ y ∈ xs, y ≠ some it) → σ.blockL it (xs ++ [some it] ++ rest) b = σ.blk xs b
  | [], b, _ => by
    show σ.blockL it (some it :: rest) b = b
    unfold Ab.blockL
    rw [if_pos rfl]
  | x :: xs, b, h => by
    show σ.blockL it (x :: (xs ++ [some it] ++ rest)) b = _
    unfold Ab.blockL
    rw [if_neg (h x (by simp))]
    exact block_stop fun y hy => h y (by simp [hy])
theorem blk_snoc (σ : Ab) (pre : List (Option Nat)) (y b : Option Nat) : σ.blk (pre ++ [y]) b = if pSpecial (σ.nmO y) then y else σ.blk pre b := by
  unfold Ab.blk; rw [List.foldl_append]; rfl
set_option maxRecDepth 100000 in
set_option maxHeartbeats 4000000 in
theorem blockBehind_r {E : Env} {f : Nat → Nat} {σ : Ab} {w : World} (h : RF E f σ w) (it : Nat) (hit : σ.isEl (some it) = true) :
    Calls Tryz.prog 353 #[Bp E, nV f it] w fun e w' => e = .returned (oV f (σ.blockBehind it)) ∧ Kept [] w w' := by
  obtain ⟨L, rfl, hr⟩ := h
  obtain ⟨fb, ab, lb0, cb, hb⟩ := hr.special
  obtain ⟨kb, lbb, eb, heb, hcb⟩ := hb.call
  cases eb
  refine (callsIn_wide (n := 3)).1 ?_
  refine callsIn_of_wp_marks Tryz.func353 rfl trivial ?_ rfl
  simp only [Tryz.ntmps353, List.size_toArray, List.length_cons, List.length_nil, Nat.reduceAdd, Nat.reduceSub, Array.replicate_succ, Array.replicate_zero, List.push_toArray, List.append_toArray, List.nil_append, List.cons_append]
  obtain ⟨w1, hw1⟩ : ∃ w1, w1 = ((w.alloc (.cells #[Bp E] 121 (0, 0))).alloc (.cells #[.pointer (some ⟨L.at' it, 0, none⟩)] 72 (0, 0))).alloc (.cells #[.pointer none] 72 (0, 0)) := ⟨_, rfl⟩
  have hk1 : Kept [] w w1 := by rw [hw1]; exact (((Kept.refl _ _).alloc _).alloc _).alloc _
  obtain ⟨b0, b1, b2⟩ := three_blocks w (.cells #[Bp E] 121 (0, 0)) (.cells #[.pointer (some ⟨L.at' it, 0, none⟩)] 72 (0, 0)) (.cells #[.pointer none] 72 (0, 0))
  rw [← hw1] at b0 b1 b2
  have hz1 : w1.heap.size = w.heap.size + 1 + 1 + 1 := by rw [hw1]; simp
  have hr1 := hr.kept0 hk1
  obtain ⟨C, hL, hC⟩ := hr1.lstO
  have hl1 := hr.lt
  have HL := hide hL
  have HU := hide (l_up E.bs E.bB 188 _ C _ _ w1 hL)
  have HCB := hide (fun (W : World) (hk : Kept [] w W) => (hk.cell (p := ⟨E.bB, 184, none⟩) hl1 (by simp)).trans cb)
  have H2 := hide hcb
  have HO := hide (fun g (hg : L.ov.ownBlock = some g) => row_lt hr.orow hg)
  have HN := hide (fun (W : World) (hk : Kept [] w W) (i : Nat) (e : AEl) (hi : σ.el? i = some e) => (hr.kept0 hk).nameAt hi)
  have HS := hide (fun (y : Option Nat) (hy : y ∈ σ.opn) => hr.opn_some hy)
  have HI := hide hr.inj
  have HE := hide (fun (W : World) (hk : Kept [] w W) (x : Option Nat) (hx : σ.isEl x = true) => (hr.kept0 hk).isEl hx)
  clear hr hr1 hC hcb hb hL cb
  have HZ := hide hz1
  have HW := hide hw1
  clear hz1 hw1
  gi_wp2_with fail
  rw [← HW.out]
  refine (callsIn_wide.2 HU.out).mono ?_
  rintro e w' ⟨rfl, rfl⟩
  gi_wp2
  refine wpIn_up2 (by omega) (f := omap L.at') (fun x y e => omap_inj HI.out e) HL.out (by rfl) [w.heap.size + 1 + 1] [] ?_ (by simp)
    (fun pre W => Kept [] w W ∧ W.heap[w.heap.size]? = some (.cells #[Bp E] 121 (0, 0)) ∧ W.heap[w.heap.size + 1]? = some (.cells #[.pointer (some ⟨L.at' it, 0, none⟩)] 72 (0, 0)) ∧ W.heap[w.heap.size + 1 + 1]? = some (.cells #[oV L.at' (σ.blk pre none)] 72 (0, 0)) ∧ ∀ y ∈ pre, y ≠ some it)
    (fun c pre W => c = .exit 0 ∧ Kept [] w W ∧ ∃ pre', pre = pre' ++ [some it] ∧ (∀ y ∈ pre', y ≠ some it) ∧ W.heap[w.heap.size + 1 + 1]? = some (.cells #[oV L.at' (σ.blk pre' none)] 72 (0, 0)))
    ?_ ?_ ?_ (fun x => { tmps := #[Bp E, .pointer (some ⟨L.at' it, 0, none⟩), .pointer (some ⟨w.heap.size, 0, none⟩), .pointer (some ⟨w.heap.size + 1, 0, none⟩), .pointer none, .pointer (some ⟨w.heap.size + 1 + 1, 0, none⟩), enc x, Bp E, .pointer (some ⟨E.bB, 0, none⟩), .pointer (some ⟨E.bB, 188, none⟩), upVal w1.heap.size, enc x, undef, undef, undef, undef, undef, undef, undef, undef, undef, undef, undef, undef, undef, undef], defers := [] }) ?assign ?body ?done ?stop
  · intro k hk
    have := List.mem_singleton.1 hk
    subst this
    have hz1 := HZ.out
    exact ⟨by omega, by omega, fun h => by have := HO.out _ h; omega⟩
  · rintro s A B row ⟨h1, h2, h3, h4, h5⟩ hg hr
    have hz1 := HZ.out
    exact ⟨kept_grown h1 hg hr (by omega), at_grown h2 hg hr (by omega), at_grown h3 hg hr (by omega), at_grown h4 hg hr (by omega), h5⟩
  · rintro c s A B row ⟨h0, h1, pre', h2, h3, h5⟩ hg hr
    have hz1 := HZ.out
    exact ⟨h0, kept_grown h1 hg hr (by omega), pre', h2, h3, at_grown h5 hg hr (by omega)⟩
  · have hk : Kept [] w1 (upWorld E.bB 188 (σ.opn.length) w1) := ((Kept.refl _ _).alloc _).alloc _
    exact ⟨hk1.trans hk, hk.at b0 (by simp), hk.at b1 (by simp), hk.at b2 (by simp), by simp⟩
  case assign =>
    intro l x W K hK
    gi_wp2
    exact hK
  case body =>
    rintro l pre y W hy ⟨h1, h2, h3, h4, h5⟩
    obtain ⟨i, e0, rfl, hi⟩ := HS.out y hy
    have c0 := HN.out W h1 i e0 hi
    have cB := HCB.out W h1
    have c1 : W.cell? ⟨w.heap.size, 0, none⟩ = some (Bp E) := by rw [cell_at h2]; rfl
    have c2 : W.cell? ⟨w.heap.size + 1, 0, none⟩ = some (.pointer (some ⟨L.at' it, 0, none⟩)) := by rw [cell_at h3]; rfl
    have c3 : W.cell? ⟨w.heap.size + 1 + 1, 0, none⟩ = some (oV L.at' (σ.blk pre none)) := by rw [cell_at h4]; rfl
    have f3 := free_at h4 0
    have HB := hide (fun W' (hk : Kept [] w W') => H2.out W' (.of_kept0 hk) (σ.nm i))
    have HK := hide h1
    have B2 := hide h2
    have B3 := hide h3
    have B4 := hide h4
    have B5 := hide h5
    have HT : Hid (∀ (q : Nat) (r : Value), Kept [w.heap.size + 1 + 1] W ((W.drewN q).setCell ⟨w.heap.size + 1 + 1, 0, none⟩ r) ∧ Kept [] w ((W.drewN q).setCell ⟨w.heap.size + 1 + 1, 0, none⟩ r) ∧ ((W.drewN q).setCell ⟨w.heap.size + 1 + 1, 0, none⟩ r).heap[w.heap.size + 1 + 1]? = some (.cells #[r] 72 (0, 0)) ∧ ((W.drewN q).setCell ⟨w.heap.size + 1 + 1, 0, none⟩ r).heap[w.heap.size]? = some (.cells #[Bp E] 121 (0, 0)) ∧ ((W.drewN q).setCell ⟨w.heap.size + 1 + 1, 0, none⟩ r).heap[w.heap.size + 1]? = some (.cells #[.pointer (some ⟨L.at' it, 0, none⟩)] 72 (0, 0))) := fun q r =>
      have kk := ((Kept.refl [w.heap.size + 1 + 1] W).drewN q).setCell (p := ⟨w.heap.size + 1 + 1, 0, none⟩) (.inl (by simp)) r
      ⟨kk, (h1.drewN q).setCell (.inr (by simp; omega)) _, block_setCell (show (W.drewN q).heap[w.heap.size + 1 + 1]? = _ from h4) 0 _, kk.at h2 (by simp; omega), kk.at h3 (by simp)⟩
    have heq := eql_el (HE.out W h1 (some i) (by show (σ.el? i).isSome = true; rw [hi]; rfl)) (HE.out W h1 (some it) hit)
    rw [show ptr (omap L.at' (some i)) = some ⟨L.at' i, 0, none⟩ from rfl, show ptr (omap L.at' (some it)) = some ⟨L.at' it, 0, none⟩ from rfl] at heq
    clear h1 h2 h3 h4 h5
    try dsimp only
    rw [show enc (omap L.at' (some i)) = .pointer (some ⟨L.at' i, 0, none⟩) from rfl]
    by_cases hii : i = it
    · subst hii
      rw [decide_eq_true rfl] at heq
      gi_wp2
      exact ⟨Kept.refl _ _, rfl, HK.out, pre, rfl, B5.out, B4.out⟩
    · have hne : L.at' i ≠ L.at' it := fun e => hii (HI.out _ _ e)
      have hne2 : (some i : Option Nat) ≠ some it := fun e => hii (Option.some.inj e)
      have HNE := hide hne2
      rw [decide_eq_false (by simpa using hne)] at heq
      clear hne2 hii
      gi_wp2
      refine quiet_round l (by kernel_rfl) (by kernel_rfl) (by rfl) ?_
      repeat (gi_big_quiet_step ((exact callsIn_wide.2 (Calls.quiet_of_same (HB.out _ (HK.out.drewN _))))))
      refine wpQuietIn_nil ?_
      intro _ hw'
      obtain ⟨nq, hw''⟩ := hw'
      subst hw''
      cases hq : pSpecial (σ.nm i) with
      | true =>
        have HQ := hide hq
        clear hq
        gi_wp2
        obtain ⟨t1, t2, t3, t4, t5⟩ := HT.out nq (.pointer (some ⟨L.at' i, 0, none⟩))
        refine ⟨t1, t2, t4, t5, ?_, fun y hy => ?_⟩
        · rw [blk_snoc, show σ.nmO (some i) = σ.nm i from rfl, HQ.out]; exact t3
        · rcases List.mem_append.1 hy with hy | hy
          · exact B5.out y hy
          · rw [List.mem_singleton.1 hy]; exact HNE.out
      | false =>
        have HQ := hide hq
        clear hq
        gi_wp2
        refine ⟨(Kept.refl _ W).drewN nq, HK.out.drewN nq, B2.out, B3.out, ?_, fun y hy => ?_⟩
        · rw [blk_snoc, show σ.nmO (some i) = σ.nm i from rfl, HQ.out]; exact B4.out
        · rcases List.mem_append.1 hy with hy | hy
          · exact B5.out y hy
          · rw [List.mem_singleton.1 hy]; exact HNE.out
  case done =>
    rintro D W hD ⟨h1, h2, h3, h4, h5⟩ hK
    have c3 : W.cell? ⟨w.heap.size + 1 + 1, 0, none⟩ = some (oV L.at' (σ.blk σ.opn.reverse none)) := by rw [cell_at h4]; rfl
    have HK := hide h1
    have hsc : σ.blockBehind it = σ.blk σ.opn.reverse none := block_done (fun y hy => h5 y hy)
    have HSC := hide hsc
    have HD := hide hD
    clear h1 h2 h3 hD h5 hsc
    gi_wp2
    refine ⟨by simp, .inl ⟨_, _, rfl, run_takeDeferred hK, ?_⟩⟩
    have hz1 := HZ.out
    have hD := HD.out
    exact ⟨_, results_tmp rfl _ _ _, by rw [HSC.out]; rfl, HK.out.take (by omega) _⟩
  case stop =>
    rintro D c pre W hD hpre ⟨rfl, h1, pre', rfl, h3, h5⟩ hK
    obtain ⟨rest, hrest⟩ := hpre
    have hsc : σ.blockBehind it = σ.blk pre' none := by unfold Ab.blockBehind; rw [← hrest]; exact block_stop h3
    have HSC := hide hsc
    have c3 : W.cell? ⟨w.heap.size + 1 + 1, 0, none⟩ = some (oV L.at' (σ.blk pre' none)) := by rw [cell_at h5]; rfl
    have HK := hide h1
    have HD := hide hD
    clear h1 h3 h5 hrest hD hsc
    gi_wp2
    refine ⟨by simp, .inl ⟨_, _, rfl, run_takeDeferred hK, ?_⟩⟩
    have hz1 := HZ.out
    have hD := HD.out
    exact ⟨_, results_tmp rfl _ _ _, by rw [HSC.out]; rfl, HK.out.take (by omega) _⟩
end Go.Proofs.YtlhhgenpcjjajaaGreatDoor
namespace Go.Proofs.YtlhhgenpcjjajaaGreatDoor
open Go.RowKit
attribute [local go_sem] Oper.semAt_some
theorem foster_done {σ : Ab} : ∀ {xs : List (Option Nat)}, (∀ y ∈ xs, (!eqS (σ.nmO y) (⟨#[116, 97, 98, 108, 101]⟩ : ByteArray)) = true ∨ y = getAt σ.opn 0) → fosterL σ xs = none
  | [], _ => rfl
  | x :: xs, h => by
    unfold fosterL
    rw [if_pos (by rcases h x (by simp) with h1 | h1 <;> simp [h1])]
    exact foster_done fun y hy => h y (by simp [hy])
theorem foster_stop {σ : Ab} {y : Option Nat} {rest : List (Option Nat)} (hr : ¬((!eqS (σ.nmO y) (⟨#[116, 97, 98, 108, 101]⟩ : ByteArray)) = true ∨ y = getAt σ.opn 0)) : ∀ {xs : List (Option Nat)}, (∀ y ∈ xs, (!eqS (σ.nmO y) (⟨#[116, 97, 98, 108, 101]⟩ : ByteArray)) = true ∨ y = getAt σ.opn 0) → fosterL σ (xs ++ [y] ++ rest) = some y
  | [], _ => by
    show fosterL σ (y :: rest) = some y
    unfold fosterL
    rw [if_neg (by simpa using hr)]
  | x :: xs, h => by
    show fosterL σ (x :: (xs ++ [y] ++ rest)) = some y
    unfold fosterL
    rw [if_pos (by rcases h x (by simp) with h1 | h1 <;> simp [h1])]
    exact foster_stop hr fun y hy => h y (by simp [hy])
theorem place_fin0 {W W2 w : World} {s : Nat} (hk : Kept [] W W2) (hw : Kept [] w W) (hs : w.heap.size ≤ s) (hb : W2.heap[s]? = some (.cells #[.pointer none, .int .i64 0] 235 (0, 0))) (v0 v1 : Value) :
    Kept [s] W ((W2.setCell ⟨s, 0, none⟩ v0).setCell ⟨s, 1, none⟩ v1) ∧ Kept [] w ((W2.setCell ⟨s, 0, none⟩ v0).setCell ⟨s, 1, none⟩ v1) ∧ ((W2.setCell ⟨s, 0, none⟩ v0).setCell ⟨s, 1, none⟩ v1).heap[s]? = some (.cells #[v0, v1] 235 (0, 0)) :=
  ⟨((hk.mono (by simp)).setCell (.inl (by simp)) _).setCell (.inl (by simp)) _, (((hw.trans hk)).setCell (.inr hs) _).setCell (.inr hs) _, block_setCell (block_setCell hb 0 v0) 1 v1⟩
theorem place_fin {W W2 w : World} {s : Nat} (hk : Kept [] W W2) (hw : Kept [] w W) (hs : w.heap.size ≤ s) (hb : W2.heap[s]? = some (.cells #[.pointer none, .int .i64 0] 235 (0, 0))) (v0 v1 : Value) (o : Obj) :
    Kept [s] W (((W2.setCell ⟨s, 0, none⟩ v0).setCell ⟨s, 1, none⟩ v1).alloc o) ∧ Kept [] w (((W2.setCell ⟨s, 0, none⟩ v0).setCell ⟨s, 1, none⟩ v1).alloc o) ∧ (((W2.setCell ⟨s, 0, none⟩ v0).setCell ⟨s, 1, none⟩ v1).alloc o).heap[s]? = some (.cells #[v0, v1] 235 (0, 0)) := by
  obtain ⟨h1, h2, h3⟩ := place_fin0 hk hw hs hb v0 v1
  exact ⟨h1.alloc _, h2.alloc _, ((Kept.refl [] _).alloc o).at h3 (by simp)⟩
set_option maxRecDepth 100000 in
set_option maxHeartbeats 4000000 in
theorem foster_ok (E : Env) : FosterOk E := by
  intro f σ w h hs
  have hres : ∃ pl, fosterPlace σ = .ok pl σ := by
    cases hq : fosterPlace σ with
    | ok pl σ1 => exact ⟨pl, by rw [fosterPlace_same hq]⟩
    | stop c p =>
      exfalso
      unfold fosterPlace at hq
      split at hq
      · split at hq
        · unfold fosterAt at hq
          split at hq
          · split at hq
            · split at hq
              · split at hq <;> cases hq
              · cases hq
            · split at hq
              · unfold endOf at hq; split at hq <;> cases hq
              · cases hq
          · cases hq
        · cases hq
        · split at hq
          · unfold endOf at hq; split at hq <;> cases hq
          · cases hq
      · cases hq
    | stuck => exact absurd hq hs
  obtain ⟨pl0, hpl0⟩ := hres
  have htab : σ.tablesOk = true := by
    cases ht : σ.tablesOk with
    | true => rfl
    | false => unfold fosterPlace at hpl0; rw [ht] at hpl0; simp at hpl0
  rw [hpl0]
  obtain ⟨L, rfl, hr⟩ := h
  refine (callsIn_wide (n := 3)).1 ?_
  refine callsIn_of_wp_marks Tryz.func267 rfl trivial ?_ rfl
  simp only [Tryz.ntmps267, List.size_toArray, List.length_cons, List.length_nil, Nat.reduceAdd, Nat.reduceSub, Array.replicate_succ, Array.replicate_zero, List.push_toArray, List.append_toArray, List.nil_append, List.cons_append]
  have hl1 := hr.lt
  obtain ⟨wa, hwa⟩ : ∃ wa, wa = (w.alloc (.cells #[Bp E] 121 (0, 0))).alloc (.cells #[.pointer none, .int .i64 0] 235 (0, 0)) := ⟨_, rfl⟩
  have hka : Kept [] w wa := by rw [hwa]; exact ((Kept.refl _ _).alloc _).alloc _
  have ba0 : wa.heap[w.heap.size]? = some (.cells #[Bp E] 121 (0, 0)) := by
    have := (two_blocks w (.cells #[Bp E] 121 (0, 0)) (.cells #[.pointer none, .int .i64 0] 235 (0, 0))).1
    rwa [← hwa] at this
  obtain ⟨w1, hw1⟩ : ∃ w1, w1 = wa.alloc (.cells #[oV L.at' (getAt σ.opn 0)] 72 (0, 0)) := ⟨_, rfl⟩
  have hk1 : Kept [] w w1 := by rw [hw1]; exact hka.alloc _
  obtain ⟨b0, b1, b2⟩ := three_blocks w (.cells #[Bp E] 121 (0, 0)) (.cells #[.pointer none, .int .i64 0] 235 (0, 0)) (.cells #[oV L.at' (getAt σ.opn 0)] 72 (0, 0))
  rw [← hwa, ← hw1] at b0 b1 b2
  have hza : wa.heap.size = w.heap.size + 1 + 1 := by rw [hwa]; simp
  have hz1 : w1.heap.size = w.heap.size + 1 + 1 + 1 := by rw [hw1]; simp [hza]
  have CA := hide (o_at (hr.kept0 hka) 0)
  have hr1 := hr.kept0 hk1
  obtain ⟨C, hL, hC⟩ := hr1.lstO
  have HL := hide hL
  have HU := hide (l_up E.bs E.bB 188 _ C _ _ w1 hL)
  have HRl := hide hr
  have HO := hide (fun g (hg : L.ov.ownBlock = some g) => row_lt hr.orow hg)
  have HN := hide (fun (W : World) (hk : Kept [] w W) (i : Nat) (e : AEl) (hi : σ.el? i = some e) => (hr.kept0 hk).nameAt hi)
  have HS := hide (fun (y : Option Nat) (hy : y ∈ σ.opn) => hr.opn_some hy)
  have HI := hide hr.inj
  have HE := hide (fun (W : World) (hk : Kept [] w W) (x : Option Nat) (hx : σ.isEl x = true) => (hr.kept0 hk).isEl hx)
  clear hr hr1 hC hL
  have HZ := hide hz1
  have HZa := hide hza
  have HWa := hide hwa
  have HW := hide hw1
  clear hz1 hw1 hza hwa
  have ca0 : wa.cell? ⟨w.heap.size, 0, none⟩ = some (Bp E) := by rw [cell_at ba0]; rfl
  have hla : E.bB < wa.heap.size := Nat.lt_of_lt_of_le hl1 hka.size
  have hlb : w.heap.size < wa.heap.size := by have := HZa.out; omega
  gi_wp2_with fail
  rw [← HWa.out]
  refine ⟨trivial, (callsIn_wide.2 CA.out).mono ?_⟩
  rintro e wa ⟨rfl, rfl⟩
  gi_wp2_with fail
  rw [← HW.out]
  refine ⟨trivial, (callsIn_wide.2 HU.out).mono ?_⟩
  rintro e w' ⟨rfl, rfl⟩
  gi_wp2
  refine wpIn_up2 (by omega) (f := omap L.at') (fun x y e => omap_inj HI.out e) HL.out (by rfl) [] [w.heap.size + 1] (by simp) (by intro k hk; have := List.mem_singleton.1 hk; subst this; have := HZ.out; omega)
    (fun pre W => Kept [] w W ∧ W.heap[w.heap.size]? = some (.cells #[Bp E] 121 (0, 0)) ∧ W.heap[w.heap.size + 1]? = some (.cells #[.pointer none, .int .i64 0] 235 (0, 0)) ∧ W.heap[wa.heap.size]? = some (.cells #[oV L.at' (getAt σ.opn 0)] 72 (0, 0)) ∧ ∀ y ∈ pre, (!eqS (σ.nmO y) (⟨#[116, 97, 98, 108, 101]⟩ : ByteArray)) = true ∨ y = getAt σ.opn 0)
    (fun c pre W => c = .ret ∧ Kept [] w W ∧ ∃ pre' i pl, pre = pre' ++ [some i] ∧ (∀ y ∈ pre', (!eqS (σ.nmO y) (⟨#[116, 97, 98, 108, 101]⟩ : ByteArray)) = true ∨ y = getAt σ.opn 0) ∧ ¬((!eqS (σ.nmO (some i)) (⟨#[116, 97, 98, 108, 101]⟩ : ByteArray)) = true ∨ some i = getAt σ.opn 0) ∧ fosterAt i σ = .ok pl σ ∧ W.heap[w.heap.size + 1]? = some (.cells #[.pointer (some ⟨L.at' pl.1, 0, none⟩), .int .i64 (pl.2 : Int)] 235 (0, 0)))
    ?_ ?_ ?_ (fun x => { tmps := #[Bp E, .pointer (some ⟨w.heap.size, 0, none⟩), .pointer (some ⟨w.heap.size + 1, 0, none⟩), .pointer (some ⟨wa.heap.size, 0, none⟩), enc x, undef, undef, Bp E, .pointer (some ⟨E.bB, 0, none⟩), .pointer (some ⟨E.bB, 188, none⟩), oV L.at' (getAt σ.opn 0), Bp E, .pointer (some ⟨E.bB, 0, none⟩), .pointer (some ⟨E.bB, 188, none⟩), upVal w1.heap.size, enc x, undef, undef, undef, undef, undef, undef, undef, undef, undef, undef, undef, undef, undef, undef, undef, undef, undef, undef, undef, undef, undef, undef, undef, undef, undef], defers := [] }) ?assign ?body ?done ?stopx
  · rintro s A B row ⟨h1, h2, h3, h4, h5⟩ hg hr
    have hz1 := HZ.out
    have hza := HZa.out
    exact ⟨kept_grown h1 hg hr (by omega), at_grown h2 hg hr (by omega), at_grown h3 hg hr (by omega), at_grown h4 hg hr (by omega), h5⟩
  · rintro c s A B row ⟨h0, h1, pre', i, pl, h2, h3, h4, h5, h6⟩ hg hr
    have hz1 := HZ.out
    exact ⟨h0, kept_grown h1 hg hr (by omega), pre', i, pl, h2, h3, h4, h5, at_grown h6 hg hr (by omega)⟩
  · have hk : Kept [] w1 (upWorld E.bB 188 (σ.opn.length) w1) := ((Kept.refl _ _).alloc _).alloc _
    refine ⟨hk1.trans hk, hk.at b0 (by simp), hk.at b1 (by simp), ?_, by simp⟩
    rw [HZa.out]
    exact hk.at b2 (by simp)
  case assign =>
    intro l x W K hK
    gi_wp2
    exact hK
  case body =>
    rintro l pre y W hy ⟨h1, h2, h3, h4, h5⟩
    obtain ⟨i, e0, rfl, hi⟩ := HS.out y hy
    have hrW := HRl.out.kept0 h1
    have c0 := HN.out W h1 i e0 hi
    have c1 : W.cell? ⟨w.heap.size, 0, none⟩ = some (Bp E) := by rw [cell_at h2]; rfl
    have c2 : W.cell? ⟨wa.heap.size, 0, none⟩ = some (oV L.at' (getAt σ.opn 0)) := by rw [cell_at h4]; rfl
    have heq : (binOp .eql 72 (.pointer (some ⟨L.at' i, 0, none⟩)) (oV L.at' (getAt σ.opn 0))).run Tryz.prog W = .ok (.bool (decide (some i = getAt σ.opn 0))) W := by
      have hg0 : σ.isEl (getAt σ.opn 0) = true := by
        unfold getAt
        by_cases hn : (0 : Int) ≤ 0 ∧ (0 : Int) < σ.opn.length
        · rw [if_pos hn]
          have hl0 : 0 < σ.opn.length := by omega
          show σ.isEl (σ.opn.getD 0 none) = true
          rw [List.getD_eq_getElem?_getD, List.getElem?_eq_getElem hl0]
          exact Ab.isEl_of (hrW.wf.opn _ (List.getElem_mem hl0))
        · rw [if_neg hn]; rfl
      have heq := eql_el (HE.out W h1 (some i) (by show (σ.el? i).isSome = true; rw [hi]; rfl)) (HE.out W h1 _ hg0)
      rw [decide_eq_decide.2 (⟨fun e => omap_inj HI.out e, fun e => by rw [e]⟩ : omap L.at' (some i) = omap L.at' (getAt σ.opn 0) ↔ some i = getAt σ.opn 0)] at heq
      exact heq
    have hnm : eqS (σ.nmO (some i)) (⟨#[116, 97, 98, 108, 101]⟩ : ByteArray) = ((σ.nm i).toList == [116, 97, 98, 108, 101]) := by
      show eqS (σ.nm i) _ = _
      unfold eqS
      rw [ByteArray.toList_eq ⟨#[116, 97, 98, 108, 101]⟩]
    have B5 := hide h5
    have HK := hide h1
    have B2 := hide h2
    have B3 := hide h3
    have B4 := hide h4
    have HHI := hide hi
    have HRW := hide hrW
    clear h1 h2 h3 h4 h5 hrW hi
    try dsimp only
    rw [show enc (omap L.at' (some i)) = .pointer (some ⟨L.at' i, 0, none⟩) from rfl]
    cases htb : ((σ.nm i).toList == [116, 97, 98, 108, 101]) with
    | false =>
      rw [htb] at hnm
      have HG : Hid ((!eqS (σ.nmO (some i)) (⟨#[116, 97, 98, 108, 101]⟩ : ByteArray)) = true ∨ some i = getAt σ.opn 0) := hide (.inl (by rw [hnm]; rfl))
      have htb' : ((σ.nm i).toList != [116, 97, 98, 108, 101]) = true := by simp [bne, htb]
      clear hnm heq
      gi_wp2
      refine ⟨Kept.refl _ _, HK.out, B2.out, B3.out, B4.out, fun y hy => ?_⟩
      rcases List.mem_append.1 hy with hy | hy
      · exact B5.out y hy
      · rw [List.mem_singleton.1 hy]; exact HG.out
    | true =>
      rw [htb] at hnm
      have htb' : ((σ.nm i).toList != [116, 97, 98, 108, 101]) = false := by simp [bne, htb]
      by_cases hfi : some i = getAt σ.opn 0
      · rw [decide_eq_true hfi] at heq
        have HG : Hid ((!eqS (σ.nmO (some i)) (⟨#[116, 97, 98, 108, 101]⟩ : ByteArray)) = true ∨ some i = getAt σ.opn 0) := hide (.inr hfi)
        clear hnm hfi
        gi_wp2
        refine ⟨Kept.refl _ _, HK.out, B2.out, B3.out, B4.out, fun y hy => ?_⟩
        rcases List.mem_append.1 hy with hy | hy
        · exact B5.out y hy
        · rw [List.mem_singleton.1 hy]; exact HG.out
      · rw [decide_eq_false hfi] at heq
        have HG : Hid (¬((!eqS (σ.nmO (some i)) (⟨#[116, 97, 98, 108, 101]⟩ : ByteArray)) = true ∨ some i = getAt σ.opn 0)) := hide (by rw [hnm]; simp [hfi])
        have hok : (fosterAt i σ).isOk = true := by
          have := List.all_eq_true.1 htab (some i) hy
          simp only [Bool.or_eq_true, decide_eq_true_eq] at this
          rcases this with (h | h) | h
          · exfalso; have e : eqS (σ.nmO (some i)) (⟨#[116, 97, 98, 108, 101]⟩ : ByteArray) = eqS (σ.nm i) (⟨#[116, 97, 98, 108, 101]⟩ : ByteArray) := rfl; rw [← e, hnm] at h; cases h
          · exact absurd h hfi
          · exact h
        have HOK := hide hok
        clear hnm hfi hok
        cases hp : e0.par with
        | some p =>
          have hep : ∃ ep, σ.el? p = some ep ∧ 0 ≤ posN ep.kids (Nd.isEl i) ∧ fosterAt i σ = .ok (p, (posN ep.kids (Nd.isEl i)).toNat) σ := by
            have hk := HOK.out
            unfold fosterAt at hk ⊢
            rw [HHI.out] at hk ⊢
            simp only [hp] at hk ⊢
            cases hq : σ.el? p with
            | none => rw [hq] at hk; simp [Res.isOk] at hk
            | some ep =>
              simp only [hq] at hk ⊢
              by_cases hps : 0 ≤ posN ep.kids (Nd.isEl i)
              · exact ⟨ep, rfl, hps, by rw [if_pos hps]⟩
              · rw [if_neg hps] at hk; simp [Res.isOk] at hk
          obtain ⟨ep, hep, hps, hfa⟩ := hep
          have CF := hide (t_front_yes HRW.out HHI.out hp hep)
          obtain ⟨q, hq⟩ : ∃ q : Nat, posN ep.kids (Nd.isEl i) = (q : Int) := ⟨(posN ep.kids (Nd.isEl i)).toNat, by omega⟩
          rw [hq] at CF hfa
          have HFA : Hid (fosterAt i σ = .ok (p, q) σ) := hide (by rw [hfa]; rfl)
          clear hep hps hfa hq hp
          gi_wp2_with fail
          refine ⟨trivial, (CallsIn.inRound l (callsIn_wide.2 CF.out)).mono ?_⟩
          rintro e W2 ⟨rfl, hrel2, hk2⟩
          have b3' := hk2.at B3.out (by simp)
          have d0 : W2.cell? ⟨w.heap.size + 1, 0, none⟩ = some (.pointer none) := by rw [cell_at b3']; rfl
          have d1 : W2.cell? ⟨w.heap.size + 1, 1, none⟩ = some (.int .i64 0) := by rw [cell_at b3']; rfl
          have g0 := free_at b3' 0
          have g1 := free_at b3' 1
          have hl3 : w.heap.size + 1 < W2.heap.size := lt_of_block b3'
          have HB3 := hide b3'
          have HK2 := hide hk2
          clear hrel2 hk2 b3'
          gi_wp2
          obtain ⟨t1, t2, t3⟩ := place_fin HK2.out HK.out (Nat.le_succ _) HB3.out (.pointer (some ⟨L.at' p, 0, none⟩)) (.int .i64 (q : Int)) (.cells #[.pointer (some ⟨L.at' p, 0, none⟩), .int .i64 (q : Int)] 235 (0, 0))
          exact ⟨t1, rfl, t2, pre, i, (p, q), rfl, B5.out, HG.out, HFA.out, t3⟩
        | none =>
          have hep : ∃ q e, getAt σ.opn (posOf σ.opn (some i) - 1) = some q ∧ σ.el? q = some e ∧ fosterAt i σ = .ok (q, e.kids.length) σ := by
            have hk := HOK.out
            unfold fosterAt at hk ⊢
            rw [HHI.out] at hk ⊢
            simp only [hp] at hk ⊢
            cases hq : getAt σ.opn (posOf σ.opn (some i) - 1) with
            | none => rw [hq] at hk; simp [Res.isOk] at hk
            | some q =>
              simp only [hq] at hk ⊢
              unfold endOf at hk ⊢
              cases hq2 : σ.el? q with
              | none => rw [hq2] at hk; simp [Res.isOk] at hk
              | some e => exact ⟨q, e, rfl, hq2, by simp⟩
          obtain ⟨q, eq, hgq, heq2, hfa⟩ := hep
          have CF := hide (t_front_no HRW.out HHI.out hp)
          have HFA := hide hfa
          have CAH := hide (fun (W' : World) (hk : Kept [] W W') => (show Calls Tryz.prog 246 #[.pointer (some ⟨E.bB, 188, none⟩), .pointer (some ⟨L.at' i, 0, none⟩)] W' (fun e w' => e = .returned (.pointer (some ⟨L.at' q, 0, none⟩)) ∧ w' = W') from by
            have := o_rightAhead (HRW.out.kept0 hk) (some i) (by show (σ.el? i).isSome = true; rw [HHI.out]; rfl)
            rw [hgq] at this
            exact this))
          have CE := hide (fun (W' : World) (hk : Kept [] W W') => t_end (HRW.out.kept0 hk) heq2)
          clear hfa hgq heq2 hp
          gi_wp2_with fail
          refine ⟨trivial, (CallsIn.inRound l (callsIn_wide.2 CF.out)).mono ?_⟩
          rintro e W2 ⟨rfl, hrel2, hk2⟩
          have hk3 : Kept [] W (W2.alloc (.cells #[.pointer none, .int .i64 0] 235 (0, 0))) := hk2.alloc _
          have e1 : W2.cell? ⟨w.heap.size, 0, none⟩ = some (Bp E) := by rw [cell_at (hk2.at B2.out (by simp))]; rfl
          have hlw : w.heap.size < W2.heap.size := lt_of_block (hk2.at B2.out (by simp))
          have HK3 := hide hk3
          clear hrel2 hk2 hk3
          gi_wp2_with fail
          refine ⟨trivial, (CallsIn.inRound l (callsIn_wide.2 (CAH.out _ HK3.out))).mono ?_⟩
          rintro e W3 ⟨rfl, rfl⟩
          gi_wp2_with fail
          refine ⟨trivial, (CallsIn.inRound l (callsIn_wide.2 (CE.out _ HK3.out))).mono ?_⟩
          rintro e W4 ⟨rfl, hrel4, hk4⟩
          have hk5 := HK3.out.trans hk4
          have b3' := hk5.at B3.out (by simp)
          have d0 : W4.cell? ⟨w.heap.size + 1, 0, none⟩ = some (.pointer none) := by rw [cell_at b3']; rfl
          have d1 : W4.cell? ⟨w.heap.size + 1, 1, none⟩ = some (.int .i64 0) := by rw [cell_at b3']; rfl
          have g0 := free_at b3' 0
          have g1 := free_at b3' 1
          have HB3 := hide b3'
          have HK5 := hide hk5
          clear hrel4 hk4 hk5 b3'
          gi_wp2
          obtain ⟨t1, t2, t3⟩ := place_fin0 HK5.out HK.out (Nat.le_succ _) HB3.out (.pointer (some ⟨L.at' q, 0, none⟩)) (.int .i64 (eq.kids.length : Int))
          exact ⟨t1, rfl, t2, pre, i, (q, eq.kids.length), rfl, B5.out, HG.out, HFA.out, t3⟩
  case done =>
    rintro D W hD ⟨h1, h2, h3, h4, h5⟩ hK
    have hfin : ∃ q e, getAt σ.opn 0 = some q ∧ σ.el? q = some e ∧ pl0 = (q, e.kids.length) := by
      have hq := hpl0
      unfold fosterPlace at hq
      rw [if_pos htab, foster_done h5] at hq
      simp only at hq
      cases hg : getAt σ.opn 0 with
      | none => rw [hg] at hq; cases hq
      | some q =>
        rw [hg] at hq
        simp only at hq
        unfold endOf at hq
        cases he : σ.el? q with
        | none => rw [he] at hq; cases hq
        | some e => rw [he] at hq; cases hq; exact ⟨q, e, rfl, he, rfl⟩
    obtain ⟨q, eq, hgq, heq2, rfl⟩ := hfin
    have c2 : W.cell? ⟨wa.heap.size, 0, none⟩ = some (.pointer (some ⟨L.at' q, 0, none⟩)) := by rw [cell_at h4, hgq]; rfl
    have CE := hide (t_end (HRl.out.kept0 h1) heq2)
    have HK := hide h1
    have B3 := hide h3
    have HD := hide hD
    clear h1 h2 h3 h4 h5 hD hgq heq2
    gi_wp2_with fail
    refine ⟨trivial, (callsIn_wide.2 CE.out).mono ?_⟩
    rintro e W4 ⟨rfl, hrel4, hk4⟩
    have b3' := hk4.at B3.out (by simp)
    have d0 : W4.cell? ⟨w.heap.size + 1, 0, none⟩ = some (.pointer none) := by rw [cell_at b3']; rfl
    have d1 : W4.cell? ⟨w.heap.size + 1, 1, none⟩ = some (.int .i64 0) := by rw [cell_at b3']; rfl
    have g0 := free_at b3' 0
    have g1 := free_at b3' 1
    have hK4 := (hk4.block D (Array.getElem?_eq_some_iff.1 hK).1 (by simp)).trans hK
    obtain ⟨t1, t2, t3⟩ := place_fin0 hk4 HK.out (Nat.le_succ _) b3' (.pointer (some ⟨L.at' q, 0, none⟩)) (.int .i64 (eq.kids.length : Int))
    have T2 := hide t2
    have T3 := hide t3
    have HB3 := hide b3'
    have HK4 := hide hK4
    have hK5 := ((((Kept.refl [w.heap.size + 1] W4).setCell (p := ⟨w.heap.size + 1, 0, none⟩) (.inl (by simp)) (.pointer (some ⟨L.at' q, 0, none⟩))).setCell (p := ⟨w.heap.size + 1, 1, none⟩) (.inl (by simp)) (.int .i64 (eq.kids.length : Int))).block D (Array.getElem?_eq_some_iff.1 hK4).1 (by have := HZ.out; have := HD.out; simp; omega)).trans hK4
    have HK5 := hide hK5
    clear hrel4 hk4 b3' t1 t2 t3 hK4 hK5
    gi_wp2
    refine ⟨by simp, .inl ⟨_, _, rfl, run_takeDeferred HK5.out, ?_⟩⟩
    have hz1 := HZ.out
    have hD := HD.out
    have hbz : (World.putObj _ D (.deferred none)).heap[w.heap.size + 1]? = _ := (World.putObj_heap_other (by omega)).trans T3.out
    have hkz := T2.out.take (D := D) (by omega) (.deferred none)
    refine ⟨pV L.at' (q, eq.kids.length), ?_, rfl, ⟨L, rfl, HRl.out.kept0 hkz⟩, .of_kept0 hkz, Nat.le_refl _⟩
    simp [results, Tryz.results267, asAddr, Result.andThen, go_sem, cell_at hbz]
  case stopx =>
    rintro D c pre W hD hpre ⟨rfl, h1, pre', i, pl, rfl, h3, h4, h5, h6⟩ hK
    have hfin : pl0 = pl := by
      obtain ⟨rest, hrest⟩ := hpre
      have hq := hpl0
      unfold fosterPlace at hq
      rw [if_pos htab, ← hrest, foster_stop h4 h3] at hq
      simp only at hq
      rw [h5] at hq
      cases hq; rfl
    subst hfin
    have HK := hide h1
    have T3 := hide h6
    have HD := hide hD
    clear h1 h3 h4 h5 h6 hD hpre
    gi_wp2
    refine ⟨by simp, .inl ⟨_, _, rfl, run_takeDeferred hK, ?_⟩⟩
    have hz1 := HZ.out
    have hD := HD.out
    have hbz : (World.putObj _ D (.deferred none)).heap[w.heap.size + 1]? = _ := (World.putObj_heap_other (by omega)).trans T3.out
    have hkz := HK.out.take (D := D) (by omega) (.deferred none)
    refine ⟨pV L.at' pl0, ?_, rfl, ⟨L, rfl, HRl.out.kept0 hkz⟩, .of_kept0 hkz, Nat.le_refl _⟩
    simp [results, Tryz.results267, asAddr, Result.andThen, go_sem, cell_at hbz]
end Go.Proofs.YtlhhgenpcjjajaaGreatDoor
namespace Go.Proofs.YtlhhgenpcjjajaaGreatDoor
open Go.RowKit
def okP (t : ATok) : Bool := match t.k with
  | .char _ => true
  | .textEnd => true
  | _ => false
def plainRm (rec : Nat → ATok → M Unit) : Ru → ATok → M Unit
  | .nothing, _ => Pure.pure ()
  | .meth f, t => if f = 101 then startWithoutDoctype rec t else if f = 104 then impliedHTML rec t else if f = 108 then impliedHead rec t
    else if f = 114 then impliedEndOfHead rec t else if f = 117 then impliedBody rec t else if f = 120 then charInBody t else stuck
  | _, _ => stuck
theorem okP_of (E : Env) (t : ATok) (h : okP t = true) : OfTok E t := by
  obtain ⟨a, b, k, ats⟩ := t
  cases k with
  | char s => exact fun bB bD sp v0 v1 v2 v3 v4 v5 v6 v7 v8 v9 w hr => of_char E bB bD a b s ats sp v0 v1 v2 v3 v4 v5 v6 v7 v8 v9 w hr
  | textEnd => exact fun bB bD sp v0 v1 v2 v3 v4 v5 v6 v7 v8 v9 w hr => of_textEnd E bB bD a b ats sp v0 v1 v2 v3 v4 v5 v6 v7 v8 v9 w hr
  | start n => cases h
  | stop n => cases h
  | comment s => cases h
  | doctype n q => cases h
  | lost => cases h
set_option maxHeartbeats 1000000 in
theorem nothing_p (E : Env) (t : ATok) : RuleDoes E .nothing t (Pure.pure ()) := by
  intro v f σ w h hv hs
  refine ⟨97, #[], #[], hv, enters_of Tryz.func97 (by kernel_rfl) rfl, ?_⟩
  have H := hide (At.start h)
  clear h hv hs
  show Calls Tryz.prog 97 #[tokV E t] w _
  generalize tokV E t = tv
  go_enter Tryz.func97, Tryz.ntmps97
  go_wp2
  go_end0
  exact leaves_ok rfl H.out rfl
theorem meth_p (E : Env) (t : ATok) (k : Nat) (m : M Unit) (hk : ∀ args w, (callFunc k args).run Tryz.prog w = .ok (.enter k args) w) (h : Does E k (fun _ => #[Bp E, tokV E t]) m uV) : RuleDoes E (.meth k) t m := by
  intro v f σ w hr hv hs
  exact ⟨k, #[ptrv E.bB], #[], hv, hk, h f σ w hr hs⟩
theorem stuck_p (E : Env) (r : Ru) (t : ATok) : RuleDoes E r t stuck := fun _ _ _ _ _ _ hs => absurd rfl hs
theorem plainRm_p (E : Env) (rec : Nat → ATok → M Unit) (hA : ∀ (m : Nat) (t : ATok), TokOk E t → Does E 171 (fun _ => #[Bp E, .int .i64 (m : Int), tokV E t]) (rec m t) uV) (r : Ru) (t : ATok) (ht : TokOk E t) (_ : okP t = true) : RuleDoes E r t (plainRm rec r t) := by
  cases r with
  | nothing => exact nothing_p E t
  | meth f =>
    show RuleDoes E (.meth f) t (if f = 101 then startWithoutDoctype rec t else if f = 104 then impliedHTML rec t else if f = 108 then impliedHead rec t
      else if f = 114 then impliedEndOfHead rec t else if f = 117 then impliedBody rec t else if f = 120 then charInBody t else stuck)
    split
    · rename_i e; subst e; exact meth_p E t _ _ (enters_of Tryz.func101 (by kernel_rfl) rfl) (startWithoutDoctype_p E rec hA t ht)
    split
    · rename_i e; subst e; exact meth_p E t _ _ (enters_of Tryz.func104 (by kernel_rfl) rfl) (impliedHTML_p E rec hA t ht)
    split
    · rename_i e; subst e; exact meth_p E t _ _ (enters_of Tryz.func108 (by kernel_rfl) rfl) (impliedHead_p E (foster_ok E) rec hA t ht)
    split
    · rename_i e; subst e; exact meth_p E t _ _ (enters_of Tryz.func114 (by kernel_rfl) rfl) (impliedEndOfHead_p E rec hA t ht)
    split
    · rename_i e; subst e; exact meth_p E t _ _ (enters_of Tryz.func117 (by kernel_rfl) rfl) (impliedBody_p E (foster_ok E) rec hA t ht)
    split
    · rename_i e; subst e; exact meth_p E t _ _ (enters_of Tryz.func120 (by kernel_rfl) rfl) (charInBody_p E (foster_ok E) t)
    · exact stuck_p E _ t
  | nil => exact stuck_p E _ t
  | asIn m => exact stuck_p E _ t
  | comment p o => exact stuck_p E _ t
  | ahead f => exact stuck_p E _ t
  | ends f => exact stuck_p E _ t
  | ifT r => exact stuck_p E _ t
  | starts ks m => exact stuck_p E _ t
  | implies ks n m => exact stuck_p E _ t
  | item ks => exact stuck_p E _ t
def takeP : Nat → ATok → M Unit := takeF okP plainRm 8
theorem takeP_p (E : Env) (m : Nat) (t : ATok) (ht : TokOk E t) : Does E 171 (fun _ => #[Bp E, .int .i64 (m : Int), tokV E t]) (takeP m t) uV :=
  takeF_p E okP plainRm (fun t _ ho => okP_of E t ho) (fun rec hA r t ht ho => plainRm_p E rec hA r t ht ho) 8 m t ht
end Go.Proofs.YtlhhgenpcjjajaaGreatDoor
