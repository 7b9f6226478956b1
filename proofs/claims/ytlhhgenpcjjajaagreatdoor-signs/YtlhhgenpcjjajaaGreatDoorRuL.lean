import Derived.Test.YtlhhgenpcjjajaaGreatDoorRuJ
import Derived.Test.YtlhhgenpcjjajaaGreatDoorBuA
set_option linter.unusedSimpArgs false
set_option linter.unusedVariables false
namespace Go.Proofs.YtlhhgenpcjjajaaGreatDoor
open Go.RowKit
set_option maxHeartbeats 8000000 in
set_option maxRecDepth 100000 in
theorem ru_item (bm bB bD g cap : Nat) (ks : List ByteArray) (u : Value) (w : World) (hB : bB < w.heap.size) (hu : w.cell? ⟨bB, 184, none⟩ = some u) (hA : Ask bm u pSpecial w) (h2 : w.heap[g]? = some (.cells (ks.map Value.string).toArray 9 (0, 0))) (hle : ks.length ≤ 4096) :
    Calls Tryz.prog 198 #[ptrv bB, .slice (some ⟨g, 0, none⟩) ks.length cap] w (Makes bm bB bD (.item ks) w) := by
  obtain ⟨uf, ua, ul, rfl⟩ := hA.func
  obtain ⟨w1, hw1, K1, g1, z1⟩ := alloc_named w (.cells #[ptrv bB] 121 (0, 0))
  have HU := hide hu
  have HB := hide hB
  have HAk := hide hA
  have H2 := hide h2
  have HLE := hide hle
  have HW := hide hw1
  have HK := hide K1
  have HG := hide g1
  have HZ := hide z1
  clear hu hB hA h2 hle hw1 K1 g1 z1
  go_enter Tryz.func198, Tryz.ntmps198
  go_wp2_with fail
  refine wp_region_any (by kernel_rfl) ?_
  change wpAny _ _ _ _ _ _ _ (World.drew _)
  rw [← HW.out]
  refine wpAny_inv (I := fun listed a W => ∃ b0 b1 b2 b3 b4 b5 b6 b7 b8 b9 b10 b11 b12 s5 s6 s7 s8 s9 s10 s11 s12 s13 s14 s15, listed = #[b0, b1, b2, b3, b4, b5, b6, b7, b8, b9, b10, b11, b12] ∧ a = ⟨#[ptrv bB, .slice (some ⟨g, 0, none⟩) ks.length cap, .pointer (some ⟨w.heap.size, 0, none⟩), undef, .nilFunc, s5, s6, s7, s8, s9, s10, s11, s12, s13, s14, s15, undef], []⟩ ∧ ItemI bm bB ks (.slice (some ⟨g, 0, none⟩) ks.length cap) (.func uf ua ul) w1 b0 b1 b2 b3 b4 b5 b6 b7 b8 b9 b10 b11 b12 s5 s6 s7 s8 s9 s10 s11 s12 s13 s14 s15 W) ?_ ?_ _ _ _ _ ?_ ?_
  · rintro listed a W i ⟨b0, b1, b2, b3, b4, b5, b6, b7, b8, b9, b10, b11, b12, s5, s6, s7, s8, s9, s10, s11, s12, s13, s14, s15, rfl, rfl, hI⟩ hi
    simp only [Region.ready, List.mem_filter, List.mem_range] at hi
    obtain ⟨hlt, hc⟩ := hi
    have hlt : i < 13 := hlt
    obtain rfl | rfl | rfl | rfl | rfl | rfl | rfl | rfl | rfl | rfl | rfl | rfl | rfl : i = 0 ∨ i = 1 ∨ i = 2 ∨ i = 3 ∨ i = 4 ∨ i = 5 ∨ i = 6 ∨ i = 7 ∨ i = 8 ∨ i = 9 ∨ i = 10 ∨ i = 11 ∨ i = 12 := by omega
    all_goals simp [Region.binds] at hc
    · refine wpOp_step rfl ?_
      intro K' hK'
      go_simp
      refine hK' _ _ ⟨_, _, _, _, _, _, _, _, _, _, _, _, _, _, _, _, _, _, _, _, _, _, _, _, rfl, rfl, ?_⟩
      exact ⟨hI.k, fun _ => rfl, hI.f1, hI.f2, hI.f3, hI.f4, hI.f5, hI.f6, hI.f7, hI.f8, hI.f9, hI.f10, hI.ne, hI.d11, hI.d12⟩
    · refine wpOp_step rfl ?_
      intro K' hK'
      have e7 := hI.f0 hc.2
      subst e7
      have hb11 : b11 = false := by
        cases b11 with
        | false => rfl
        | true => have := (hI.d11 rfl).1; simp [hc.1] at this
      subst hb11
      have C := hide (is_AskX bm g cap ks (XX s5 s6) W ((HK.out.trans hI.k).at H2.out (by simp)) HLE.out (fun e hx => by
        obtain ⟨h1, v, h3⟩ := XX.lt hI hx
        have := lt_of_block H2.out
        have := HK.out.size
        exact ⟨lt_of_block h3, by omega⟩))
      go_simp
      refine C.out.mono ?_
      rintro e w' ⟨⟨v, rfl, hv⟩, hk⟩
      have J := hI.go hk
      refine hK' _ _ ⟨_, _, _, _, _, _, _, _, _, _, _, _, _, _, _, _, _, _, _, _, _, _, _, _, rfl, rfl, ?_⟩
      exact ⟨J.k, J.f0, fun _ => hv, J.f2, J.f3, J.f4, J.f5, J.f6, J.f7, J.f8, J.f9, J.f10, J.ne, (fun q => by simp at q), J.d12⟩
    · refine wpOp_step rfl ?_
      intro K' hK'
      have c0 : W.cell? ⟨w.heap.size, 0, none⟩ = some (ptrv bB) := (cell_at (hI.k.at HG.out (by simp)) 0).trans rfl
      go_simp
      refine hK' _ _ ⟨_, _, _, _, _, _, _, _, _, _, _, _, _, _, _, _, _, _, _, _, _, _, _, _, rfl, rfl, ?_⟩
      exact ⟨hI.k, hI.f0, hI.f1, fun _ => rfl, hI.f3, hI.f4, hI.f5, hI.f6, hI.f7, hI.f8, hI.f9, hI.f10, hI.ne, hI.d11, hI.d12⟩
    · refine wpOp_step rfl ?_
      intro K' hK'
      have e9 := hI.f2 hc.2
      subst e9
      go_simp
      refine hK' _ _ ⟨_, _, _, _, _, _, _, _, _, _, _, _, _, _, _, _, _, _, _, _, _, _, _, _, rfl, rfl, ?_⟩
      exact ⟨hI.k, hI.f0, hI.f1, hI.f2, fun _ => rfl, hI.f4, hI.f5, hI.f6, hI.f7, hI.f8, hI.f9, hI.f10, hI.ne, hI.d11, hI.d12⟩
    · refine wpOp_step rfl ?_
      intro K' hK'
      have e10 := hI.f3 hc.2
      subst e10
      go_simp
      refine hK' _ _ ⟨_, _, _, _, _, _, _, _, _, _, _, _, _, _, _, _, _, _, _, _, _, _, _, _, rfl, rfl, ?_⟩
      exact ⟨hI.k, hI.f0, hI.f1, hI.f2, hI.f3, fun _ => rfl, hI.f5, hI.f6, hI.f7, hI.f8, hI.f9, hI.f10, hI.ne, hI.d11, hI.d12⟩
    · refine wpOp_step rfl ?_
      intro K' hK'
      have e11 := hI.f4 hc.2
      subst e11
      have c0 : W.cell? ⟨bB, 184, none⟩ = some (.func uf ua ul) := ((HK.out.trans hI.k).cell (p := ⟨bB, 184, none⟩) HB.out (by simp)).trans HU.out
      go_simp
      refine hK' _ _ ⟨_, _, _, _, _, _, _, _, _, _, _, _, _, _, _, _, _, _, _, _, _, _, _, _, rfl, rfl, ?_⟩
      exact ⟨hI.k, hI.f0, hI.f1, hI.f2, hI.f3, hI.f4, fun _ => rfl, hI.f6, hI.f7, hI.f8, hI.f9, hI.f10, hI.ne, hI.d11, hI.d12⟩
    · refine wpOp_step rfl ?_
      intro K' hK'
      go_simp
      have hk : Kept [] W (W.alloc (.cells #[.string ⟨#[100, 105, 118]⟩, .string ⟨#[112]⟩] 9 (0, 0))) := (Kept.refl _ _).alloc _
      have J := hI.go hk
      refine hK' _ _ ⟨_, _, _, _, _, _, _, _, _, _, _, _, _, _, _, _, _, _, _, _, _, _, _, _, rfl, rfl, ?_⟩
      exact ⟨J.k, J.f0, J.f1, J.f2, J.f3, J.f4, J.f5, fun _ => ⟨_, rfl, heap_alloc_at W _⟩, J.f7, J.f8, J.f9, J.f10, J.ne, J.d11, J.d12⟩
    · refine wpOp_step rfl ?_
      intro K' hK'
      obtain ⟨g3, e13, h13⟩ := hI.f6 (by simp [hc])
      subst e13
      have C := hide (is_AskX bm g3 2 divP (XX s5 s6) W h13 (by decide) (fun e hx => by
        obtain ⟨h1, v, h3⟩ := XX.lt hI hx
        exact ⟨lt_of_block h3, block_ne h3 h13 (by decide)⟩))
      go_simp
      refine C.out.mono ?_
      rintro e w' ⟨⟨v, rfl, hv⟩, hk⟩
      have J := hI.go hk
      refine hK' _ _ ⟨_, _, _, _, _, _, _, _, _, _, _, _, _, _, _, _, _, _, _, _, _, _, _, _, rfl, rfl, ?_⟩
      exact ⟨J.k, J.f0, J.f1, J.f2, J.f3, J.f4, J.f5, J.f6, fun _ => hv, J.f8, J.f9, J.f10, J.ne, J.d11, J.d12⟩
    · refine wpOp_step rfl ?_
      intro K' hK'
      have e12 := hI.f5 (by simp [hc])
      subst e12
      have h14 := hI.f7 (by simp [hc])
      have hb12 : b12 = false := by
        cases b12 with
        | false => rfl
        | true => have := (hI.d12 rfl).1; simp [hc.1] at this
      subst hb12
      have hUx : AskX bm (.func uf ua ul) pSpecial (XX s5 s6) W := (AskX.of (HAk.out.fr (.of_kept0 HK.out)) (fun e he hx => by have := (XX.lt hI hx).1; omega)).kept hI.k
      have C := hide (but_AskX bm (.func uf ua ul) s14 pSpecial (hasS divP) (XX s5 s6) W hUx h14 (fun e hx => by
        obtain ⟨h1, v, h3⟩ := XX.lt hI hx
        exact lt_of_block h3))
      clear hUx h14
      go_simp
      refine C.out.mono ?_
      rintro e w' ⟨⟨v, rfl, hv⟩, hk⟩
      have J := hI.go hk
      refine hK' _ _ ⟨_, _, _, _, _, _, _, _, _, _, _, _, _, _, _, _, _, _, _, _, _, _, _, _, rfl, rfl, ?_⟩
      exact ⟨J.k, J.f0, J.f1, J.f2, J.f3, J.f4, J.f5, J.f6, J.f7, fun _ => hv, J.f9, J.f10, J.ne, J.d11, (fun q => by simp at q)⟩
    · refine wpOp_step rfl ?_
      intro K' hK'
      have hbs : b11 = false := by
        cases b11 with
        | false => rfl
        | true => have := (hI.d11 rfl).2; simp [hc] at this
      subst hbs
      have hb : b9 = false := by simpa using hc
      subst hb
      have hs : s5 = undef := hI.f9
      subst hs
      go_simp
      have hk : Kept [] W (W.alloc (.cells #[.nilFunc] 89 (0, 0))) := (Kept.refl _ _).alloc _
      have J := hI.go hk
      have hX : ∀ e, e < W.heap.size → XX (ptrv W.heap.size) s6 e → XX undef s6 e := fun e he hx => by
        rcases hx with hx | hx
        · simp at hx <;> omega
        · exact .inr hx
      refine hK' _ _ ⟨_, _, _, _, _, _, _, _, _, _, _, _, _, _, _, _, _, _, _, _, _, _, _, _, rfl, rfl, ?_⟩
      exact ⟨J.k, J.f0, (fun q => ((hI.f1 q).other hX).kept hk), J.f2, J.f3, J.f4, J.f5, J.f6, (fun q => ((hI.f7 q).other hX).kept hk), (fun q => ((hI.f8 q).other hX).kept hk), ⟨_, rfl, hI.k.size, heap_alloc_at W _⟩, J.f10, (fun _ q => by subst q; obtain ⟨k, e1, h1, h3⟩ := hI.f10; have := lt_of_block h3; rw [e1]; simp <;> omega), (fun q => by simp at q), J.d12⟩
    · refine wpOp_step rfl ?_
      intro K' hK'
      have hbs : b12 = false := by
        cases b12 with
        | false => rfl
        | true => have := (hI.d12 rfl).2; simp [hc] at this
      subst hbs
      have hb : b10 = false := by simpa using hc
      subst hb
      have hs : s6 = undef := hI.f10
      subst hs
      go_simp
      have hk : Kept [] W (W.alloc (.cells #[.nilFunc] 89 (0, 0))) := (Kept.refl _ _).alloc _
      have J := hI.go hk
      have hX : ∀ e, e < W.heap.size → XX s5 (ptrv W.heap.size) e → XX s5 undef e := fun e he hx => by
        rcases hx with hx | hx
        · exact .inl hx
        · simp at hx <;> omega
      refine hK' _ _ ⟨_, _, _, _, _, _, _, _, _, _, _, _, _, _, _, _, _, _, _, _, _, _, _, _, rfl, rfl, ?_⟩
      exact ⟨J.k, J.f0, (fun q => ((hI.f1 q).other hX).kept hk), J.f2, J.f3, J.f4, J.f5, J.f6, (fun q => ((hI.f7 q).other hX).kept hk), (fun q => ((hI.f8 q).other hX).kept hk), J.f9, ⟨_, rfl, hI.k.size, heap_alloc_at W _⟩, (fun q _ => by subst q; obtain ⟨k, e1, h1, h3⟩ := hI.f9; have := lt_of_block h3; rw [e1]; simp <;> omega), J.d11, (fun q => by simp at q)⟩
    · refine wpOp_step rfl ?_
      intro K' hK'
      have hbs : b11 = false := by simp [hc]
      subst hbs
      have hb : b9 = true := by simp [hc]
      have hb' : b1 = true := by simp [hc]
      subst hb hb'
      obtain ⟨k, hs, h1, h3⟩ := hI.f9
      subst hs
      obtain ⟨f, aa, ll, hv⟩ := (hI.f1 rfl).ask.func
      subst hv
      have c0 : W.cell? ⟨k, 0, none⟩ = some .nilFunc := (cell_at h3 0).trans rfl
      have c1 := free_at h3 0
      go_simp
      have hx : XX (ptrv k) s6 k := .inl rfl
      refine hK' _ _ ⟨_, _, _, _, _, _, _, _, _, _, _, _, _, _, _, _, _, _, _, _, _, _, _, _, rfl, rfl, ?_⟩
      refine ⟨hI.k.setCell (p := ⟨k, 0, none⟩) (.inr h1) _, hI.f0, (fun q => (hI.f1 q).set hx _), hI.f2, hI.f3, hI.f4, hI.f5, fun q => ?_, (fun q => (hI.f7 q).set hx _), (fun q => (hI.f8 q).set hx _), ⟨k, rfl, h1, (block_setCell h3 0 _).trans rfl⟩, ?_, hI.ne, (fun _ => ⟨rfl, rfl⟩), hI.d12⟩
      · obtain ⟨g3, e13, h13⟩ := hI.f6 q
        exact ⟨g3, e13, (Below.heap_setCell W ⟨k, 0, none⟩ _ g3 (block_ne h13 h3 (by decide))).trans h13⟩
      · have := hI.f10
        split at this
        · rename_i hq
          obtain ⟨k2, e2, h4, h5⟩ := this
          rw [if_pos hq]
          refine ⟨k2, e2, h4, (Below.heap_setCell W ⟨k, 0, none⟩ _ k2 (fun q => ?_)).trans h5⟩
          subst q
          exact hI.ne rfl hq e2.symm
        · rename_i hq
          rw [if_neg hq]
          exact this
    · refine wpOp_step rfl ?_
      intro K' hK'
      have hbs : b12 = false := by simp [hc]
      subst hbs
      have hb : b10 = true := by simp [hc]
      have hb' : b8 = true := by simp [hc]
      subst hb hb'
      obtain ⟨k, hs, h1, h3⟩ := hI.f10
      subst hs
      obtain ⟨f, aa, ll, hv⟩ := (hI.f8 rfl).ask.func
      subst hv
      have c0 : W.cell? ⟨k, 0, none⟩ = some .nilFunc := (cell_at h3 0).trans rfl
      have c1 := free_at h3 0
      go_simp
      have hx : XX s5 (ptrv k) k := .inr rfl
      refine hK' _ _ ⟨_, _, _, _, _, _, _, _, _, _, _, _, _, _, _, _, _, _, _, _, _, _, _, _, rfl, rfl, ?_⟩
      refine ⟨hI.k.setCell (p := ⟨k, 0, none⟩) (.inr h1) _, hI.f0, (fun q => (hI.f1 q).set hx _), hI.f2, hI.f3, hI.f4, hI.f5, fun q => ?_, (fun q => (hI.f7 q).set hx _), (fun q => (hI.f8 q).set hx _), ?_, ⟨k, rfl, h1, (block_setCell h3 0 _).trans rfl⟩, hI.ne, hI.d11, (fun _ => ⟨rfl, rfl⟩)⟩
      · obtain ⟨g3, e13, h13⟩ := hI.f6 q
        exact ⟨g3, e13, (Below.heap_setCell W ⟨k, 0, none⟩ _ g3 (block_ne h13 h3 (by decide))).trans h13⟩
      · have := hI.f9
        split at this
        · rename_i hq
          obtain ⟨k2, e2, h4, h5⟩ := this
          rw [if_pos hq]
          refine ⟨k2, e2, h4, (Below.heap_setCell W ⟨k, 0, none⟩ _ k2 (fun q => ?_)).trans h5⟩
          subst q
          exact hI.ne hq rfl e2
        · rename_i hq
          rw [if_neg hq]
          exact this
  · rintro listed a W ⟨b0, b1, b2, b3, b4, b5, b6, b7, b8, b9, b10, b11, b12, s5, s6, s7, s8, s9, s10, s11, s12, s13, s14, s15, rfl, rfl, hI⟩ hr
    simp only [Region.ready, List.filter_eq_nil_iff, List.mem_range] at hr
    have q0 := hr 0 (by decide)
    simp [Region.binds] at q0
    subst q0
    have q1 := hr 1 (by decide)
    simp [Region.binds] at q1
    subst q1
    have q2 := hr 2 (by decide)
    simp [Region.binds] at q2
    subst q2
    have q3 := hr 3 (by decide)
    simp [Region.binds] at q3
    subst q3
    have q4 := hr 4 (by decide)
    simp [Region.binds] at q4
    subst q4
    have q5 := hr 5 (by decide)
    simp [Region.binds] at q5
    subst q5
    have q6 := hr 6 (by decide)
    simp [Region.binds] at q6
    subst q6
    have q7 := hr 7 (by decide)
    simp [Region.binds] at q7
    subst q7
    have q8 := hr 8 (by decide)
    simp [Region.binds] at q8
    subst q8
    have q9 := hr 9 (by decide)
    simp [Region.binds] at q9
    subst q9
    have q10 := hr 10 (by decide)
    simp [Region.binds] at q10
    subst q10
    have q11 := hr 11 (by decide)
    simp [Region.binds] at q11
    subst q11
    have q12 := hr 12 (by decide)
    simp [Region.binds] at q12
    subst q12
    obtain ⟨k5, e5, h5, x5⟩ := hI.f9
    obtain ⟨k6, e6, h6, x6⟩ := hI.f10
    subst e5 e6
    have A1 := hide (hI.f1 rfl).ask
    have A2 := hide (hI.f8 rfl).ask
    have X5 := hide x5
    have X6 := hide x6
    have HK2 := hide (HK.out.trans hI.k)
    have G2 := hide (hI.k.at HG.out (by simp))
    clear hI hr x5 x6 h5 h6
    rename_i KK hKK
    refine hKK _ _ ?_
    clear hKK KK
    go_wp2
    go_ret
    exact ⟨⟨_, rfl, _, _, _, _, _, rfl, G2.out, X5.out, A1.out, X6.out, A2.out⟩, HK2.out⟩
  · decide
  · exact ⟨false, false, false, false, false, false, false, false, false, false, false, false, false, undef, undef, undef, undef, undef, undef, undef, undef, undef, undef, undef, rfl, rfl, (Kept.refl _ _).drew, by simp, by simp, by simp, by simp, by simp, by simp, by simp, by simp, by simp, rfl, rfl, by simp, by simp, by simp⟩
end Go.Proofs.YtlhhgenpcjjajaaGreatDoor
namespace Go.Proofs.YtlhhgenpcjjajaaGreatDoor
open Go.RowKit
def BS (bm bB : Nat) (w : World) : Prop := bB < w.heap.size ∧ ∃ u, w.cell? ⟨bB, 184, none⟩ = some u ∧ Ask bm u pSpecial w
theorem BS.kept0 {bm bB : Nat} {w w' : World} (h : BS bm bB w) (hk : Kept [] w w') : BS bm bB w' := by
  obtain ⟨h1, u, hu, hA⟩ := h
  exact ⟨Nat.lt_of_lt_of_le h1 hk.size, u, (hk.cell (p := ⟨bB, 184, none⟩) h1 (by simp)).trans hu, hA.fr (.of_kept0 hk)⟩
theorem StM.top {bm bB bD b : Nat} {w cw : World} {rs : List (Ru × Value)} {R : List (List ByteArray × Ru)} {ms : List (Nat × List (List ByteArray × Ru))} (s : StM bm bB bD w cw rs ((b, R) :: ms)) : IsMap bm bB bD b R (.map (some b)) cw ∧ w.heap.size ≤ b ∧ b ≠ bm := s.hms (b, R) (by simp)
theorem StM.slice {bm bB bD : Nat} {w cw : World} {rs : List (Ru × Value)} {ms : List (Nat × List (List ByteArray × Ru))} (s : StM bm bB bD w cw rs ms) (ss : List ByteArray) (lit : Array Value) (hl : (ss.map Value.string).toArray = lit) : ∃ W g, W = cw.alloc (.cells lit 9 (0, 0)) ∧ g = cw.heap.size ∧ W.heap[g]? = some (.cells (ss.map Value.string).toArray 9 (0, 0)) ∧ StM bm bB bD w W rs ms :=
  ⟨_, _, rfl, rfl, by rw [hl]; exact heap_alloc_at cw _, s.call0 ((Kept.refl _ _).alloc _)⟩
theorem ru_itemS {bm bB bD : Nat} {w cw : World} {rs : List (Ru × Value)} {ms : List (Nat × List (List ByteArray × Ru))} (s : StM bm bB bD w cw rs ms) (hbs : BS bm bB w) (g cap : Nat) (ks : List ByteArray) (hg : cw.heap[g]? = some (.cells (ks.map Value.string).toArray 9 (0, 0))) (hle : ks.length ≤ 4096) :
    Calls Tryz.prog 198 #[ptrv bB, .slice (some ⟨g, 0, none⟩) ks.length cap] cw (Makes bm bB bD (.item ks) cw) := by
  obtain ⟨h1, u, hu, hA⟩ := hbs.kept0 s.k
  exact ru_item bm bB bD g cap ks u cw h1 hu hA hg hle
def mp_startTagsInBody : List (List ByteArray × Ru) := [([⟨#[111, 98, 106, 101, 99, 116]⟩], (.meth 208)), ([⟨#[110, 111, 98, 114]⟩], (.meth 207)), ([⟨#[98]⟩, ⟨#[105]⟩], (.meth 206)), ([⟨#[97]⟩], (.meth 205)), ([⟨#[98, 114]⟩, ⟨#[105, 109, 103]⟩, ⟨#[105, 110, 112, 117, 116]⟩], (.meth 204)), ([⟨#[115, 101, 108, 101, 99, 116]⟩], (.meth 203)), ([⟨#[111, 112, 116, 105, 111, 110]⟩, ⟨#[111, 112, 116, 103, 114, 111, 117, 112]⟩], (.meth 202)), ([⟨#[116, 101, 120, 116, 97, 114, 101, 97]⟩], (.meth 201)), ([⟨#[116, 97, 98, 108, 101]⟩], (.meth 200)), ([⟨#[98, 117, 116, 116, 111, 110]⟩], (.meth 199)), ([⟨#[100, 100]⟩, ⟨#[100, 116]⟩], (.item [⟨#[100, 100]⟩, ⟨#[100, 116]⟩])), ([⟨#[108, 105]⟩], (.item [⟨#[108, 105]⟩])), ([⟨#[102, 111, 114, 109]⟩], (.meth 197)), ([⟨#[104, 114]⟩], (.meth 196)), ([⟨#[104, 49]⟩, ⟨#[104, 50]⟩], (.meth 195)), ([⟨#[112, 114, 101]⟩], (.meth 194)), ([⟨#[100, 105, 118]⟩, ⟨#[117, 108]⟩, ⟨#[100, 108]⟩, ⟨#[112]⟩], (.meth 193)), ([⟨#[104, 101, 97, 100]⟩, ⟨#[99, 97, 112, 116, 105, 111, 110]⟩, ⟨#[99, 111, 108]⟩, ⟨#[99, 111, 108, 103, 114, 111, 117, 112]⟩, ⟨#[116, 98, 111, 100, 121]⟩, ⟨#[116, 100]⟩, ⟨#[116, 102, 111, 111, 116]⟩, ⟨#[116, 104]⟩, ⟨#[116, 104, 101, 97, 100]⟩, ⟨#[116, 114]⟩], .nothing), ([⟨#[109, 101, 116, 97]⟩, ⟨#[116, 105, 116, 108, 101]⟩, ⟨#[115, 116, 121, 108, 101]⟩], (.asIn 3)), ([⟨#[98, 111, 100, 121]⟩], (.meth 192)), ([⟨#[104, 116, 109, 108]⟩], (.meth 191))]
set_option maxHeartbeats 8000000 in
set_option maxRecDepth 100000 in
theorem m_startTagsInBody (bm bB bD : Nat) (w : World) (hbs : BS bm bB w) (ht : Tab w) (hbm : bm < w.heap.size) :
    Calls Tryz.prog 121 #[ptrv bB] w (MakesMap bm bB bD mp_startTagsInBody w) := by
  have HBS := hide hbs
  clear hbs
  have hmm := @run_makeMap Tryz.prog
  have HS0 := hide (StM.start bm bB bD w ht hbm)
  clear ht hbm
  go_enter Tryz.func121, Tryz.ntmps121
  obtain ⟨W1, b1, hW1, hb1, S1⟩ := HS0.out.map
  have HS1 := hide S1
  have HW1 := hide hW1
  have HB1 := hide hb1
  clear hW1 hb1 S1
  go_wp2_with fail
  rw [← HW1.out, ← HB1.out]
  refine (on_map bm bB bD b1 _ [⟨#[104, 116, 109, 108]⟩] (.meth 191) _ _ _ (by kernel_rfl) (by kernel_rfl) HS1.out.t HS1.out.top.1 HS1.out.top.2.2 rfl).mono ?_
  rintro e W2 ⟨rfl, hm2, hk2, hf2⟩
  have HS2 := hide (HS1.out.on hk2 hf2 hm2)
  clear hm2 hk2 hf2
  go_wp2_with fail
  refine (on_map bm bB bD b1 _ [⟨#[98, 111, 100, 121]⟩] (.meth 192) _ _ _ (by kernel_rfl) (by kernel_rfl) HS2.out.t HS2.out.top.1 HS2.out.top.2.2 rfl).mono ?_
  rintro e W3 ⟨rfl, hm3, hk3, hf3⟩
  have HS3 := hide (HS2.out.on hk3 hf3 hm3)
  clear hm3 hk3 hf3
  go_wp2_with fail
  refine (ru_asIn bm bB bD 3 _).mono ?_
  rintro e W4 ⟨⟨x4, rfl, hr4⟩, hk4⟩
  obtain ⟨f4, a4, l4, hv4⟩ := hr4.func (by simp)
  subst hv4
  have HS4 := hide (HS3.out.call hk4 hr4)
  clear hr4 hk4
  go_wp2_with fail
  refine (on_map bm bB bD b1 _ [⟨#[109, 101, 116, 97]⟩, ⟨#[116, 105, 116, 108, 101]⟩, ⟨#[115, 116, 121, 108, 101]⟩] (.asIn 3) _ _ _ (by kernel_rfl) (by kernel_rfl) HS4.out.t HS4.out.top.1 HS4.out.top.2.2 (HS4.out.at (by simp))).mono ?_
  rintro e W5 ⟨rfl, hm5, hk5, hf5⟩
  have HS5 := hide (HS4.out.on hk5 hf5 hm5)
  clear hm5 hk5 hf5
  go_wp2_with fail
  refine (on_map bm bB bD b1 _ [⟨#[104, 101, 97, 100]⟩, ⟨#[99, 97, 112, 116, 105, 111, 110]⟩, ⟨#[99, 111, 108]⟩, ⟨#[99, 111, 108, 103, 114, 111, 117, 112]⟩, ⟨#[116, 98, 111, 100, 121]⟩, ⟨#[116, 100]⟩, ⟨#[116, 102, 111, 111, 116]⟩, ⟨#[116, 104]⟩, ⟨#[116, 104, 101, 97, 100]⟩, ⟨#[116, 114]⟩] .nothing _ _ _ (by kernel_rfl) (by kernel_rfl) HS5.out.t HS5.out.top.1 HS5.out.top.2.2 rfl).mono ?_
  rintro e W6 ⟨rfl, hm6, hk6, hf6⟩
  have HS6 := hide (HS5.out.on hk6 hf6 hm6)
  clear hm6 hk6 hf6
  go_wp2_with fail
  refine (on_map bm bB bD b1 _ [⟨#[100, 105, 118]⟩, ⟨#[117, 108]⟩, ⟨#[100, 108]⟩, ⟨#[112]⟩] (.meth 193) _ _ _ (by kernel_rfl) (by kernel_rfl) HS6.out.t HS6.out.top.1 HS6.out.top.2.2 rfl).mono ?_
  rintro e W7 ⟨rfl, hm7, hk7, hf7⟩
  have HS7 := hide (HS6.out.on hk7 hf7 hm7)
  clear hm7 hk7 hf7
  go_wp2_with fail
  refine (on_map bm bB bD b1 _ [⟨#[112, 114, 101]⟩] (.meth 194) _ _ _ (by kernel_rfl) (by kernel_rfl) HS7.out.t HS7.out.top.1 HS7.out.top.2.2 rfl).mono ?_
  rintro e W8 ⟨rfl, hm8, hk8, hf8⟩
  have HS8 := hide (HS7.out.on hk8 hf8 hm8)
  clear hm8 hk8 hf8
  go_wp2_with fail
  refine (on_map bm bB bD b1 _ [⟨#[104, 49]⟩, ⟨#[104, 50]⟩] (.meth 195) _ _ _ (by kernel_rfl) (by kernel_rfl) HS8.out.t HS8.out.top.1 HS8.out.top.2.2 rfl).mono ?_
  rintro e W9 ⟨rfl, hm9, hk9, hf9⟩
  have HS9 := hide (HS8.out.on hk9 hf9 hm9)
  clear hm9 hk9 hf9
  go_wp2_with fail
  refine (on_map bm bB bD b1 _ [⟨#[104, 114]⟩] (.meth 196) _ _ _ (by kernel_rfl) (by kernel_rfl) HS9.out.t HS9.out.top.1 HS9.out.top.2.2 rfl).mono ?_
  rintro e W10 ⟨rfl, hm10, hk10, hf10⟩
  have HS10 := hide (HS9.out.on hk10 hf10 hm10)
  clear hm10 hk10 hf10
  go_wp2_with fail
  refine (on_map bm bB bD b1 _ [⟨#[102, 111, 114, 109]⟩] (.meth 197) _ _ _ (by kernel_rfl) (by kernel_rfl) HS10.out.t HS10.out.top.1 HS10.out.top.2.2 rfl).mono ?_
  rintro e W11 ⟨rfl, hm11, hk11, hf11⟩
  have HS11 := hide (HS10.out.on hk11 hf11 hm11)
  clear hm11 hk11 hf11
  obtain ⟨W12, g1, hW12, hg1, hs1, S12⟩ := HS11.out.slice [⟨#[108, 105]⟩] #[.string ⟨#[108, 105]⟩] rfl
  have HS12 := hide S12
  have HW12 := hide hW12
  have HG1 := hide hg1
  have HSL1 := hide hs1
  clear hW12 hg1 hs1 S12
  go_wp2_with fail
  rw [← HW12.out, ← HG1.out]
  refine (ru_itemS HS12.out HBS.out g1 1 [⟨#[108, 105]⟩] HSL1.out (by decide)).mono ?_
  rintro e W13 ⟨⟨x13, rfl, hr13⟩, hk13⟩
  obtain ⟨f13, a13, l13, hv13⟩ := hr13.func (by simp)
  subst hv13
  have HS13 := hide (HS12.out.call hk13 hr13)
  clear hr13 hk13
  go_wp2_with fail
  refine (on_map bm bB bD b1 _ [⟨#[108, 105]⟩] (.item [⟨#[108, 105]⟩]) _ _ _ (by kernel_rfl) (by kernel_rfl) HS13.out.t HS13.out.top.1 HS13.out.top.2.2 (HS13.out.at (by simp))).mono ?_
  rintro e W14 ⟨rfl, hm14, hk14, hf14⟩
  have HS14 := hide (HS13.out.on hk14 hf14 hm14)
  clear hm14 hk14 hf14
  obtain ⟨W15, g2, hW15, hg2, hs2, S15⟩ := HS14.out.slice [⟨#[100, 100]⟩, ⟨#[100, 116]⟩] #[.string ⟨#[100, 100]⟩, .string ⟨#[100, 116]⟩] rfl
  have HS15 := hide S15
  have HW15 := hide hW15
  have HG2 := hide hg2
  have HSL2 := hide hs2
  clear hW15 hg2 hs2 S15
  go_wp2_with fail
  rw [← HW15.out, ← HG2.out]
  refine (ru_itemS HS15.out HBS.out g2 2 [⟨#[100, 100]⟩, ⟨#[100, 116]⟩] HSL2.out (by decide)).mono ?_
  rintro e W16 ⟨⟨x16, rfl, hr16⟩, hk16⟩
  obtain ⟨f16, a16, l16, hv16⟩ := hr16.func (by simp)
  subst hv16
  have HS16 := hide (HS15.out.call hk16 hr16)
  clear hr16 hk16
  go_wp2_with fail
  refine (on_map bm bB bD b1 _ [⟨#[100, 100]⟩, ⟨#[100, 116]⟩] (.item [⟨#[100, 100]⟩, ⟨#[100, 116]⟩]) _ _ _ (by kernel_rfl) (by kernel_rfl) HS16.out.t HS16.out.top.1 HS16.out.top.2.2 (HS16.out.at (by simp))).mono ?_
  rintro e W17 ⟨rfl, hm17, hk17, hf17⟩
  have HS17 := hide (HS16.out.on hk17 hf17 hm17)
  clear hm17 hk17 hf17
  go_wp2_with fail
  refine (on_map bm bB bD b1 _ [⟨#[98, 117, 116, 116, 111, 110]⟩] (.meth 199) _ _ _ (by kernel_rfl) (by kernel_rfl) HS17.out.t HS17.out.top.1 HS17.out.top.2.2 rfl).mono ?_
  rintro e W18 ⟨rfl, hm18, hk18, hf18⟩
  have HS18 := hide (HS17.out.on hk18 hf18 hm18)
  clear hm18 hk18 hf18
  go_wp2_with fail
  refine (on_map bm bB bD b1 _ [⟨#[116, 97, 98, 108, 101]⟩] (.meth 200) _ _ _ (by kernel_rfl) (by kernel_rfl) HS18.out.t HS18.out.top.1 HS18.out.top.2.2 rfl).mono ?_
  rintro e W19 ⟨rfl, hm19, hk19, hf19⟩
  have HS19 := hide (HS18.out.on hk19 hf19 hm19)
  clear hm19 hk19 hf19
  go_wp2_with fail
  refine (on_map bm bB bD b1 _ [⟨#[116, 101, 120, 116, 97, 114, 101, 97]⟩] (.meth 201) _ _ _ (by kernel_rfl) (by kernel_rfl) HS19.out.t HS19.out.top.1 HS19.out.top.2.2 rfl).mono ?_
  rintro e W20 ⟨rfl, hm20, hk20, hf20⟩
  have HS20 := hide (HS19.out.on hk20 hf20 hm20)
  clear hm20 hk20 hf20
  go_wp2_with fail
  refine (on_map bm bB bD b1 _ [⟨#[111, 112, 116, 105, 111, 110]⟩, ⟨#[111, 112, 116, 103, 114, 111, 117, 112]⟩] (.meth 202) _ _ _ (by kernel_rfl) (by kernel_rfl) HS20.out.t HS20.out.top.1 HS20.out.top.2.2 rfl).mono ?_
  rintro e W21 ⟨rfl, hm21, hk21, hf21⟩
  have HS21 := hide (HS20.out.on hk21 hf21 hm21)
  clear hm21 hk21 hf21
  go_wp2_with fail
  refine (on_map bm bB bD b1 _ [⟨#[115, 101, 108, 101, 99, 116]⟩] (.meth 203) _ _ _ (by kernel_rfl) (by kernel_rfl) HS21.out.t HS21.out.top.1 HS21.out.top.2.2 rfl).mono ?_
  rintro e W22 ⟨rfl, hm22, hk22, hf22⟩
  have HS22 := hide (HS21.out.on hk22 hf22 hm22)
  clear hm22 hk22 hf22
  go_wp2_with fail
  refine (on_map bm bB bD b1 _ [⟨#[98, 114]⟩, ⟨#[105, 109, 103]⟩, ⟨#[105, 110, 112, 117, 116]⟩] (.meth 204) _ _ _ (by kernel_rfl) (by kernel_rfl) HS22.out.t HS22.out.top.1 HS22.out.top.2.2 rfl).mono ?_
  rintro e W23 ⟨rfl, hm23, hk23, hf23⟩
  have HS23 := hide (HS22.out.on hk23 hf23 hm23)
  clear hm23 hk23 hf23
  go_wp2_with fail
  refine (on_map bm bB bD b1 _ [⟨#[97]⟩] (.meth 205) _ _ _ (by kernel_rfl) (by kernel_rfl) HS23.out.t HS23.out.top.1 HS23.out.top.2.2 rfl).mono ?_
  rintro e W24 ⟨rfl, hm24, hk24, hf24⟩
  have HS24 := hide (HS23.out.on hk24 hf24 hm24)
  clear hm24 hk24 hf24
  go_wp2_with fail
  refine (on_map bm bB bD b1 _ [⟨#[98]⟩, ⟨#[105]⟩] (.meth 206) _ _ _ (by kernel_rfl) (by kernel_rfl) HS24.out.t HS24.out.top.1 HS24.out.top.2.2 rfl).mono ?_
  rintro e W25 ⟨rfl, hm25, hk25, hf25⟩
  have HS25 := hide (HS24.out.on hk25 hf25 hm25)
  clear hm25 hk25 hf25
  go_wp2_with fail
  refine (on_map bm bB bD b1 _ [⟨#[110, 111, 98, 114]⟩] (.meth 207) _ _ _ (by kernel_rfl) (by kernel_rfl) HS25.out.t HS25.out.top.1 HS25.out.top.2.2 rfl).mono ?_
  rintro e W26 ⟨rfl, hm26, hk26, hf26⟩
  have HS26 := hide (HS25.out.on hk26 hf26 hm26)
  clear hm26 hk26 hf26
  go_wp2_with fail
  refine (on_map bm bB bD b1 _ [⟨#[111, 98, 106, 101, 99, 116]⟩] (.meth 208) _ _ _ (by kernel_rfl) (by kernel_rfl) HS26.out.t HS26.out.top.1 HS26.out.top.2.2 rfl).mono ?_
  rintro e W27 ⟨rfl, hm27, hk27, hf27⟩
  have HS27 := hide (HS26.out.on hk27 hf27 hm27)
  clear hm27 hk27 hf27
  go_wp2
  go_ret
  exact ⟨b1, rfl, HS27.out.top.1, HS27.out.top.2.1, HS27.out.top.2.2, HS27.out.k⟩
end Go.Proofs.YtlhhgenpcjjajaaGreatDoor
namespace Go.Proofs.YtlhhgenpcjjajaaGreatDoor
open Go.RowKit
def sp_inBody : RSpec := { char := .meth 120, comment := .comment 105 true, start := some mp_startTagsInBody, stop := some mp_endTagsInBody, otherStart := .meth 122, otherEnd := .meth 124, others := .nothing }
set_option maxHeartbeats 8000000 in
set_option maxRecDepth 100000 in
theorem r_inBody (bm bB bD : Nat) (w : World) (hb : BS bm bB w) (ht : Tab w) (hbm : bm < w.heap.size) :
    Calls Tryz.prog 75 #[ptrv bB] w (MakesRules bm bB bD sp_inBody w) := by
  obtain ⟨W0, hW0, S0⟩ := St.start bm bB bD w ht hbm
  have HB := hide hb
  have HS0 := hide S0
  have HW0 := hide hW0
  clear S0 hW0 ht hbm hb
  go_enter Tryz.func75, Tryz.ntmps75
  go_wp2_with fail
  rw [← HW0.out]
  refine (ru_comment bm bB bD 105 true _).mono ?_
  rintro e W1 ⟨⟨x1, rfl, hr1⟩, hk1⟩
  obtain ⟨f1, a1, l1, hv1⟩ := hr1.func (by simp)
  subst hv1
  have HS1 := hide (HS0.out.call hk1 hr1)
  clear hr1 hk1
  go_wp2_with fail
  refine (m_startTagsInBody bm bB bD _ (HB.out.kept0 HS1.out.k) HS1.out.t (Nat.lt_of_lt_of_le HS1.out.lt HS1.out.k.size)).mono ?_
  rintro e W2 ⟨b1, rfl, hm2, hb2, hne2, hk2⟩
  have HS2 := hide (HS1.out.mapOf hk2 hm2 hb2 hne2)
  clear hm2 hb2 hne2 hk2
  go_wp2_with fail
  refine (m_endTagsInBody bm bB bD _ HS2.out.t (Nat.lt_of_lt_of_le HS2.out.lt HS2.out.k.size)).mono ?_
  rintro e W3 ⟨b2, rfl, hm3, hb3, hne3, hk3⟩
  have HS3 := hide (HS2.out.mapOf hk3 hm3 hb3 hne3)
  clear hm3 hb3 hne3 hk3
  have HF := hide (stored_rules (sp := sp_inBody) (v0 := .nilFunc) (v1 := .func (.func 120) #[ptrv bB] #[]) (v2 := .func f1 a1 l1) (v3 := .nilFunc) (v4 := .nilFunc) (v5 := .map (some b1)) (v6 := .map (some b2)) (v7 := .func (.func 122) #[ptrv bB] #[]) (v8 := .func (.func 124) #[ptrv bB] #[]) (v9 := .func (.func 97) #[] #[]) HS3.out.g HS3.out.k ⟨rfl, rfl, (HS3.out.at (r := .comment 105 true) (v := .func f1 a1 l1) (by simp)), rfl, rfl, (HS3.out.mapAt (b := b1) (R := mp_startTagsInBody) (by simp)), (HS3.out.mapAt (b := b2) (R := mp_endTagsInBody) (by simp)), rfl, rfl, rfl⟩ _ rfl)
  obtain ⟨q0, q1, q2, q3, q4, q5, q6, q7, q8, q9⟩ := zero_cells HS3.out.g
  have u0 := free_at HS3.out.g 0
  have u1 := free_at HS3.out.g 1
  have u2 := free_at HS3.out.g 2
  have u3 := free_at HS3.out.g 3
  have u4 := free_at HS3.out.g 4
  have u5 := free_at HS3.out.g 5
  have u6 := free_at HS3.out.g 6
  have u7 := free_at HS3.out.g 7
  have u8 := free_at HS3.out.g 8
  have u9 := free_at HS3.out.g 9
  go_wp2
  exact fin_rules Tryz.results75 rfl rfl HF.out
end Go.Proofs.YtlhhgenpcjjajaaGreatDoor
namespace Go.Proofs.YtlhhgenpcjjajaaGreatDoor
open Go.RowKit
def sp_beforeHTML : RSpec := { blank := .nothing, comment := .comment 99 false, doctype := .nothing, start := some [([⟨#[104, 116, 109, 108]⟩], (.meth 103))], stop := some [([⟨#[104, 101, 97, 100]⟩, ⟨#[98, 111, 100, 121]⟩, ⟨#[104, 116, 109, 108]⟩, ⟨#[98, 114]⟩], (.meth 104))], otherEnd := .nothing, others := .meth 104 }
set_option maxHeartbeats 8000000 in
set_option maxRecDepth 100000 in
theorem r_beforeHTML (bm bB bD : Nat) (w : World) (hb : BD bB bD w) (ht : Tab w) (hbm : bm < w.heap.size) :
    Calls Tryz.prog 70 #[ptrv bB] w (MakesRules bm bB bD sp_beforeHTML w) := by
  have hmm := @run_makeMap Tryz.prog
  obtain ⟨W0, hW0, S0⟩ := St.start bm bB bD w ht hbm
  obtain ⟨c187, hBl⟩ := hb
  have HS0 := hide S0
  have HW0 := hide hW0
  clear S0 hW0 ht hbm
  go_enter Tryz.func70, Tryz.ntmps70
  go_wp2_with fail
  rw [← HW0.out]
  refine (ru_comment bm bB bD 99 false _).mono ?_
  rintro e W1 ⟨⟨x1, rfl, hr1⟩, hk1⟩
  obtain ⟨f1, a1, l1, hv1⟩ := hr1.func (by simp)
  subst hv1
  have HS1 := hide (HS0.out.call hk1 hr1)
  clear hr1 hk1
  obtain ⟨W2, b1, hW2, hb1, S2⟩ := HS1.out.map
  have HS2 := hide S2
  have HW2 := hide hW2
  have HB1 := hide hb1
  clear hW2 hb1 S2
  go_wp2_with fail
  rw [← HW2.out, ← HB1.out]
  refine (on_map bm bB bD b1 _ [⟨#[104, 116, 109, 108]⟩] (.meth 103) [] _ _ (by kernel_rfl) (by kernel_rfl) HS2.out.t (HS2.out.hms (b1, []) (by simp)).1 (HS2.out.hms (b1, []) (by simp)).2.2 rfl).mono ?_
  rintro e W3 ⟨rfl, hm3, hk3, hf3⟩
  have HS3 := hide (HS2.out.on hk3 hf3 hm3)
  clear hm3 hk3 hf3
  obtain ⟨W4, b2, hW4, hb2, S4⟩ := HS3.out.map
  have HS4 := hide S4
  have HW4 := hide hW4
  have HB2 := hide hb2
  clear hW4 hb2 S4
  go_wp2_with fail
  rw [← HW4.out, ← HB2.out]
  refine (on_map bm bB bD b2 _ [⟨#[104, 101, 97, 100]⟩, ⟨#[98, 111, 100, 121]⟩, ⟨#[104, 116, 109, 108]⟩, ⟨#[98, 114]⟩] (.meth 104) [] _ _ (by kernel_rfl) (by kernel_rfl) HS4.out.t (HS4.out.hms (b2, []) (by simp)).1 (HS4.out.hms (b2, []) (by simp)).2.2 rfl).mono ?_
  rintro e W5 ⟨rfl, hm5, hk5, hf5⟩
  have HS5 := hide (HS4.out.on hk5 hf5 hm5)
  clear hm5 hk5 hf5
  have HF := hide (stored_rules (sp := sp_beforeHTML) (v0 := .func (.func 97) #[] #[]) (v1 := .nilFunc) (v2 := .func f1 a1 l1) (v3 := .func (.func 97) #[] #[]) (v4 := .nilFunc) (v5 := .map (some b1)) (v6 := .map (some b2)) (v7 := .nilFunc) (v8 := .func (.func 97) #[] #[]) (v9 := .func (.func 104) #[ptrv bB] #[]) HS5.out.g HS5.out.k ⟨rfl, rfl, (HS5.out.at (r := .comment 99 false) (v := .func f1 a1 l1) (by simp)), rfl, rfl, (HS5.out.mapAt (b := b1) (R := [([⟨#[104, 116, 109, 108]⟩], (.meth 103))]) (by simp)), (HS5.out.mapAt (b := b2) (R := [([⟨#[104, 101, 97, 100]⟩, ⟨#[98, 111, 100, 121]⟩, ⟨#[104, 116, 109, 108]⟩, ⟨#[98, 114]⟩], (.meth 104))]) (by simp)), rfl, rfl, rfl⟩ _ rfl)
  obtain ⟨q0, q1, q2, q3, q4, q5, q6, q7, q8, q9⟩ := zero_cells HS5.out.g
  have u0 := free_at HS5.out.g 0
  have u1 := free_at HS5.out.g 1
  have u2 := free_at HS5.out.g 2
  have u3 := free_at HS5.out.g 3
  have u4 := free_at HS5.out.g 4
  have u5 := free_at HS5.out.g 5
  have u6 := free_at HS5.out.g 6
  have u7 := free_at HS5.out.g 7
  have u8 := free_at HS5.out.g 8
  have u9 := free_at HS5.out.g 9
  go_wp2
  exact fin_rules Tryz.results70 rfl rfl HF.out
def sp_beforeHead : RSpec := { blank := .nothing, comment := .comment 105 true, doctype := .nothing, start := some [([⟨#[104, 101, 97, 100]⟩], (.meth 107)), ([⟨#[104, 116, 109, 108]⟩], (.asIn 6))], stop := some [([⟨#[104, 101, 97, 100]⟩, ⟨#[98, 111, 100, 121]⟩, ⟨#[104, 116, 109, 108]⟩, ⟨#[98, 114]⟩], (.meth 108))], otherEnd := .nothing, others := .meth 108 }
set_option maxHeartbeats 8000000 in
set_option maxRecDepth 100000 in
theorem r_beforeHead (bm bB bD : Nat) (w : World) (hb : BD bB bD w) (ht : Tab w) (hbm : bm < w.heap.size) :
    Calls Tryz.prog 71 #[ptrv bB] w (MakesRules bm bB bD sp_beforeHead w) := by
  have hmm := @run_makeMap Tryz.prog
  obtain ⟨W0, hW0, S0⟩ := St.start bm bB bD w ht hbm
  obtain ⟨c187, hBl⟩ := hb
  have HS0 := hide S0
  have HW0 := hide hW0
  clear S0 hW0 ht hbm
  go_enter Tryz.func71, Tryz.ntmps71
  go_wp2_with fail
  rw [← HW0.out]
  refine (ru_comment bm bB bD 105 true _).mono ?_
  rintro e W1 ⟨⟨x1, rfl, hr1⟩, hk1⟩
  obtain ⟨f1, a1, l1, hv1⟩ := hr1.func (by simp)
  subst hv1
  have HS1 := hide (HS0.out.call hk1 hr1)
  clear hr1 hk1
  obtain ⟨W2, b1, hW2, hb1, S2⟩ := HS1.out.map
  have HS2 := hide S2
  have HW2 := hide hW2
  have HB1 := hide hb1
  clear hW2 hb1 S2
  go_wp2_with fail
  rw [← HW2.out, ← HB1.out]
  refine (ru_asIn bm bB bD 6 _).mono ?_
  rintro e W3 ⟨⟨x3, rfl, hr3⟩, hk3⟩
  obtain ⟨f3, a3, l3, hv3⟩ := hr3.func (by simp)
  subst hv3
  have HS3 := hide (HS2.out.call hk3 hr3)
  clear hr3 hk3
  go_wp2_with fail
  refine (on_map bm bB bD b1 _ [⟨#[104, 116, 109, 108]⟩] (.asIn 6) [] _ _ (by kernel_rfl) (by kernel_rfl) HS3.out.t (HS3.out.hms (b1, []) (by simp)).1 (HS3.out.hms (b1, []) (by simp)).2.2 (HS3.out.at (by simp))).mono ?_
  rintro e W4 ⟨rfl, hm4, hk4, hf4⟩
  have HS4 := hide (HS3.out.on hk4 hf4 hm4)
  clear hm4 hk4 hf4
  go_wp2_with fail
  refine (on_map bm bB bD b1 _ [⟨#[104, 101, 97, 100]⟩] (.meth 107) [([⟨#[104, 116, 109, 108]⟩], (.asIn 6))] _ _ (by kernel_rfl) (by kernel_rfl) HS4.out.t (HS4.out.hms (b1, [([⟨#[104, 116, 109, 108]⟩], (.asIn 6))]) (by simp)).1 (HS4.out.hms (b1, [([⟨#[104, 116, 109, 108]⟩], (.asIn 6))]) (by simp)).2.2 rfl).mono ?_
  rintro e W5 ⟨rfl, hm5, hk5, hf5⟩
  have HS5 := hide (HS4.out.on hk5 hf5 hm5)
  clear hm5 hk5 hf5
  obtain ⟨W6, b2, hW6, hb2, S6⟩ := HS5.out.map
  have HS6 := hide S6
  have HW6 := hide hW6
  have HB2 := hide hb2
  clear hW6 hb2 S6
  go_wp2_with fail
  rw [← HW6.out, ← HB2.out]
  refine (on_map bm bB bD b2 _ [⟨#[104, 101, 97, 100]⟩, ⟨#[98, 111, 100, 121]⟩, ⟨#[104, 116, 109, 108]⟩, ⟨#[98, 114]⟩] (.meth 108) [] _ _ (by kernel_rfl) (by kernel_rfl) HS6.out.t (HS6.out.hms (b2, []) (by simp)).1 (HS6.out.hms (b2, []) (by simp)).2.2 rfl).mono ?_
  rintro e W7 ⟨rfl, hm7, hk7, hf7⟩
  have HS7 := hide (HS6.out.on hk7 hf7 hm7)
  clear hm7 hk7 hf7
  have HF := hide (stored_rules (sp := sp_beforeHead) (v0 := .func (.func 97) #[] #[]) (v1 := .nilFunc) (v2 := .func f1 a1 l1) (v3 := .func (.func 97) #[] #[]) (v4 := .nilFunc) (v5 := .map (some b1)) (v6 := .map (some b2)) (v7 := .nilFunc) (v8 := .func (.func 97) #[] #[]) (v9 := .func (.func 108) #[ptrv bB] #[]) HS7.out.g HS7.out.k ⟨rfl, rfl, (HS7.out.at (r := .comment 105 true) (v := .func f1 a1 l1) (by simp)), rfl, rfl, (HS7.out.mapAt (b := b1) (R := [([⟨#[104, 101, 97, 100]⟩], (.meth 107)), ([⟨#[104, 116, 109, 108]⟩], (.asIn 6))]) (by simp)), (HS7.out.mapAt (b := b2) (R := [([⟨#[104, 101, 97, 100]⟩, ⟨#[98, 111, 100, 121]⟩, ⟨#[104, 116, 109, 108]⟩, ⟨#[98, 114]⟩], (.meth 108))]) (by simp)), rfl, rfl, rfl⟩ _ rfl)
  obtain ⟨q0, q1, q2, q3, q4, q5, q6, q7, q8, q9⟩ := zero_cells HS7.out.g
  have u0 := free_at HS7.out.g 0
  have u1 := free_at HS7.out.g 1
  have u2 := free_at HS7.out.g 2
  have u3 := free_at HS7.out.g 3
  have u4 := free_at HS7.out.g 4
  have u5 := free_at HS7.out.g 5
  have u6 := free_at HS7.out.g 6
  have u7 := free_at HS7.out.g 7
  have u8 := free_at HS7.out.g 8
  have u9 := free_at HS7.out.g 9
  go_wp2
  exact fin_rules Tryz.results71 rfl rfl HF.out
end Go.Proofs.YtlhhgenpcjjajaaGreatDoor
