import Derived.Test.YtlhhgenpcjjajaaGreatDoorBuA
set_option linter.unusedSimpArgs false
set_option linter.unusedVariables false
namespace Go.Proofs.YtlhhgenpcjjajaaGreatDoor
open Go.RowKit
def sp_inRow : RSpec := { start := some [([⟨#[99, 97, 112, 116, 105, 111, 110]⟩, ⟨#[99, 111, 108]⟩, ⟨#[99, 111, 108, 103, 114, 111, 117, 112]⟩, ⟨#[116, 98, 111, 100, 121]⟩, ⟨#[116, 102, 111, 111, 116]⟩, ⟨#[116, 104, 101, 97, 100]⟩, ⟨#[116, 114]⟩], (.ahead 144)), ([⟨#[116, 100]⟩, ⟨#[116, 104]⟩], (.meth 143))], stop := some [([⟨#[98, 111, 100, 121]⟩, ⟨#[99, 97, 112, 116, 105, 111, 110]⟩, ⟨#[99, 111, 108]⟩, ⟨#[99, 111, 108, 103, 114, 111, 117, 112]⟩, ⟨#[104, 116, 109, 108]⟩, ⟨#[116, 100]⟩, ⟨#[116, 104]⟩], .nothing), ([⟨#[116, 98, 111, 100, 121]⟩, ⟨#[116, 102, 111, 111, 116]⟩, ⟨#[116, 104, 101, 97, 100]⟩], (.ifT (.ahead 144))), ([⟨#[116, 97, 98, 108, 101]⟩], (.ahead 144)), ([⟨#[116, 114]⟩], (.ends 144))], others := .asIn 7 }
set_option maxHeartbeats 8000000 in
set_option maxRecDepth 100000 in
theorem r_inRow (bm bB bD : Nat) (w : World) (hb : BD bB bD w) (ht : Tab w) (hbm : bm < w.heap.size) :
    Calls Tryz.prog 81 #[ptrv bB] w (MakesRules bm bB bD sp_inRow w) := by
  have hmm := @run_makeMap Tryz.prog
  obtain ⟨W0, hW0, S0⟩ := St.start bm bB bD w ht hbm
  obtain ⟨c187, hBl⟩ := hb
  have HS0 := hide S0
  have HW0 := hide hW0
  clear S0 hW0 ht hbm
  go_enter Tryz.func81, Tryz.ntmps81
  obtain ⟨W1, b1, hW1, hb1, S1⟩ := HS0.out.map
  have HS1 := hide S1
  have HW1 := hide hW1
  have HB1 := hide hb1
  clear hW1 hb1 S1
  go_wp2_with fail
  rw [← HW0.out]
  rw [← HW1.out, show w.heap.size + 1 = b1 by rw [HB1.out, HW0.out]; simp]
  refine (on_map bm bB bD b1 _ [⟨#[116, 100]⟩, ⟨#[116, 104]⟩] (.meth 143) [] _ _ (by kernel_rfl) (by kernel_rfl) HS1.out.t (HS1.out.hms (b1, []) (by simp)).1 (HS1.out.hms (b1, []) (by simp)).2.2 rfl).mono ?_
  rintro e W2 ⟨rfl, hm2, hk2, hf2⟩
  have HS2 := hide (HS1.out.on hk2 hf2 hm2)
  clear hm2 hk2 hf2
  go_wp2_with fail
  refine (ru_ahead bm bB bD 144 _).mono ?_
  rintro e W3 ⟨⟨x3, rfl, hr3⟩, hk3⟩
  obtain ⟨f3, a3, l3, hv3⟩ := hr3.func (by simp)
  subst hv3
  have HS3 := hide (HS2.out.call hk3 hr3)
  clear hr3 hk3
  go_wp2_with fail
  refine (on_map bm bB bD b1 _ [⟨#[99, 97, 112, 116, 105, 111, 110]⟩, ⟨#[99, 111, 108]⟩, ⟨#[99, 111, 108, 103, 114, 111, 117, 112]⟩, ⟨#[116, 98, 111, 100, 121]⟩, ⟨#[116, 102, 111, 111, 116]⟩, ⟨#[116, 104, 101, 97, 100]⟩, ⟨#[116, 114]⟩] (.ahead 144) [([⟨#[116, 100]⟩, ⟨#[116, 104]⟩], (.meth 143))] _ _ (by kernel_rfl) (by kernel_rfl) HS3.out.t (HS3.out.hms (b1, [([⟨#[116, 100]⟩, ⟨#[116, 104]⟩], (.meth 143))]) (by simp)).1 (HS3.out.hms (b1, [([⟨#[116, 100]⟩, ⟨#[116, 104]⟩], (.meth 143))]) (by simp)).2.2 (HS3.out.at (by simp))).mono ?_
  rintro e W4 ⟨rfl, hm4, hk4, hf4⟩
  have HS4 := hide (HS3.out.on hk4 hf4 hm4)
  clear hm4 hk4 hf4
  obtain ⟨W5, b2, hW5, hb2, S5⟩ := HS4.out.map
  have HS5 := hide S5
  have HW5 := hide hW5
  have HB2 := hide hb2
  clear hW5 hb2 S5
  go_wp2_with fail
  rw [← HW5.out, ← HB2.out]
  refine (ru_ends bm bB bD 144 _).mono ?_
  rintro e W6 ⟨⟨x6, rfl, hr6⟩, hk6⟩
  obtain ⟨f6, a6, l6, hv6⟩ := hr6.func (by simp)
  subst hv6
  have HS6 := hide (HS5.out.call hk6 hr6)
  clear hr6 hk6
  go_wp2_with fail
  refine (on_map bm bB bD b2 _ [⟨#[116, 114]⟩] (.ends 144) [] _ _ (by kernel_rfl) (by kernel_rfl) HS6.out.t (HS6.out.hms (b2, []) (by simp)).1 (HS6.out.hms (b2, []) (by simp)).2.2 (HS6.out.at (by simp))).mono ?_
  rintro e W7 ⟨rfl, hm7, hk7, hf7⟩
  have HS7 := hide (HS6.out.on hk7 hf7 hm7)
  clear hm7 hk7 hf7
  go_wp2_with fail
  refine (ru_ahead bm bB bD 144 _).mono ?_
  rintro e W8 ⟨⟨x8, rfl, hr8⟩, hk8⟩
  obtain ⟨f8, a8, l8, hv8⟩ := hr8.func (by simp)
  subst hv8
  have HS8 := hide (HS7.out.call hk8 hr8)
  clear hr8 hk8
  go_wp2_with fail
  refine (on_map bm bB bD b2 _ [⟨#[116, 97, 98, 108, 101]⟩] (.ahead 144) [([⟨#[116, 114]⟩], (.ends 144))] _ _ (by kernel_rfl) (by kernel_rfl) HS8.out.t (HS8.out.hms (b2, [([⟨#[116, 114]⟩], (.ends 144))]) (by simp)).1 (HS8.out.hms (b2, [([⟨#[116, 114]⟩], (.ends 144))]) (by simp)).2.2 (HS8.out.at (by simp))).mono ?_
  rintro e W9 ⟨rfl, hm9, hk9, hf9⟩
  have HS9 := hide (HS8.out.on hk9 hf9 hm9)
  clear hm9 hk9 hf9
  go_wp2_with fail
  refine (ru_ahead bm bB bD 144 _).mono ?_
  rintro e W10 ⟨⟨x10, rfl, hr10⟩, hk10⟩
  obtain ⟨f10, a10, l10, hv10⟩ := hr10.func (by simp)
  subst hv10
  have HS10 := hide (HS9.out.call hk10 hr10)
  clear hr10 hk10
  go_wp2_with fail
  refine (ru_ifT bm bB bD (.ahead 144) _ _ (by simp) (HS10.out.at (by simp))).mono ?_
  rintro e W11 ⟨⟨x11, rfl, hr11⟩, hk11⟩
  obtain ⟨f11, a11, l11, hv11⟩ := hr11.func (by simp)
  subst hv11
  have HS11 := hide (HS10.out.call hk11 hr11)
  clear hr11 hk11
  go_wp2_with fail
  refine (on_map bm bB bD b2 _ [⟨#[116, 98, 111, 100, 121]⟩, ⟨#[116, 102, 111, 111, 116]⟩, ⟨#[116, 104, 101, 97, 100]⟩] (.ifT (.ahead 144)) [([⟨#[116, 97, 98, 108, 101]⟩], (.ahead 144)), ([⟨#[116, 114]⟩], (.ends 144))] _ _ (by kernel_rfl) (by kernel_rfl) HS11.out.t (HS11.out.hms (b2, [([⟨#[116, 97, 98, 108, 101]⟩], (.ahead 144)), ([⟨#[116, 114]⟩], (.ends 144))]) (by simp)).1 (HS11.out.hms (b2, [([⟨#[116, 97, 98, 108, 101]⟩], (.ahead 144)), ([⟨#[116, 114]⟩], (.ends 144))]) (by simp)).2.2 (HS11.out.at (by simp))).mono ?_
  rintro e W12 ⟨rfl, hm12, hk12, hf12⟩
  have HS12 := hide (HS11.out.on hk12 hf12 hm12)
  clear hm12 hk12 hf12
  go_wp2_with fail
  refine (on_map bm bB bD b2 _ [⟨#[98, 111, 100, 121]⟩, ⟨#[99, 97, 112, 116, 105, 111, 110]⟩, ⟨#[99, 111, 108]⟩, ⟨#[99, 111, 108, 103, 114, 111, 117, 112]⟩, ⟨#[104, 116, 109, 108]⟩, ⟨#[116, 100]⟩, ⟨#[116, 104]⟩] .nothing [([⟨#[116, 98, 111, 100, 121]⟩, ⟨#[116, 102, 111, 111, 116]⟩, ⟨#[116, 104, 101, 97, 100]⟩], (.ifT (.ahead 144))), ([⟨#[116, 97, 98, 108, 101]⟩], (.ahead 144)), ([⟨#[116, 114]⟩], (.ends 144))] _ _ (by kernel_rfl) (by kernel_rfl) HS12.out.t (HS12.out.hms (b2, [([⟨#[116, 98, 111, 100, 121]⟩, ⟨#[116, 102, 111, 111, 116]⟩, ⟨#[116, 104, 101, 97, 100]⟩], (.ifT (.ahead 144))), ([⟨#[116, 97, 98, 108, 101]⟩], (.ahead 144)), ([⟨#[116, 114]⟩], (.ends 144))]) (by simp)).1 (HS12.out.hms (b2, [([⟨#[116, 98, 111, 100, 121]⟩, ⟨#[116, 102, 111, 111, 116]⟩, ⟨#[116, 104, 101, 97, 100]⟩], (.ifT (.ahead 144))), ([⟨#[116, 97, 98, 108, 101]⟩], (.ahead 144)), ([⟨#[116, 114]⟩], (.ends 144))]) (by simp)).2.2 rfl).mono ?_
  rintro e W13 ⟨rfl, hm13, hk13, hf13⟩
  have HS13 := hide (HS12.out.on hk13 hf13 hm13)
  clear hm13 hk13 hf13
  go_wp2_with fail
  refine (ru_asIn bm bB bD 7 _).mono ?_
  rintro e W14 ⟨⟨x14, rfl, hr14⟩, hk14⟩
  obtain ⟨f14, a14, l14, hv14⟩ := hr14.func (by simp)
  subst hv14
  have HS14 := hide (HS13.out.call hk14 hr14)
  clear hr14 hk14
  have HF := hide (stored_rules (sp := sp_inRow) (v0 := .nilFunc) (v1 := .nilFunc) (v2 := .nilFunc) (v3 := .nilFunc) (v4 := .nilFunc) (v5 := .map (some b1)) (v6 := .map (some b2)) (v7 := .nilFunc) (v8 := .nilFunc) (v9 := .func f14 a14 l14) HS14.out.g HS14.out.k ⟨rfl, rfl, rfl, rfl, rfl, (HS14.out.mapAt (b := b1) (R := [([⟨#[99, 97, 112, 116, 105, 111, 110]⟩, ⟨#[99, 111, 108]⟩, ⟨#[99, 111, 108, 103, 114, 111, 117, 112]⟩, ⟨#[116, 98, 111, 100, 121]⟩, ⟨#[116, 102, 111, 111, 116]⟩, ⟨#[116, 104, 101, 97, 100]⟩, ⟨#[116, 114]⟩], (.ahead 144)), ([⟨#[116, 100]⟩, ⟨#[116, 104]⟩], (.meth 143))]) (by simp)), (HS14.out.mapAt (b := b2) (R := [([⟨#[98, 111, 100, 121]⟩, ⟨#[99, 97, 112, 116, 105, 111, 110]⟩, ⟨#[99, 111, 108]⟩, ⟨#[99, 111, 108, 103, 114, 111, 117, 112]⟩, ⟨#[104, 116, 109, 108]⟩, ⟨#[116, 100]⟩, ⟨#[116, 104]⟩], .nothing), ([⟨#[116, 98, 111, 100, 121]⟩, ⟨#[116, 102, 111, 111, 116]⟩, ⟨#[116, 104, 101, 97, 100]⟩], (.ifT (.ahead 144))), ([⟨#[116, 97, 98, 108, 101]⟩], (.ahead 144)), ([⟨#[116, 114]⟩], (.ends 144))]) (by simp)), rfl, rfl, (HS14.out.at (r := .asIn 7) (v := .func f14 a14 l14) (by simp))⟩ _ rfl)
  obtain ⟨q0, q1, q2, q3, q4, q5, q6, q7, q8, q9⟩ := zero_cells HS14.out.g
  have u0 := free_at HS14.out.g 0
  have u1 := free_at HS14.out.g 1
  have u2 := free_at HS14.out.g 2
  have u3 := free_at HS14.out.g 3
  have u4 := free_at HS14.out.g 4
  have u5 := free_at HS14.out.g 5
  have u6 := free_at HS14.out.g 6
  have u7 := free_at HS14.out.g 7
  have u8 := free_at HS14.out.g 8
  have u9 := free_at HS14.out.g 9
  go_wp2
  exact fin_rules Tryz.results81 rfl rfl HF.out
def sp_inCell : RSpec := { start := some [([⟨#[99, 97, 112, 116, 105, 111, 110]⟩, ⟨#[99, 111, 108]⟩, ⟨#[99, 111, 108, 103, 114, 111, 117, 112]⟩, ⟨#[116, 98, 111, 100, 121]⟩, ⟨#[116, 100]⟩, ⟨#[116, 102, 111, 111, 116]⟩, ⟨#[116, 104]⟩, ⟨#[116, 104, 101, 97, 100]⟩, ⟨#[116, 114]⟩], (.ahead 145))], stop := some [([⟨#[98, 111, 100, 121]⟩, ⟨#[99, 97, 112, 116, 105, 111, 110]⟩, ⟨#[99, 111, 108]⟩, ⟨#[99, 111, 108, 103, 114, 111, 117, 112]⟩, ⟨#[104, 116, 109, 108]⟩], .nothing), ([⟨#[116, 97, 98, 108, 101]⟩, ⟨#[116, 98, 111, 100, 121]⟩, ⟨#[116, 102, 111, 111, 116]⟩, ⟨#[116, 104, 101, 97, 100]⟩, ⟨#[116, 114]⟩], (.ifT (.ahead 145))), ([⟨#[116, 100]⟩, ⟨#[116, 104]⟩], (.ifT (.ends 145)))], others := .asIn 6 }
set_option maxHeartbeats 8000000 in
set_option maxRecDepth 100000 in
theorem r_inCell (bm bB bD : Nat) (w : World) (hb : BD bB bD w) (ht : Tab w) (hbm : bm < w.heap.size) :
    Calls Tryz.prog 82 #[ptrv bB] w (MakesRules bm bB bD sp_inCell w) := by
  have hmm := @run_makeMap Tryz.prog
  obtain ⟨W0, hW0, S0⟩ := St.start bm bB bD w ht hbm
  obtain ⟨c187, hBl⟩ := hb
  have HS0 := hide S0
  have HW0 := hide hW0
  clear S0 hW0 ht hbm
  go_enter Tryz.func82, Tryz.ntmps82
  obtain ⟨W1, b1, hW1, hb1, S1⟩ := HS0.out.map
  have HS1 := hide S1
  have HW1 := hide hW1
  have HB1 := hide hb1
  clear hW1 hb1 S1
  go_wp2_with fail
  rw [← HW0.out]
  rw [← HW1.out, show w.heap.size + 1 = b1 by rw [HB1.out, HW0.out]; simp]
  refine (ru_ahead bm bB bD 145 _).mono ?_
  rintro e W2 ⟨⟨x2, rfl, hr2⟩, hk2⟩
  obtain ⟨f2, a2, l2, hv2⟩ := hr2.func (by simp)
  subst hv2
  have HS2 := hide (HS1.out.call hk2 hr2)
  clear hr2 hk2
  go_wp2_with fail
  refine (on_map bm bB bD b1 _ [⟨#[99, 97, 112, 116, 105, 111, 110]⟩, ⟨#[99, 111, 108]⟩, ⟨#[99, 111, 108, 103, 114, 111, 117, 112]⟩, ⟨#[116, 98, 111, 100, 121]⟩, ⟨#[116, 100]⟩, ⟨#[116, 102, 111, 111, 116]⟩, ⟨#[116, 104]⟩, ⟨#[116, 104, 101, 97, 100]⟩, ⟨#[116, 114]⟩] (.ahead 145) [] _ _ (by kernel_rfl) (by kernel_rfl) HS2.out.t (HS2.out.hms (b1, []) (by simp)).1 (HS2.out.hms (b1, []) (by simp)).2.2 (HS2.out.at (by simp))).mono ?_
  rintro e W3 ⟨rfl, hm3, hk3, hf3⟩
  have HS3 := hide (HS2.out.on hk3 hf3 hm3)
  clear hm3 hk3 hf3
  obtain ⟨W4, b2, hW4, hb2, S4⟩ := HS3.out.map
  have HS4 := hide S4
  have HW4 := hide hW4
  have HB2 := hide hb2
  clear hW4 hb2 S4
  go_wp2_with fail
  rw [← HW4.out, ← HB2.out]
  refine (ru_ends bm bB bD 145 _).mono ?_
  rintro e W5 ⟨⟨x5, rfl, hr5⟩, hk5⟩
  obtain ⟨f5, a5, l5, hv5⟩ := hr5.func (by simp)
  subst hv5
  have HS5 := hide (HS4.out.call hk5 hr5)
  clear hr5 hk5
  go_wp2_with fail
  refine (ru_ifT bm bB bD (.ends 145) _ _ (by simp) (HS5.out.at (by simp))).mono ?_
  rintro e W6 ⟨⟨x6, rfl, hr6⟩, hk6⟩
  obtain ⟨f6, a6, l6, hv6⟩ := hr6.func (by simp)
  subst hv6
  have HS6 := hide (HS5.out.call hk6 hr6)
  clear hr6 hk6
  go_wp2_with fail
  refine (on_map bm bB bD b2 _ [⟨#[116, 100]⟩, ⟨#[116, 104]⟩] (.ifT (.ends 145)) [] _ _ (by kernel_rfl) (by kernel_rfl) HS6.out.t (HS6.out.hms (b2, []) (by simp)).1 (HS6.out.hms (b2, []) (by simp)).2.2 (HS6.out.at (by simp))).mono ?_
  rintro e W7 ⟨rfl, hm7, hk7, hf7⟩
  have HS7 := hide (HS6.out.on hk7 hf7 hm7)
  clear hm7 hk7 hf7
  go_wp2_with fail
  refine (ru_ahead bm bB bD 145 _).mono ?_
  rintro e W8 ⟨⟨x8, rfl, hr8⟩, hk8⟩
  obtain ⟨f8, a8, l8, hv8⟩ := hr8.func (by simp)
  subst hv8
  have HS8 := hide (HS7.out.call hk8 hr8)
  clear hr8 hk8
  go_wp2_with fail
  refine (ru_ifT bm bB bD (.ahead 145) _ _ (by simp) (HS8.out.at (by simp))).mono ?_
  rintro e W9 ⟨⟨x9, rfl, hr9⟩, hk9⟩
  obtain ⟨f9, a9, l9, hv9⟩ := hr9.func (by simp)
  subst hv9
  have HS9 := hide (HS8.out.call hk9 hr9)
  clear hr9 hk9
  go_wp2_with fail
  refine (on_map bm bB bD b2 _ [⟨#[116, 97, 98, 108, 101]⟩, ⟨#[116, 98, 111, 100, 121]⟩, ⟨#[116, 102, 111, 111, 116]⟩, ⟨#[116, 104, 101, 97, 100]⟩, ⟨#[116, 114]⟩] (.ifT (.ahead 145)) [([⟨#[116, 100]⟩, ⟨#[116, 104]⟩], (.ifT (.ends 145)))] _ _ (by kernel_rfl) (by kernel_rfl) HS9.out.t (HS9.out.hms (b2, [([⟨#[116, 100]⟩, ⟨#[116, 104]⟩], (.ifT (.ends 145)))]) (by simp)).1 (HS9.out.hms (b2, [([⟨#[116, 100]⟩, ⟨#[116, 104]⟩], (.ifT (.ends 145)))]) (by simp)).2.2 (HS9.out.at (by simp))).mono ?_
  rintro e W10 ⟨rfl, hm10, hk10, hf10⟩
  have HS10 := hide (HS9.out.on hk10 hf10 hm10)
  clear hm10 hk10 hf10
  go_wp2_with fail
  refine (on_map bm bB bD b2 _ [⟨#[98, 111, 100, 121]⟩, ⟨#[99, 97, 112, 116, 105, 111, 110]⟩, ⟨#[99, 111, 108]⟩, ⟨#[99, 111, 108, 103, 114, 111, 117, 112]⟩, ⟨#[104, 116, 109, 108]⟩] .nothing [([⟨#[116, 97, 98, 108, 101]⟩, ⟨#[116, 98, 111, 100, 121]⟩, ⟨#[116, 102, 111, 111, 116]⟩, ⟨#[116, 104, 101, 97, 100]⟩, ⟨#[116, 114]⟩], (.ifT (.ahead 145))), ([⟨#[116, 100]⟩, ⟨#[116, 104]⟩], (.ifT (.ends 145)))] _ _ (by kernel_rfl) (by kernel_rfl) HS10.out.t (HS10.out.hms (b2, [([⟨#[116, 97, 98, 108, 101]⟩, ⟨#[116, 98, 111, 100, 121]⟩, ⟨#[116, 102, 111, 111, 116]⟩, ⟨#[116, 104, 101, 97, 100]⟩, ⟨#[116, 114]⟩], (.ifT (.ahead 145))), ([⟨#[116, 100]⟩, ⟨#[116, 104]⟩], (.ifT (.ends 145)))]) (by simp)).1 (HS10.out.hms (b2, [([⟨#[116, 97, 98, 108, 101]⟩, ⟨#[116, 98, 111, 100, 121]⟩, ⟨#[116, 102, 111, 111, 116]⟩, ⟨#[116, 104, 101, 97, 100]⟩, ⟨#[116, 114]⟩], (.ifT (.ahead 145))), ([⟨#[116, 100]⟩, ⟨#[116, 104]⟩], (.ifT (.ends 145)))]) (by simp)).2.2 rfl).mono ?_
  rintro e W11 ⟨rfl, hm11, hk11, hf11⟩
  have HS11 := hide (HS10.out.on hk11 hf11 hm11)
  clear hm11 hk11 hf11
  go_wp2_with fail
  refine (ru_asIn bm bB bD 6 _).mono ?_
  rintro e W12 ⟨⟨x12, rfl, hr12⟩, hk12⟩
  obtain ⟨f12, a12, l12, hv12⟩ := hr12.func (by simp)
  subst hv12
  have HS12 := hide (HS11.out.call hk12 hr12)
  clear hr12 hk12
  have HF := hide (stored_rules (sp := sp_inCell) (v0 := .nilFunc) (v1 := .nilFunc) (v2 := .nilFunc) (v3 := .nilFunc) (v4 := .nilFunc) (v5 := .map (some b1)) (v6 := .map (some b2)) (v7 := .nilFunc) (v8 := .nilFunc) (v9 := .func f12 a12 l12) HS12.out.g HS12.out.k ⟨rfl, rfl, rfl, rfl, rfl, (HS12.out.mapAt (b := b1) (R := [([⟨#[99, 97, 112, 116, 105, 111, 110]⟩, ⟨#[99, 111, 108]⟩, ⟨#[99, 111, 108, 103, 114, 111, 117, 112]⟩, ⟨#[116, 98, 111, 100, 121]⟩, ⟨#[116, 100]⟩, ⟨#[116, 102, 111, 111, 116]⟩, ⟨#[116, 104]⟩, ⟨#[116, 104, 101, 97, 100]⟩, ⟨#[116, 114]⟩], (.ahead 145))]) (by simp)), (HS12.out.mapAt (b := b2) (R := [([⟨#[98, 111, 100, 121]⟩, ⟨#[99, 97, 112, 116, 105, 111, 110]⟩, ⟨#[99, 111, 108]⟩, ⟨#[99, 111, 108, 103, 114, 111, 117, 112]⟩, ⟨#[104, 116, 109, 108]⟩], .nothing), ([⟨#[116, 97, 98, 108, 101]⟩, ⟨#[116, 98, 111, 100, 121]⟩, ⟨#[116, 102, 111, 111, 116]⟩, ⟨#[116, 104, 101, 97, 100]⟩, ⟨#[116, 114]⟩], (.ifT (.ahead 145))), ([⟨#[116, 100]⟩, ⟨#[116, 104]⟩], (.ifT (.ends 145)))]) (by simp)), rfl, rfl, (HS12.out.at (r := .asIn 6) (v := .func f12 a12 l12) (by simp))⟩ _ rfl)
  obtain ⟨q0, q1, q2, q3, q4, q5, q6, q7, q8, q9⟩ := zero_cells HS12.out.g
  have u0 := free_at HS12.out.g 0
  have u1 := free_at HS12.out.g 1
  have u2 := free_at HS12.out.g 2
  have u3 := free_at HS12.out.g 3
  have u4 := free_at HS12.out.g 4
  have u5 := free_at HS12.out.g 5
  have u6 := free_at HS12.out.g 6
  have u7 := free_at HS12.out.g 7
  have u8 := free_at HS12.out.g 8
  have u9 := free_at HS12.out.g 9
  go_wp2
  exact fin_rules Tryz.results82 rfl rfl HF.out
def sp_inSelect : RSpec := { char := .meth 146, comment := .comment 105 true, start := some [([⟨#[105, 110, 112, 117, 116]⟩, ⟨#[116, 101, 120, 116, 97, 114, 101, 97]⟩], (.ahead 150)), ([⟨#[115, 101, 108, 101, 99, 116]⟩], (.ends 150)), ([⟨#[104, 114]⟩], (.meth 149)), ([⟨#[111, 112, 116, 103, 114, 111, 117, 112]⟩], (.meth 148)), ([⟨#[111, 112, 116, 105, 111, 110]⟩], (.meth 147)), ([⟨#[104, 116, 109, 108]⟩], (.asIn 6))], stop := some [([⟨#[115, 101, 108, 101, 99, 116]⟩], (.ends 150)), ([⟨#[111, 112, 116, 105, 111, 110]⟩], (.meth 152)), ([⟨#[111, 112, 116, 103, 114, 111, 117, 112]⟩], (.meth 151))], others := .nothing }
set_option maxHeartbeats 8000000 in
set_option maxRecDepth 100000 in
theorem r_inSelect (bm bB bD : Nat) (w : World) (hb : BD bB bD w) (ht : Tab w) (hbm : bm < w.heap.size) :
    Calls Tryz.prog 83 #[ptrv bB] w (MakesRules bm bB bD sp_inSelect w) := by
  have hmm := @run_makeMap Tryz.prog
  obtain ⟨W0, hW0, S0⟩ := St.start bm bB bD w ht hbm
  obtain ⟨c187, hBl⟩ := hb
  have HS0 := hide S0
  have HW0 := hide hW0
  clear S0 hW0 ht hbm
  go_enter Tryz.func83, Tryz.ntmps83
  go_wp2_with fail
  rw [← HW0.out]
  refine (ru_comment bm bB bD 105 true _).mono ?_
  rintro e W1 ⟨⟨x1, rfl, hr1⟩, hk1⟩
  obtain ⟨f1, a1, l1, hv1⟩ := hr1.func (by simp)
  subst hv1
  have HS1 := hide (HS0.out.call hk1 hr1)
  clear hr1 hk1
  obtain ⟨W2, b1, hW2, hb1, S2⟩ := HS1.out.map
  have HS2 := hide S2
  have HW2 := hide hW2
  have HB1 := hide hb1
  clear hW2 hb1 S2
  go_wp2_with fail
  rw [← HW2.out, ← HB1.out]
  refine (ru_asIn bm bB bD 6 _).mono ?_
  rintro e W3 ⟨⟨x3, rfl, hr3⟩, hk3⟩
  obtain ⟨f3, a3, l3, hv3⟩ := hr3.func (by simp)
  subst hv3
  have HS3 := hide (HS2.out.call hk3 hr3)
  clear hr3 hk3
  go_wp2_with fail
  refine (on_map bm bB bD b1 _ [⟨#[104, 116, 109, 108]⟩] (.asIn 6) [] _ _ (by kernel_rfl) (by kernel_rfl) HS3.out.t (HS3.out.hms (b1, []) (by simp)).1 (HS3.out.hms (b1, []) (by simp)).2.2 (HS3.out.at (by simp))).mono ?_
  rintro e W4 ⟨rfl, hm4, hk4, hf4⟩
  have HS4 := hide (HS3.out.on hk4 hf4 hm4)
  clear hm4 hk4 hf4
  go_wp2_with fail
  refine (on_map bm bB bD b1 _ [⟨#[111, 112, 116, 105, 111, 110]⟩] (.meth 147) [([⟨#[104, 116, 109, 108]⟩], (.asIn 6))] _ _ (by kernel_rfl) (by kernel_rfl) HS4.out.t (HS4.out.hms (b1, [([⟨#[104, 116, 109, 108]⟩], (.asIn 6))]) (by simp)).1 (HS4.out.hms (b1, [([⟨#[104, 116, 109, 108]⟩], (.asIn 6))]) (by simp)).2.2 rfl).mono ?_
  rintro e W5 ⟨rfl, hm5, hk5, hf5⟩
  have HS5 := hide (HS4.out.on hk5 hf5 hm5)
  clear hm5 hk5 hf5
  go_wp2_with fail
  refine (on_map bm bB bD b1 _ [⟨#[111, 112, 116, 103, 114, 111, 117, 112]⟩] (.meth 148) [([⟨#[111, 112, 116, 105, 111, 110]⟩], (.meth 147)), ([⟨#[104, 116, 109, 108]⟩], (.asIn 6))] _ _ (by kernel_rfl) (by kernel_rfl) HS5.out.t (HS5.out.hms (b1, [([⟨#[111, 112, 116, 105, 111, 110]⟩], (.meth 147)), ([⟨#[104, 116, 109, 108]⟩], (.asIn 6))]) (by simp)).1 (HS5.out.hms (b1, [([⟨#[111, 112, 116, 105, 111, 110]⟩], (.meth 147)), ([⟨#[104, 116, 109, 108]⟩], (.asIn 6))]) (by simp)).2.2 rfl).mono ?_
  rintro e W6 ⟨rfl, hm6, hk6, hf6⟩
  have HS6 := hide (HS5.out.on hk6 hf6 hm6)
  clear hm6 hk6 hf6
  go_wp2_with fail
  refine (on_map bm bB bD b1 _ [⟨#[104, 114]⟩] (.meth 149) [([⟨#[111, 112, 116, 103, 114, 111, 117, 112]⟩], (.meth 148)), ([⟨#[111, 112, 116, 105, 111, 110]⟩], (.meth 147)), ([⟨#[104, 116, 109, 108]⟩], (.asIn 6))] _ _ (by kernel_rfl) (by kernel_rfl) HS6.out.t (HS6.out.hms (b1, [([⟨#[111, 112, 116, 103, 114, 111, 117, 112]⟩], (.meth 148)), ([⟨#[111, 112, 116, 105, 111, 110]⟩], (.meth 147)), ([⟨#[104, 116, 109, 108]⟩], (.asIn 6))]) (by simp)).1 (HS6.out.hms (b1, [([⟨#[111, 112, 116, 103, 114, 111, 117, 112]⟩], (.meth 148)), ([⟨#[111, 112, 116, 105, 111, 110]⟩], (.meth 147)), ([⟨#[104, 116, 109, 108]⟩], (.asIn 6))]) (by simp)).2.2 rfl).mono ?_
  rintro e W7 ⟨rfl, hm7, hk7, hf7⟩
  have HS7 := hide (HS6.out.on hk7 hf7 hm7)
  clear hm7 hk7 hf7
  go_wp2_with fail
  refine (ru_ends bm bB bD 150 _).mono ?_
  rintro e W8 ⟨⟨x8, rfl, hr8⟩, hk8⟩
  obtain ⟨f8, a8, l8, hv8⟩ := hr8.func (by simp)
  subst hv8
  have HS8 := hide (HS7.out.call hk8 hr8)
  clear hr8 hk8
  go_wp2_with fail
  refine (on_map bm bB bD b1 _ [⟨#[115, 101, 108, 101, 99, 116]⟩] (.ends 150) [([⟨#[104, 114]⟩], (.meth 149)), ([⟨#[111, 112, 116, 103, 114, 111, 117, 112]⟩], (.meth 148)), ([⟨#[111, 112, 116, 105, 111, 110]⟩], (.meth 147)), ([⟨#[104, 116, 109, 108]⟩], (.asIn 6))] _ _ (by kernel_rfl) (by kernel_rfl) HS8.out.t (HS8.out.hms (b1, [([⟨#[104, 114]⟩], (.meth 149)), ([⟨#[111, 112, 116, 103, 114, 111, 117, 112]⟩], (.meth 148)), ([⟨#[111, 112, 116, 105, 111, 110]⟩], (.meth 147)), ([⟨#[104, 116, 109, 108]⟩], (.asIn 6))]) (by simp)).1 (HS8.out.hms (b1, [([⟨#[104, 114]⟩], (.meth 149)), ([⟨#[111, 112, 116, 103, 114, 111, 117, 112]⟩], (.meth 148)), ([⟨#[111, 112, 116, 105, 111, 110]⟩], (.meth 147)), ([⟨#[104, 116, 109, 108]⟩], (.asIn 6))]) (by simp)).2.2 (HS8.out.at (by simp))).mono ?_
  rintro e W9 ⟨rfl, hm9, hk9, hf9⟩
  have HS9 := hide (HS8.out.on hk9 hf9 hm9)
  clear hm9 hk9 hf9
  go_wp2_with fail
  refine (ru_ahead bm bB bD 150 _).mono ?_
  rintro e W10 ⟨⟨x10, rfl, hr10⟩, hk10⟩
  obtain ⟨f10, a10, l10, hv10⟩ := hr10.func (by simp)
  subst hv10
  have HS10 := hide (HS9.out.call hk10 hr10)
  clear hr10 hk10
  go_wp2_with fail
  refine (on_map bm bB bD b1 _ [⟨#[105, 110, 112, 117, 116]⟩, ⟨#[116, 101, 120, 116, 97, 114, 101, 97]⟩] (.ahead 150) [([⟨#[115, 101, 108, 101, 99, 116]⟩], (.ends 150)), ([⟨#[104, 114]⟩], (.meth 149)), ([⟨#[111, 112, 116, 103, 114, 111, 117, 112]⟩], (.meth 148)), ([⟨#[111, 112, 116, 105, 111, 110]⟩], (.meth 147)), ([⟨#[104, 116, 109, 108]⟩], (.asIn 6))] _ _ (by kernel_rfl) (by kernel_rfl) HS10.out.t (HS10.out.hms (b1, [([⟨#[115, 101, 108, 101, 99, 116]⟩], (.ends 150)), ([⟨#[104, 114]⟩], (.meth 149)), ([⟨#[111, 112, 116, 103, 114, 111, 117, 112]⟩], (.meth 148)), ([⟨#[111, 112, 116, 105, 111, 110]⟩], (.meth 147)), ([⟨#[104, 116, 109, 108]⟩], (.asIn 6))]) (by simp)).1 (HS10.out.hms (b1, [([⟨#[115, 101, 108, 101, 99, 116]⟩], (.ends 150)), ([⟨#[104, 114]⟩], (.meth 149)), ([⟨#[111, 112, 116, 103, 114, 111, 117, 112]⟩], (.meth 148)), ([⟨#[111, 112, 116, 105, 111, 110]⟩], (.meth 147)), ([⟨#[104, 116, 109, 108]⟩], (.asIn 6))]) (by simp)).2.2 (HS10.out.at (by simp))).mono ?_
  rintro e W11 ⟨rfl, hm11, hk11, hf11⟩
  have HS11 := hide (HS10.out.on hk11 hf11 hm11)
  clear hm11 hk11 hf11
  obtain ⟨W12, b2, hW12, hb2, S12⟩ := HS11.out.map
  have HS12 := hide S12
  have HW12 := hide hW12
  have HB2 := hide hb2
  clear hW12 hb2 S12
  go_wp2_with fail
  rw [← HW12.out, ← HB2.out]
  refine (on_map bm bB bD b2 _ [⟨#[111, 112, 116, 103, 114, 111, 117, 112]⟩] (.meth 151) [] _ _ (by kernel_rfl) (by kernel_rfl) HS12.out.t (HS12.out.hms (b2, []) (by simp)).1 (HS12.out.hms (b2, []) (by simp)).2.2 rfl).mono ?_
  rintro e W13 ⟨rfl, hm13, hk13, hf13⟩
  have HS13 := hide (HS12.out.on hk13 hf13 hm13)
  clear hm13 hk13 hf13
  go_wp2_with fail
  refine (on_map bm bB bD b2 _ [⟨#[111, 112, 116, 105, 111, 110]⟩] (.meth 152) [([⟨#[111, 112, 116, 103, 114, 111, 117, 112]⟩], (.meth 151))] _ _ (by kernel_rfl) (by kernel_rfl) HS13.out.t (HS13.out.hms (b2, [([⟨#[111, 112, 116, 103, 114, 111, 117, 112]⟩], (.meth 151))]) (by simp)).1 (HS13.out.hms (b2, [([⟨#[111, 112, 116, 103, 114, 111, 117, 112]⟩], (.meth 151))]) (by simp)).2.2 rfl).mono ?_
  rintro e W14 ⟨rfl, hm14, hk14, hf14⟩
  have HS14 := hide (HS13.out.on hk14 hf14 hm14)
  clear hm14 hk14 hf14
  go_wp2_with fail
  refine (ru_ends bm bB bD 150 _).mono ?_
  rintro e W15 ⟨⟨x15, rfl, hr15⟩, hk15⟩
  obtain ⟨f15, a15, l15, hv15⟩ := hr15.func (by simp)
  subst hv15
  have HS15 := hide (HS14.out.call hk15 hr15)
  clear hr15 hk15
  go_wp2_with fail
  refine (on_map bm bB bD b2 _ [⟨#[115, 101, 108, 101, 99, 116]⟩] (.ends 150) [([⟨#[111, 112, 116, 105, 111, 110]⟩], (.meth 152)), ([⟨#[111, 112, 116, 103, 114, 111, 117, 112]⟩], (.meth 151))] _ _ (by kernel_rfl) (by kernel_rfl) HS15.out.t (HS15.out.hms (b2, [([⟨#[111, 112, 116, 105, 111, 110]⟩], (.meth 152)), ([⟨#[111, 112, 116, 103, 114, 111, 117, 112]⟩], (.meth 151))]) (by simp)).1 (HS15.out.hms (b2, [([⟨#[111, 112, 116, 105, 111, 110]⟩], (.meth 152)), ([⟨#[111, 112, 116, 103, 114, 111, 117, 112]⟩], (.meth 151))]) (by simp)).2.2 (HS15.out.at (by simp))).mono ?_
  rintro e W16 ⟨rfl, hm16, hk16, hf16⟩
  have HS16 := hide (HS15.out.on hk16 hf16 hm16)
  clear hm16 hk16 hf16
  have HF := hide (stored_rules (sp := sp_inSelect) (v0 := .nilFunc) (v1 := .func (.func 146) #[ptrv bB] #[]) (v2 := .func f1 a1 l1) (v3 := .nilFunc) (v4 := .nilFunc) (v5 := .map (some b1)) (v6 := .map (some b2)) (v7 := .nilFunc) (v8 := .nilFunc) (v9 := .func (.func 97) #[] #[]) HS16.out.g HS16.out.k ⟨rfl, rfl, (HS16.out.at (r := .comment 105 true) (v := .func f1 a1 l1) (by simp)), rfl, rfl, (HS16.out.mapAt (b := b1) (R := [([⟨#[105, 110, 112, 117, 116]⟩, ⟨#[116, 101, 120, 116, 97, 114, 101, 97]⟩], (.ahead 150)), ([⟨#[115, 101, 108, 101, 99, 116]⟩], (.ends 150)), ([⟨#[104, 114]⟩], (.meth 149)), ([⟨#[111, 112, 116, 103, 114, 111, 117, 112]⟩], (.meth 148)), ([⟨#[111, 112, 116, 105, 111, 110]⟩], (.meth 147)), ([⟨#[104, 116, 109, 108]⟩], (.asIn 6))]) (by simp)), (HS16.out.mapAt (b := b2) (R := [([⟨#[115, 101, 108, 101, 99, 116]⟩], (.ends 150)), ([⟨#[111, 112, 116, 105, 111, 110]⟩], (.meth 152)), ([⟨#[111, 112, 116, 103, 114, 111, 117, 112]⟩], (.meth 151))]) (by simp)), rfl, rfl, rfl⟩ _ rfl)
  obtain ⟨q0, q1, q2, q3, q4, q5, q6, q7, q8, q9⟩ := zero_cells HS16.out.g
  have u0 := free_at HS16.out.g 0
  have u1 := free_at HS16.out.g 1
  have u2 := free_at HS16.out.g 2
  have u3 := free_at HS16.out.g 3
  have u4 := free_at HS16.out.g 4
  have u5 := free_at HS16.out.g 5
  have u6 := free_at HS16.out.g 6
  have u7 := free_at HS16.out.g 7
  have u8 := free_at HS16.out.g 8
  have u9 := free_at HS16.out.g 9
  go_wp2
  exact fin_rules Tryz.results83 rfl rfl HF.out
def sp_inSelectInTable : RSpec := { start := some [([⟨#[99, 97, 112, 116, 105, 111, 110]⟩, ⟨#[116, 97, 98, 108, 101]⟩, ⟨#[116, 98, 111, 100, 121]⟩, ⟨#[116, 102, 111, 111, 116]⟩, ⟨#[116, 104, 101, 97, 100]⟩, ⟨#[116, 114]⟩, ⟨#[116, 100]⟩, ⟨#[116, 104]⟩], (.ahead 150))], stop := some [([⟨#[99, 97, 112, 116, 105, 111, 110]⟩, ⟨#[116, 97, 98, 108, 101]⟩, ⟨#[116, 98, 111, 100, 121]⟩, ⟨#[116, 102, 111, 111, 116]⟩, ⟨#[116, 104, 101, 97, 100]⟩, ⟨#[116, 114]⟩, ⟨#[116, 100]⟩, ⟨#[116, 104]⟩], (.ifT (.ahead 150)))], others := .asIn 14 }
set_option maxHeartbeats 8000000 in
set_option maxRecDepth 100000 in
theorem r_inSelectInTable (bm bB bD : Nat) (w : World) (hb : BD bB bD w) (ht : Tab w) (hbm : bm < w.heap.size) :
    Calls Tryz.prog 84 #[ptrv bB] w (MakesRules bm bB bD sp_inSelectInTable w) := by
  have hmm := @run_makeMap Tryz.prog
  obtain ⟨W0, hW0, S0⟩ := St.start bm bB bD w ht hbm
  obtain ⟨c187, hBl⟩ := hb
  have HS0 := hide S0
  have HW0 := hide hW0
  clear S0 hW0 ht hbm
  go_enter Tryz.func84, Tryz.ntmps84
  obtain ⟨W1, b1, hW1, hb1, S1⟩ := HS0.out.map
  have HS1 := hide S1
  have HW1 := hide hW1
  have HB1 := hide hb1
  clear hW1 hb1 S1
  go_wp2_with fail
  rw [← HW0.out]
  rw [← HW1.out, show w.heap.size + 1 = b1 by rw [HB1.out, HW0.out]; simp]
  refine (ru_ahead bm bB bD 150 _).mono ?_
  rintro e W2 ⟨⟨x2, rfl, hr2⟩, hk2⟩
  obtain ⟨f2, a2, l2, hv2⟩ := hr2.func (by simp)
  subst hv2
  have HS2 := hide (HS1.out.call hk2 hr2)
  clear hr2 hk2
  go_wp2_with fail
  refine (on_map bm bB bD b1 _ [⟨#[99, 97, 112, 116, 105, 111, 110]⟩, ⟨#[116, 97, 98, 108, 101]⟩, ⟨#[116, 98, 111, 100, 121]⟩, ⟨#[116, 102, 111, 111, 116]⟩, ⟨#[116, 104, 101, 97, 100]⟩, ⟨#[116, 114]⟩, ⟨#[116, 100]⟩, ⟨#[116, 104]⟩] (.ahead 150) [] _ _ (by kernel_rfl) (by kernel_rfl) HS2.out.t (HS2.out.hms (b1, []) (by simp)).1 (HS2.out.hms (b1, []) (by simp)).2.2 (HS2.out.at (by simp))).mono ?_
  rintro e W3 ⟨rfl, hm3, hk3, hf3⟩
  have HS3 := hide (HS2.out.on hk3 hf3 hm3)
  clear hm3 hk3 hf3
  obtain ⟨W4, b2, hW4, hb2, S4⟩ := HS3.out.map
  have HS4 := hide S4
  have HW4 := hide hW4
  have HB2 := hide hb2
  clear hW4 hb2 S4
  go_wp2_with fail
  rw [← HW4.out, ← HB2.out]
  refine (ru_ahead bm bB bD 150 _).mono ?_
  rintro e W5 ⟨⟨x5, rfl, hr5⟩, hk5⟩
  obtain ⟨f5, a5, l5, hv5⟩ := hr5.func (by simp)
  subst hv5
  have HS5 := hide (HS4.out.call hk5 hr5)
  clear hr5 hk5
  go_wp2_with fail
  refine (ru_ifT bm bB bD (.ahead 150) _ _ (by simp) (HS5.out.at (by simp))).mono ?_
  rintro e W6 ⟨⟨x6, rfl, hr6⟩, hk6⟩
  obtain ⟨f6, a6, l6, hv6⟩ := hr6.func (by simp)
  subst hv6
  have HS6 := hide (HS5.out.call hk6 hr6)
  clear hr6 hk6
  go_wp2_with fail
  refine (on_map bm bB bD b2 _ [⟨#[99, 97, 112, 116, 105, 111, 110]⟩, ⟨#[116, 97, 98, 108, 101]⟩, ⟨#[116, 98, 111, 100, 121]⟩, ⟨#[116, 102, 111, 111, 116]⟩, ⟨#[116, 104, 101, 97, 100]⟩, ⟨#[116, 114]⟩, ⟨#[116, 100]⟩, ⟨#[116, 104]⟩] (.ifT (.ahead 150)) [] _ _ (by kernel_rfl) (by kernel_rfl) HS6.out.t (HS6.out.hms (b2, []) (by simp)).1 (HS6.out.hms (b2, []) (by simp)).2.2 (HS6.out.at (by simp))).mono ?_
  rintro e W7 ⟨rfl, hm7, hk7, hf7⟩
  have HS7 := hide (HS6.out.on hk7 hf7 hm7)
  clear hm7 hk7 hf7
  go_wp2_with fail
  refine (ru_asIn bm bB bD 14 _).mono ?_
  rintro e W8 ⟨⟨x8, rfl, hr8⟩, hk8⟩
  obtain ⟨f8, a8, l8, hv8⟩ := hr8.func (by simp)
  subst hv8
  have HS8 := hide (HS7.out.call hk8 hr8)
  clear hr8 hk8
  have HF := hide (stored_rules (sp := sp_inSelectInTable) (v0 := .nilFunc) (v1 := .nilFunc) (v2 := .nilFunc) (v3 := .nilFunc) (v4 := .nilFunc) (v5 := .map (some b1)) (v6 := .map (some b2)) (v7 := .nilFunc) (v8 := .nilFunc) (v9 := .func f8 a8 l8) HS8.out.g HS8.out.k ⟨rfl, rfl, rfl, rfl, rfl, (HS8.out.mapAt (b := b1) (R := [([⟨#[99, 97, 112, 116, 105, 111, 110]⟩, ⟨#[116, 97, 98, 108, 101]⟩, ⟨#[116, 98, 111, 100, 121]⟩, ⟨#[116, 102, 111, 111, 116]⟩, ⟨#[116, 104, 101, 97, 100]⟩, ⟨#[116, 114]⟩, ⟨#[116, 100]⟩, ⟨#[116, 104]⟩], (.ahead 150))]) (by simp)), (HS8.out.mapAt (b := b2) (R := [([⟨#[99, 97, 112, 116, 105, 111, 110]⟩, ⟨#[116, 97, 98, 108, 101]⟩, ⟨#[116, 98, 111, 100, 121]⟩, ⟨#[116, 102, 111, 111, 116]⟩, ⟨#[116, 104, 101, 97, 100]⟩, ⟨#[116, 114]⟩, ⟨#[116, 100]⟩, ⟨#[116, 104]⟩], (.ifT (.ahead 150)))]) (by simp)), rfl, rfl, (HS8.out.at (r := .asIn 14) (v := .func f8 a8 l8) (by simp))⟩ _ rfl)
  obtain ⟨q0, q1, q2, q3, q4, q5, q6, q7, q8, q9⟩ := zero_cells HS8.out.g
  have u0 := free_at HS8.out.g 0
  have u1 := free_at HS8.out.g 1
  have u2 := free_at HS8.out.g 2
  have u3 := free_at HS8.out.g 3
  have u4 := free_at HS8.out.g 4
  have u5 := free_at HS8.out.g 5
  have u6 := free_at HS8.out.g 6
  have u7 := free_at HS8.out.g 7
  have u8 := free_at HS8.out.g 8
  have u9 := free_at HS8.out.g 9
  go_wp2
  exact fin_rules Tryz.results84 rfl rfl HF.out
end Go.Proofs.YtlhhgenpcjjajaaGreatDoor
