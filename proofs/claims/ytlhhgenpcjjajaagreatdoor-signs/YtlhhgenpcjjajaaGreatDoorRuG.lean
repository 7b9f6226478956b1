import Derived.Test.YtlhhgenpcjjajaaGreatDoorBuA
set_option linter.unusedSimpArgs false
set_option linter.unusedVariables false
namespace Go.Proofs.YtlhhgenpcjjajaaGreatDoor
open Go.RowKit
def sp_inTable : RSpec := { char := .meth 125, comment := .comment 105 true, doctype := .nothing, start := some [([⟨#[105, 110, 112, 117, 116]⟩], (.meth 133)), ([⟨#[102, 111, 114, 109]⟩], (.meth 132)), ([⟨#[115, 116, 121, 108, 101]⟩], (.asIn 3)), ([⟨#[116, 97, 98, 108, 101]⟩], (.ahead 131)), ([⟨#[116, 100]⟩, ⟨#[116, 104]⟩, ⟨#[116, 114]⟩], (.implies [⟨#[116, 97, 98, 108, 101]⟩] ⟨#[116, 98, 111, 100, 121]⟩ 11)), ([⟨#[116, 98, 111, 100, 121]⟩, ⟨#[116, 102, 111, 111, 116]⟩, ⟨#[116, 104, 101, 97, 100]⟩], (.starts [⟨#[116, 97, 98, 108, 101]⟩] 11)), ([⟨#[99, 111, 108]⟩], (.implies [⟨#[116, 97, 98, 108, 101]⟩] ⟨#[99, 111, 108, 103, 114, 111, 117, 112]⟩ 10)), ([⟨#[99, 111, 108, 103, 114, 111, 117, 112]⟩], (.starts [⟨#[116, 97, 98, 108, 101]⟩] 10)), ([⟨#[99, 97, 112, 116, 105, 111, 110]⟩], (.meth 126))], stop := some [([⟨#[98, 111, 100, 121]⟩, ⟨#[99, 97, 112, 116, 105, 111, 110]⟩, ⟨#[99, 111, 108]⟩, ⟨#[99, 111, 108, 103, 114, 111, 117, 112]⟩, ⟨#[104, 116, 109, 108]⟩, ⟨#[116, 98, 111, 100, 121]⟩, ⟨#[116, 100]⟩, ⟨#[116, 102, 111, 111, 116]⟩, ⟨#[116, 104]⟩, ⟨#[116, 104, 101, 97, 100]⟩, ⟨#[116, 114]⟩], .nothing), ([⟨#[116, 97, 98, 108, 101]⟩], (.ends 131))], others := .meth 135 }
set_option maxHeartbeats 8000000 in
set_option maxRecDepth 100000 in
theorem r_inTable (bm bB bD : Nat) (w : World) (hb : BD bB bD w) (ht : Tab w) (hbm : bm < w.heap.size) :
    Calls Tryz.prog 76 #[ptrv bB] w (MakesRules bm bB bD sp_inTable w) := by
  have hmm := @run_makeMap Tryz.prog
  obtain ⟨W0, hW0, S0⟩ := St.start bm bB bD w ht hbm
  obtain ⟨c187, hBl⟩ := hb
  have HS0 := hide S0
  have HW0 := hide hW0
  clear S0 hW0 ht hbm
  go_enter Tryz.func76, Tryz.ntmps76
  go_wp2_with fail
  rw [← HW0.out]
  refine (ru_comment bm bB bD 105 true _).mono ?_
  rintro e W1 ⟨⟨x1, rfl, hr1⟩, hk1⟩
  obtain ⟨f1, a1, l1, hv1⟩ := hr1.func (by simp)
  subst hv1
  have HS1 := hide (HS0.out.call hk1 hr1)
  clear hr1 hk1
  obtain ⟨W2, b1, hW2, hb1, S2⟩ := HS1.out.map
  have HS2 := hide S2
  have HW2 := hide hW2
  have HB1 := hide hb1
  clear hW2 hb1 S2
  go_wp2_with fail
  rw [← HW2.out, ← HB1.out]
  refine (on_map bm bB bD b1 _ [⟨#[99, 97, 112, 116, 105, 111, 110]⟩] (.meth 126) [] _ _ (by kernel_rfl) (by kernel_rfl) HS2.out.t (HS2.out.hms (b1, []) (by simp)).1 (HS2.out.hms (b1, []) (by simp)).2.2 rfl).mono ?_
  rintro e W3 ⟨rfl, hm3, hk3, hf3⟩
  have HS3 := hide (HS2.out.on hk3 hf3 hm3)
  clear hm3 hk3 hf3
  go_wp2_with fail
  refine (table_Ask bm _).mono ?_
  rintro e W4 ⟨⟨x4, rfl, ha4⟩, hk4⟩
  have HS4 := hide (HS3.out.call0 hk4)
  have HA4 := hide ha4
  obtain ⟨f4, a4, l4, hv4⟩ := ha4.func
  subst hv4
  clear ha4 hk4
  go_wp2_with fail
  refine (ru_starts bm bB bD [⟨#[116, 97, 98, 108, 101]⟩] 10 _ _ HA4.out).mono ?_
  rintro e W5 ⟨⟨x5, rfl, hr5⟩, hk5⟩
  obtain ⟨f5, a5, l5, hv5⟩ := hr5.func (by simp)
  subst hv5
  have HS5 := hide (HS4.out.call hk5 hr5)
  clear hr5 hk5
  go_wp2_with fail
  refine (on_map bm bB bD b1 _ [⟨#[99, 111, 108, 103, 114, 111, 117, 112]⟩] (.starts [⟨#[116, 97, 98, 108, 101]⟩] 10) [([⟨#[99, 97, 112, 116, 105, 111, 110]⟩], (.meth 126))] _ _ (by kernel_rfl) (by kernel_rfl) HS5.out.t (HS5.out.hms (b1, [([⟨#[99, 97, 112, 116, 105, 111, 110]⟩], (.meth 126))]) (by simp)).1 (HS5.out.hms (b1, [([⟨#[99, 97, 112, 116, 105, 111, 110]⟩], (.meth 126))]) (by simp)).2.2 (HS5.out.at (by simp))).mono ?_
  rintro e W6 ⟨rfl, hm6, hk6, hf6⟩
  have HS6 := hide (HS5.out.on hk6 hf6 hm6)
  clear hm6 hk6 hf6
  go_wp2_with fail
  refine (table_Ask bm _).mono ?_
  rintro e W7 ⟨⟨x7, rfl, ha7⟩, hk7⟩
  have HS7 := hide (HS6.out.call0 hk7)
  have HA7 := hide ha7
  obtain ⟨f7, a7, l7, hv7⟩ := ha7.func
  subst hv7
  clear ha7 hk7
  go_wp2_with fail
  refine (ru_implies bm bB bD [⟨#[116, 97, 98, 108, 101]⟩] ⟨#[99, 111, 108, 103, 114, 111, 117, 112]⟩ 10 _ _ HA7.out).mono ?_
  rintro e W8 ⟨⟨x8, rfl, hr8⟩, hk8⟩
  obtain ⟨f8, a8, l8, hv8⟩ := hr8.func (by simp)
  subst hv8
  have HS8 := hide (HS7.out.call hk8 hr8)
  clear hr8 hk8
  go_wp2_with fail
  refine (on_map bm bB bD b1 _ [⟨#[99, 111, 108]⟩] (.implies [⟨#[116, 97, 98, 108, 101]⟩] ⟨#[99, 111, 108, 103, 114, 111, 117, 112]⟩ 10) [([⟨#[99, 111, 108, 103, 114, 111, 117, 112]⟩], (.starts [⟨#[116, 97, 98, 108, 101]⟩] 10)), ([⟨#[99, 97, 112, 116, 105, 111, 110]⟩], (.meth 126))] _ _ (by kernel_rfl) (by kernel_rfl) HS8.out.t (HS8.out.hms (b1, [([⟨#[99, 111, 108, 103, 114, 111, 117, 112]⟩], (.starts [⟨#[116, 97, 98, 108, 101]⟩] 10)), ([⟨#[99, 97, 112, 116, 105, 111, 110]⟩], (.meth 126))]) (by simp)).1 (HS8.out.hms (b1, [([⟨#[99, 111, 108, 103, 114, 111, 117, 112]⟩], (.starts [⟨#[116, 97, 98, 108, 101]⟩] 10)), ([⟨#[99, 97, 112, 116, 105, 111, 110]⟩], (.meth 126))]) (by simp)).2.2 (HS8.out.at (by simp))).mono ?_
  rintro e W9 ⟨rfl, hm9, hk9, hf9⟩
  have HS9 := hide (HS8.out.on hk9 hf9 hm9)
  clear hm9 hk9 hf9
  go_wp2_with fail
  refine (table_Ask bm _).mono ?_
  rintro e W10 ⟨⟨x10, rfl, ha10⟩, hk10⟩
  have HS10 := hide (HS9.out.call0 hk10)
  have HA10 := hide ha10
  obtain ⟨f10, a10, l10, hv10⟩ := ha10.func
  subst hv10
  clear ha10 hk10
  go_wp2_with fail
  refine (ru_starts bm bB bD [⟨#[116, 97, 98, 108, 101]⟩] 11 _ _ HA10.out).mono ?_
  rintro e W11 ⟨⟨x11, rfl, hr11⟩, hk11⟩
  obtain ⟨f11, a11, l11, hv11⟩ := hr11.func (by simp)
  subst hv11
  have HS11 := hide (HS10.out.call hk11 hr11)
  clear hr11 hk11
  go_wp2_with fail
  refine (on_map bm bB bD b1 _ [⟨#[116, 98, 111, 100, 121]⟩, ⟨#[116, 102, 111, 111, 116]⟩, ⟨#[116, 104, 101, 97, 100]⟩] (.starts [⟨#[116, 97, 98, 108, 101]⟩] 11) [([⟨#[99, 111, 108]⟩], (.implies [⟨#[116, 97, 98, 108, 101]⟩] ⟨#[99, 111, 108, 103, 114, 111, 117, 112]⟩ 10)), ([⟨#[99, 111, 108, 103, 114, 111, 117, 112]⟩], (.starts [⟨#[116, 97, 98, 108, 101]⟩] 10)), ([⟨#[99, 97, 112, 116, 105, 111, 110]⟩], (.meth 126))] _ _ (by kernel_rfl) (by kernel_rfl) HS11.out.t (HS11.out.hms (b1, [([⟨#[99, 111, 108]⟩], (.implies [⟨#[116, 97, 98, 108, 101]⟩] ⟨#[99, 111, 108, 103, 114, 111, 117, 112]⟩ 10)), ([⟨#[99, 111, 108, 103, 114, 111, 117, 112]⟩], (.starts [⟨#[116, 97, 98, 108, 101]⟩] 10)), ([⟨#[99, 97, 112, 116, 105, 111, 110]⟩], (.meth 126))]) (by simp)).1 (HS11.out.hms (b1, [([⟨#[99, 111, 108]⟩], (.implies [⟨#[116, 97, 98, 108, 101]⟩] ⟨#[99, 111, 108, 103, 114, 111, 117, 112]⟩ 10)), ([⟨#[99, 111, 108, 103, 114, 111, 117, 112]⟩], (.starts [⟨#[116, 97, 98, 108, 101]⟩] 10)), ([⟨#[99, 97, 112, 116, 105, 111, 110]⟩], (.meth 126))]) (by simp)).2.2 (HS11.out.at (by simp))).mono ?_
  rintro e W12 ⟨rfl, hm12, hk12, hf12⟩
  have HS12 := hide (HS11.out.on hk12 hf12 hm12)
  clear hm12 hk12 hf12
  go_wp2_with fail
  refine (table_Ask bm _).mono ?_
  rintro e W13 ⟨⟨x13, rfl, ha13⟩, hk13⟩
  have HS13 := hide (HS12.out.call0 hk13)
  have HA13 := hide ha13
  obtain ⟨f13, a13, l13, hv13⟩ := ha13.func
  subst hv13
  clear ha13 hk13
  go_wp2_with fail
  refine (ru_implies bm bB bD [⟨#[116, 97, 98, 108, 101]⟩] ⟨#[116, 98, 111, 100, 121]⟩ 11 _ _ HA13.out).mono ?_
  rintro e W14 ⟨⟨x14, rfl, hr14⟩, hk14⟩
  obtain ⟨f14, a14, l14, hv14⟩ := hr14.func (by simp)
  subst hv14
  have HS14 := hide (HS13.out.call hk14 hr14)
  clear hr14 hk14
  go_wp2_with fail
  refine (on_map bm bB bD b1 _ [⟨#[116, 100]⟩, ⟨#[116, 104]⟩, ⟨#[116, 114]⟩] (.implies [⟨#[116, 97, 98, 108, 101]⟩] ⟨#[116, 98, 111, 100, 121]⟩ 11) [([⟨#[116, 98, 111, 100, 121]⟩, ⟨#[116, 102, 111, 111, 116]⟩, ⟨#[116, 104, 101, 97, 100]⟩], (.starts [⟨#[116, 97, 98, 108, 101]⟩] 11)), ([⟨#[99, 111, 108]⟩], (.implies [⟨#[116, 97, 98, 108, 101]⟩] ⟨#[99, 111, 108, 103, 114, 111, 117, 112]⟩ 10)), ([⟨#[99, 111, 108, 103, 114, 111, 117, 112]⟩], (.starts [⟨#[116, 97, 98, 108, 101]⟩] 10)), ([⟨#[99, 97, 112, 116, 105, 111, 110]⟩], (.meth 126))] _ _ (by kernel_rfl) (by kernel_rfl) HS14.out.t (HS14.out.hms (b1, [([⟨#[116, 98, 111, 100, 121]⟩, ⟨#[116, 102, 111, 111, 116]⟩, ⟨#[116, 104, 101, 97, 100]⟩], (.starts [⟨#[116, 97, 98, 108, 101]⟩] 11)), ([⟨#[99, 111, 108]⟩], (.implies [⟨#[116, 97, 98, 108, 101]⟩] ⟨#[99, 111, 108, 103, 114, 111, 117, 112]⟩ 10)), ([⟨#[99, 111, 108, 103, 114, 111, 117, 112]⟩], (.starts [⟨#[116, 97, 98, 108, 101]⟩] 10)), ([⟨#[99, 97, 112, 116, 105, 111, 110]⟩], (.meth 126))]) (by simp)).1 (HS14.out.hms (b1, [([⟨#[116, 98, 111, 100, 121]⟩, ⟨#[116, 102, 111, 111, 116]⟩, ⟨#[116, 104, 101, 97, 100]⟩], (.starts [⟨#[116, 97, 98, 108, 101]⟩] 11)), ([⟨#[99, 111, 108]⟩], (.implies [⟨#[116, 97, 98, 108, 101]⟩] ⟨#[99, 111, 108, 103, 114, 111, 117, 112]⟩ 10)), ([⟨#[99, 111, 108, 103, 114, 111, 117, 112]⟩], (.starts [⟨#[116, 97, 98, 108, 101]⟩] 10)), ([⟨#[99, 97, 112, 116, 105, 111, 110]⟩], (.meth 126))]) (by simp)).2.2 (HS14.out.at (by simp))).mono ?_
  rintro e W15 ⟨rfl, hm15, hk15, hf15⟩
  have HS15 := hide (HS14.out.on hk15 hf15 hm15)
  clear hm15 hk15 hf15
  go_wp2_with fail
  refine (ru_ahead bm bB bD 131 _).mono ?_
  rintro e W16 ⟨⟨x16, rfl, hr16⟩, hk16⟩
  obtain ⟨f16, a16, l16, hv16⟩ := hr16.func (by simp)
  subst hv16
  have HS16 := hide (HS15.out.call hk16 hr16)
  clear hr16 hk16
  go_wp2_with fail
  refine (on_map bm bB bD b1 _ [⟨#[116, 97, 98, 108, 101]⟩] (.ahead 131) [([⟨#[116, 100]⟩, ⟨#[116, 104]⟩, ⟨#[116, 114]⟩], (.implies [⟨#[116, 97, 98, 108, 101]⟩] ⟨#[116, 98, 111, 100, 121]⟩ 11)), ([⟨#[116, 98, 111, 100, 121]⟩, ⟨#[116, 102, 111, 111, 116]⟩, ⟨#[116, 104, 101, 97, 100]⟩], (.starts [⟨#[116, 97, 98, 108, 101]⟩] 11)), ([⟨#[99, 111, 108]⟩], (.implies [⟨#[116, 97, 98, 108, 101]⟩] ⟨#[99, 111, 108, 103, 114, 111, 117, 112]⟩ 10)), ([⟨#[99, 111, 108, 103, 114, 111, 117, 112]⟩], (.starts [⟨#[116, 97, 98, 108, 101]⟩] 10)), ([⟨#[99, 97, 112, 116, 105, 111, 110]⟩], (.meth 126))] _ _ (by kernel_rfl) (by kernel_rfl) HS16.out.t (HS16.out.hms (b1, [([⟨#[116, 100]⟩, ⟨#[116, 104]⟩, ⟨#[116, 114]⟩], (.implies [⟨#[116, 97, 98, 108, 101]⟩] ⟨#[116, 98, 111, 100, 121]⟩ 11)), ([⟨#[116, 98, 111, 100, 121]⟩, ⟨#[116, 102, 111, 111, 116]⟩, ⟨#[116, 104, 101, 97, 100]⟩], (.starts [⟨#[116, 97, 98, 108, 101]⟩] 11)), ([⟨#[99, 111, 108]⟩], (.implies [⟨#[116, 97, 98, 108, 101]⟩] ⟨#[99, 111, 108, 103, 114, 111, 117, 112]⟩ 10)), ([⟨#[99, 111, 108, 103, 114, 111, 117, 112]⟩], (.starts [⟨#[116, 97, 98, 108, 101]⟩] 10)), ([⟨#[99, 97, 112, 116, 105, 111, 110]⟩], (.meth 126))]) (by simp)).1 (HS16.out.hms (b1, [([⟨#[116, 100]⟩, ⟨#[116, 104]⟩, ⟨#[116, 114]⟩], (.implies [⟨#[116, 97, 98, 108, 101]⟩] ⟨#[116, 98, 111, 100, 121]⟩ 11)), ([⟨#[116, 98, 111, 100, 121]⟩, ⟨#[116, 102, 111, 111, 116]⟩, ⟨#[116, 104, 101, 97, 100]⟩], (.starts [⟨#[116, 97, 98, 108, 101]⟩] 11)), ([⟨#[99, 111, 108]⟩], (.implies [⟨#[116, 97, 98, 108, 101]⟩] ⟨#[99, 111, 108, 103, 114, 111, 117, 112]⟩ 10)), ([⟨#[99, 111, 108, 103, 114, 111, 117, 112]⟩], (.starts [⟨#[116, 97, 98, 108, 101]⟩] 10)), ([⟨#[99, 97, 112, 116, 105, 111, 110]⟩], (.meth 126))]) (by simp)).2.2 (HS16.out.at (by simp))).mono ?_
  rintro e W17 ⟨rfl, hm17, hk17, hf17⟩
  have HS17 := hide (HS16.out.on hk17 hf17 hm17)
  clear hm17 hk17 hf17
  go_wp2_with fail
  refine (ru_asIn bm bB bD 3 _).mono ?_
  rintro e W18 ⟨⟨x18, rfl, hr18⟩, hk18⟩
  obtain ⟨f18, a18, l18, hv18⟩ := hr18.func (by simp)
  subst hv18
  have HS18 := hide (HS17.out.call hk18 hr18)
  clear hr18 hk18
  go_wp2_with fail
  refine (on_map bm bB bD b1 _ [⟨#[115, 116, 121, 108, 101]⟩] (.asIn 3) [([⟨#[116, 97, 98, 108, 101]⟩], (.ahead 131)), ([⟨#[116, 100]⟩, ⟨#[116, 104]⟩, ⟨#[116, 114]⟩], (.implies [⟨#[116, 97, 98, 108, 101]⟩] ⟨#[116, 98, 111, 100, 121]⟩ 11)), ([⟨#[116, 98, 111, 100, 121]⟩, ⟨#[116, 102, 111, 111, 116]⟩, ⟨#[116, 104, 101, 97, 100]⟩], (.starts [⟨#[116, 97, 98, 108, 101]⟩] 11)), ([⟨#[99, 111, 108]⟩], (.implies [⟨#[116, 97, 98, 108, 101]⟩] ⟨#[99, 111, 108, 103, 114, 111, 117, 112]⟩ 10)), ([⟨#[99, 111, 108, 103, 114, 111, 117, 112]⟩], (.starts [⟨#[116, 97, 98, 108, 101]⟩] 10)), ([⟨#[99, 97, 112, 116, 105, 111, 110]⟩], (.meth 126))] _ _ (by kernel_rfl) (by kernel_rfl) HS18.out.t (HS18.out.hms (b1, [([⟨#[116, 97, 98, 108, 101]⟩], (.ahead 131)), ([⟨#[116, 100]⟩, ⟨#[116, 104]⟩, ⟨#[116, 114]⟩], (.implies [⟨#[116, 97, 98, 108, 101]⟩] ⟨#[116, 98, 111, 100, 121]⟩ 11)), ([⟨#[116, 98, 111, 100, 121]⟩, ⟨#[116, 102, 111, 111, 116]⟩, ⟨#[116, 104, 101, 97, 100]⟩], (.starts [⟨#[116, 97, 98, 108, 101]⟩] 11)), ([⟨#[99, 111, 108]⟩], (.implies [⟨#[116, 97, 98, 108, 101]⟩] ⟨#[99, 111, 108, 103, 114, 111, 117, 112]⟩ 10)), ([⟨#[99, 111, 108, 103, 114, 111, 117, 112]⟩], (.starts [⟨#[116, 97, 98, 108, 101]⟩] 10)), ([⟨#[99, 97, 112, 116, 105, 111, 110]⟩], (.meth 126))]) (by simp)).1 (HS18.out.hms (b1, [([⟨#[116, 97, 98, 108, 101]⟩], (.ahead 131)), ([⟨#[116, 100]⟩, ⟨#[116, 104]⟩, ⟨#[116, 114]⟩], (.implies [⟨#[116, 97, 98, 108, 101]⟩] ⟨#[116, 98, 111, 100, 121]⟩ 11)), ([⟨#[116, 98, 111, 100, 121]⟩, ⟨#[116, 102, 111, 111, 116]⟩, ⟨#[116, 104, 101, 97, 100]⟩], (.starts [⟨#[116, 97, 98, 108, 101]⟩] 11)), ([⟨#[99, 111, 108]⟩], (.implies [⟨#[116, 97, 98, 108, 101]⟩] ⟨#[99, 111, 108, 103, 114, 111, 117, 112]⟩ 10)), ([⟨#[99, 111, 108, 103, 114, 111, 117, 112]⟩], (.starts [⟨#[116, 97, 98, 108, 101]⟩] 10)), ([⟨#[99, 97, 112, 116, 105, 111, 110]⟩], (.meth 126))]) (by simp)).2.2 (HS18.out.at (by simp))).mono ?_
  rintro e W19 ⟨rfl, hm19, hk19, hf19⟩
  have HS19 := hide (HS18.out.on hk19 hf19 hm19)
  clear hm19 hk19 hf19
  go_wp2_with fail
  refine (on_map bm bB bD b1 _ [⟨#[102, 111, 114, 109]⟩] (.meth 132) [([⟨#[115, 116, 121, 108, 101]⟩], (.asIn 3)), ([⟨#[116, 97, 98, 108, 101]⟩], (.ahead 131)), ([⟨#[116, 100]⟩, ⟨#[116, 104]⟩, ⟨#[116, 114]⟩], (.implies [⟨#[116, 97, 98, 108, 101]⟩] ⟨#[116, 98, 111, 100, 121]⟩ 11)), ([⟨#[116, 98, 111, 100, 121]⟩, ⟨#[116, 102, 111, 111, 116]⟩, ⟨#[116, 104, 101, 97, 100]⟩], (.starts [⟨#[116, 97, 98, 108, 101]⟩] 11)), ([⟨#[99, 111, 108]⟩], (.implies [⟨#[116, 97, 98, 108, 101]⟩] ⟨#[99, 111, 108, 103, 114, 111, 117, 112]⟩ 10)), ([⟨#[99, 111, 108, 103, 114, 111, 117, 112]⟩], (.starts [⟨#[116, 97, 98, 108, 101]⟩] 10)), ([⟨#[99, 97, 112, 116, 105, 111, 110]⟩], (.meth 126))] _ _ (by kernel_rfl) (by kernel_rfl) HS19.out.t (HS19.out.hms (b1, [([⟨#[115, 116, 121, 108, 101]⟩], (.asIn 3)), ([⟨#[116, 97, 98, 108, 101]⟩], (.ahead 131)), ([⟨#[116, 100]⟩, ⟨#[116, 104]⟩, ⟨#[116, 114]⟩], (.implies [⟨#[116, 97, 98, 108, 101]⟩] ⟨#[116, 98, 111, 100, 121]⟩ 11)), ([⟨#[116, 98, 111, 100, 121]⟩, ⟨#[116, 102, 111, 111, 116]⟩, ⟨#[116, 104, 101, 97, 100]⟩], (.starts [⟨#[116, 97, 98, 108, 101]⟩] 11)), ([⟨#[99, 111, 108]⟩], (.implies [⟨#[116, 97, 98, 108, 101]⟩] ⟨#[99, 111, 108, 103, 114, 111, 117, 112]⟩ 10)), ([⟨#[99, 111, 108, 103, 114, 111, 117, 112]⟩], (.starts [⟨#[116, 97, 98, 108, 101]⟩] 10)), ([⟨#[99, 97, 112, 116, 105, 111, 110]⟩], (.meth 126))]) (by simp)).1 (HS19.out.hms (b1, [([⟨#[115, 116, 121, 108, 101]⟩], (.asIn 3)), ([⟨#[116, 97, 98, 108, 101]⟩], (.ahead 131)), ([⟨#[116, 100]⟩, ⟨#[116, 104]⟩, ⟨#[116, 114]⟩], (.implies [⟨#[116, 97, 98, 108, 101]⟩] ⟨#[116, 98, 111, 100, 121]⟩ 11)), ([⟨#[116, 98, 111, 100, 121]⟩, ⟨#[116, 102, 111, 111, 116]⟩, ⟨#[116, 104, 101, 97, 100]⟩], (.starts [⟨#[116, 97, 98, 108, 101]⟩] 11)), ([⟨#[99, 111, 108]⟩], (.implies [⟨#[116, 97, 98, 108, 101]⟩] ⟨#[99, 111, 108, 103, 114, 111, 117, 112]⟩ 10)), ([⟨#[99, 111, 108, 103, 114, 111, 117, 112]⟩], (.starts [⟨#[116, 97, 98, 108, 101]⟩] 10)), ([⟨#[99, 97, 112, 116, 105, 111, 110]⟩], (.meth 126))]) (by simp)).2.2 rfl).mono ?_
  rintro e W20 ⟨rfl, hm20, hk20, hf20⟩
  have HS20 := hide (HS19.out.on hk20 hf20 hm20)
  clear hm20 hk20 hf20
  go_wp2_with fail
  refine (on_map bm bB bD b1 _ [⟨#[105, 110, 112, 117, 116]⟩] (.meth 133) [([⟨#[102, 111, 114, 109]⟩], (.meth 132)), ([⟨#[115, 116, 121, 108, 101]⟩], (.asIn 3)), ([⟨#[116, 97, 98, 108, 101]⟩], (.ahead 131)), ([⟨#[116, 100]⟩, ⟨#[116, 104]⟩, ⟨#[116, 114]⟩], (.implies [⟨#[116, 97, 98, 108, 101]⟩] ⟨#[116, 98, 111, 100, 121]⟩ 11)), ([⟨#[116, 98, 111, 100, 121]⟩, ⟨#[116, 102, 111, 111, 116]⟩, ⟨#[116, 104, 101, 97, 100]⟩], (.starts [⟨#[116, 97, 98, 108, 101]⟩] 11)), ([⟨#[99, 111, 108]⟩], (.implies [⟨#[116, 97, 98, 108, 101]⟩] ⟨#[99, 111, 108, 103, 114, 111, 117, 112]⟩ 10)), ([⟨#[99, 111, 108, 103, 114, 111, 117, 112]⟩], (.starts [⟨#[116, 97, 98, 108, 101]⟩] 10)), ([⟨#[99, 97, 112, 116, 105, 111, 110]⟩], (.meth 126))] _ _ (by kernel_rfl) (by kernel_rfl) HS20.out.t (HS20.out.hms (b1, [([⟨#[102, 111, 114, 109]⟩], (.meth 132)), ([⟨#[115, 116, 121, 108, 101]⟩], (.asIn 3)), ([⟨#[116, 97, 98, 108, 101]⟩], (.ahead 131)), ([⟨#[116, 100]⟩, ⟨#[116, 104]⟩, ⟨#[116, 114]⟩], (.implies [⟨#[116, 97, 98, 108, 101]⟩] ⟨#[116, 98, 111, 100, 121]⟩ 11)), ([⟨#[116, 98, 111, 100, 121]⟩, ⟨#[116, 102, 111, 111, 116]⟩, ⟨#[116, 104, 101, 97, 100]⟩], (.starts [⟨#[116, 97, 98, 108, 101]⟩] 11)), ([⟨#[99, 111, 108]⟩], (.implies [⟨#[116, 97, 98, 108, 101]⟩] ⟨#[99, 111, 108, 103, 114, 111, 117, 112]⟩ 10)), ([⟨#[99, 111, 108, 103, 114, 111, 117, 112]⟩], (.starts [⟨#[116, 97, 98, 108, 101]⟩] 10)), ([⟨#[99, 97, 112, 116, 105, 111, 110]⟩], (.meth 126))]) (by simp)).1 (HS20.out.hms (b1, [([⟨#[102, 111, 114, 109]⟩], (.meth 132)), ([⟨#[115, 116, 121, 108, 101]⟩], (.asIn 3)), ([⟨#[116, 97, 98, 108, 101]⟩], (.ahead 131)), ([⟨#[116, 100]⟩, ⟨#[116, 104]⟩, ⟨#[116, 114]⟩], (.implies [⟨#[116, 97, 98, 108, 101]⟩] ⟨#[116, 98, 111, 100, 121]⟩ 11)), ([⟨#[116, 98, 111, 100, 121]⟩, ⟨#[116, 102, 111, 111, 116]⟩, ⟨#[116, 104, 101, 97, 100]⟩], (.starts [⟨#[116, 97, 98, 108, 101]⟩] 11)), ([⟨#[99, 111, 108]⟩], (.implies [⟨#[116, 97, 98, 108, 101]⟩] ⟨#[99, 111, 108, 103, 114, 111, 117, 112]⟩ 10)), ([⟨#[99, 111, 108, 103, 114, 111, 117, 112]⟩], (.starts [⟨#[116, 97, 98, 108, 101]⟩] 10)), ([⟨#[99, 97, 112, 116, 105, 111, 110]⟩], (.meth 126))]) (by simp)).2.2 rfl).mono ?_
  rintro e W21 ⟨rfl, hm21, hk21, hf21⟩
  have HS21 := hide (HS20.out.on hk21 hf21 hm21)
  clear hm21 hk21 hf21
  obtain ⟨W22, b2, hW22, hb2, S22⟩ := HS21.out.map
  have HS22 := hide S22
  have HW22 := hide hW22
  have HB2 := hide hb2
  clear hW22 hb2 S22
  go_wp2_with fail
  rw [← HW22.out, ← HB2.out]
  refine (ru_ends bm bB bD 131 _).mono ?_
  rintro e W23 ⟨⟨x23, rfl, hr23⟩, hk23⟩
  obtain ⟨f23, a23, l23, hv23⟩ := hr23.func (by simp)
  subst hv23
  have HS23 := hide (HS22.out.call hk23 hr23)
  clear hr23 hk23
  go_wp2_with fail
  refine (on_map bm bB bD b2 _ [⟨#[116, 97, 98, 108, 101]⟩] (.ends 131) [] _ _ (by kernel_rfl) (by kernel_rfl) HS23.out.t (HS23.out.hms (b2, []) (by simp)).1 (HS23.out.hms (b2, []) (by simp)).2.2 (HS23.out.at (by simp))).mono ?_
  rintro e W24 ⟨rfl, hm24, hk24, hf24⟩
  have HS24 := hide (HS23.out.on hk24 hf24 hm24)
  clear hm24 hk24 hf24
  go_wp2_with fail
  refine (on_map bm bB bD b2 _ [⟨#[98, 111, 100, 121]⟩, ⟨#[99, 97, 112, 116, 105, 111, 110]⟩, ⟨#[99, 111, 108]⟩, ⟨#[99, 111, 108, 103, 114, 111, 117, 112]⟩, ⟨#[104, 116, 109, 108]⟩, ⟨#[116, 98, 111, 100, 121]⟩, ⟨#[116, 100]⟩, ⟨#[116, 102, 111, 111, 116]⟩, ⟨#[116, 104]⟩, ⟨#[116, 104, 101, 97, 100]⟩, ⟨#[116, 114]⟩] .nothing [([⟨#[116, 97, 98, 108, 101]⟩], (.ends 131))] _ _ (by kernel_rfl) (by kernel_rfl) HS24.out.t (HS24.out.hms (b2, [([⟨#[116, 97, 98, 108, 101]⟩], (.ends 131))]) (by simp)).1 (HS24.out.hms (b2, [([⟨#[116, 97, 98, 108, 101]⟩], (.ends 131))]) (by simp)).2.2 rfl).mono ?_
  rintro e W25 ⟨rfl, hm25, hk25, hf25⟩
  have HS25 := hide (HS24.out.on hk25 hf25 hm25)
  clear hm25 hk25 hf25
  have HF := hide (stored_rules (sp := sp_inTable) (v0 := .nilFunc) (v1 := .func (.func 125) #[ptrv bB] #[]) (v2 := .func f1 a1 l1) (v3 := .func (.func 97) #[] #[]) (v4 := .nilFunc) (v5 := .map (some b1)) (v6 := .map (some b2)) (v7 := .nilFunc) (v8 := .nilFunc) (v9 := .func (.func 135) #[ptrv bB] #[]) HS25.out.g HS25.out.k ⟨rfl, rfl, (HS25.out.at (r := .comment 105 true) (v := .func f1 a1 l1) (by simp)), rfl, rfl, (HS25.out.mapAt (b := b1) (R := [([⟨#[105, 110, 112, 117, 116]⟩], (.meth 133)), ([⟨#[102, 111, 114, 109]⟩], (.meth 132)), ([⟨#[115, 116, 121, 108, 101]⟩], (.asIn 3)), ([⟨#[116, 97, 98, 108, 101]⟩], (.ahead 131)), ([⟨#[116, 100]⟩, ⟨#[116, 104]⟩, ⟨#[116, 114]⟩], (.implies [⟨#[116, 97, 98, 108, 101]⟩] ⟨#[116, 98, 111, 100, 121]⟩ 11)), ([⟨#[116, 98, 111, 100, 121]⟩, ⟨#[116, 102, 111, 111, 116]⟩, ⟨#[116, 104, 101, 97, 100]⟩], (.starts [⟨#[116, 97, 98, 108, 101]⟩] 11)), ([⟨#[99, 111, 108]⟩], (.implies [⟨#[116, 97, 98, 108, 101]⟩] ⟨#[99, 111, 108, 103, 114, 111, 117, 112]⟩ 10)), ([⟨#[99, 111, 108, 103, 114, 111, 117, 112]⟩], (.starts [⟨#[116, 97, 98, 108, 101]⟩] 10)), ([⟨#[99, 97, 112, 116, 105, 111, 110]⟩], (.meth 126))]) (by simp)), (HS25.out.mapAt (b := b2) (R := [([⟨#[98, 111, 100, 121]⟩, ⟨#[99, 97, 112, 116, 105, 111, 110]⟩, ⟨#[99, 111, 108]⟩, ⟨#[99, 111, 108, 103, 114, 111, 117, 112]⟩, ⟨#[104, 116, 109, 108]⟩, ⟨#[116, 98, 111, 100, 121]⟩, ⟨#[116, 100]⟩, ⟨#[116, 102, 111, 111, 116]⟩, ⟨#[116, 104]⟩, ⟨#[116, 104, 101, 97, 100]⟩, ⟨#[116, 114]⟩], .nothing), ([⟨#[116, 97, 98, 108, 101]⟩], (.ends 131))]) (by simp)), rfl, rfl, rfl⟩ _ rfl)
  obtain ⟨q0, q1, q2, q3, q4, q5, q6, q7, q8, q9⟩ := zero_cells HS25.out.g
  have u0 := free_at HS25.out.g 0
  have u1 := free_at HS25.out.g 1
  have u2 := free_at HS25.out.g 2
  have u3 := free_at HS25.out.g 3
  have u4 := free_at HS25.out.g 4
  have u5 := free_at HS25.out.g 5
  have u6 := free_at HS25.out.g 6
  have u7 := free_at HS25.out.g 7
  have u8 := free_at HS25.out.g 8
  have u9 := free_at HS25.out.g 9
  go_wp2
  exact fin_rules Tryz.results76 rfl rfl HF.out
def sp_inColumnGroup : RSpec := { blank := .meth 109, comment := .comment 105 true, doctype := .nothing, textEnd := .asIn 6, start := some [([⟨#[99, 111, 108]⟩], (.meth 110)), ([⟨#[104, 116, 109, 108]⟩], (.asIn 6))], stop := some [([⟨#[99, 111, 108, 103, 114, 111, 117, 112]⟩], (.ends 139)), ([⟨#[99, 111, 108]⟩], .nothing)], others := .ahead 139 }
set_option maxHeartbeats 8000000 in
set_option maxRecDepth 100000 in
theorem r_inColumnGroup (bm bB bD : Nat) (w : World) (hb : BD bB bD w) (ht : Tab w) (hbm : bm < w.heap.size) :
    Calls Tryz.prog 79 #[ptrv bB] w (MakesRules bm bB bD sp_inColumnGroup w) := by
  have hmm := @run_makeMap Tryz.prog
  obtain ⟨W0, hW0, S0⟩ := St.start bm bB bD w ht hbm
  obtain ⟨c187, hBl⟩ := hb
  have HS0 := hide S0
  have HW0 := hide hW0
  clear S0 hW0 ht hbm
  go_enter Tryz.func79, Tryz.ntmps79
  go_wp2_with fail
  rw [← HW0.out]
  refine (ru_comment bm bB bD 105 true _).mono ?_
  rintro e W1 ⟨⟨x1, rfl, hr1⟩, hk1⟩
  obtain ⟨f1, a1, l1, hv1⟩ := hr1.func (by simp)
  subst hv1
  have HS1 := hide (HS0.out.call hk1 hr1)
  clear hr1 hk1
  go_wp2_with fail
  refine (ru_asIn bm bB bD 6 _).mono ?_
  rintro e W2 ⟨⟨x2, rfl, hr2⟩, hk2⟩
  obtain ⟨f2, a2, l2, hv2⟩ := hr2.func (by simp)
  subst hv2
  have HS2 := hide (HS1.out.call hk2 hr2)
  clear hr2 hk2
  obtain ⟨W3, b1, hW3, hb1, S3⟩ := HS2.out.map
  have HS3 := hide S3
  have HW3 := hide hW3
  have HB1 := hide hb1
  clear hW3 hb1 S3
  go_wp2_with fail
  rw [← HW3.out, ← HB1.out]
  refine (ru_asIn bm bB bD 6 _).mono ?_
  rintro e W4 ⟨⟨x4, rfl, hr4⟩, hk4⟩
  obtain ⟨f4, a4, l4, hv4⟩ := hr4.func (by simp)
  subst hv4
  have HS4 := hide (HS3.out.call hk4 hr4)
  clear hr4 hk4
  go_wp2_with fail
  refine (on_map bm bB bD b1 _ [⟨#[104, 116, 109, 108]⟩] (.asIn 6) [] _ _ (by kernel_rfl) (by kernel_rfl) HS4.out.t (HS4.out.hms (b1, []) (by simp)).1 (HS4.out.hms (b1, []) (by simp)).2.2 (HS4.out.at (by simp))).mono ?_
  rintro e W5 ⟨rfl, hm5, hk5, hf5⟩
  have HS5 := hide (HS4.out.on hk5 hf5 hm5)
  clear hm5 hk5 hf5
  go_wp2_with fail
  refine (on_map bm bB bD b1 _ [⟨#[99, 111, 108]⟩] (.meth 110) [([⟨#[104, 116, 109, 108]⟩], (.asIn 6))] _ _ (by kernel_rfl) (by kernel_rfl) HS5.out.t (HS5.out.hms (b1, [([⟨#[104, 116, 109, 108]⟩], (.asIn 6))]) (by simp)).1 (HS5.out.hms (b1, [([⟨#[104, 116, 109, 108]⟩], (.asIn 6))]) (by simp)).2.2 rfl).mono ?_
  rintro e W6 ⟨rfl, hm6, hk6, hf6⟩
  have HS6 := hide (HS5.out.on hk6 hf6 hm6)
  clear hm6 hk6 hf6
  obtain ⟨W7, b2, hW7, hb2, S7⟩ := HS6.out.map
  have HS7 := hide S7
  have HW7 := hide hW7
  have HB2 := hide hb2
  clear hW7 hb2 S7
  go_wp2_with fail
  rw [← HW7.out, ← HB2.out]
  refine (on_map bm bB bD b2 _ [⟨#[99, 111, 108]⟩] .nothing [] _ _ (by kernel_rfl) (by kernel_rfl) HS7.out.t (HS7.out.hms (b2, []) (by simp)).1 (HS7.out.hms (b2, []) (by simp)).2.2 rfl).mono ?_
  rintro e W8 ⟨rfl, hm8, hk8, hf8⟩
  have HS8 := hide (HS7.out.on hk8 hf8 hm8)
  clear hm8 hk8 hf8
  go_wp2_with fail
  refine (ru_ends bm bB bD 139 _).mono ?_
  rintro e W9 ⟨⟨x9, rfl, hr9⟩, hk9⟩
  obtain ⟨f9, a9, l9, hv9⟩ := hr9.func (by simp)
  subst hv9
  have HS9 := hide (HS8.out.call hk9 hr9)
  clear hr9 hk9
  go_wp2_with fail
  refine (on_map bm bB bD b2 _ [⟨#[99, 111, 108, 103, 114, 111, 117, 112]⟩] (.ends 139) [([⟨#[99, 111, 108]⟩], .nothing)] _ _ (by kernel_rfl) (by kernel_rfl) HS9.out.t (HS9.out.hms (b2, [([⟨#[99, 111, 108]⟩], .nothing)]) (by simp)).1 (HS9.out.hms (b2, [([⟨#[99, 111, 108]⟩], .nothing)]) (by simp)).2.2 (HS9.out.at (by simp))).mono ?_
  rintro e W10 ⟨rfl, hm10, hk10, hf10⟩
  have HS10 := hide (HS9.out.on hk10 hf10 hm10)
  clear hm10 hk10 hf10
  go_wp2_with fail
  refine (ru_ahead bm bB bD 139 _).mono ?_
  rintro e W11 ⟨⟨x11, rfl, hr11⟩, hk11⟩
  obtain ⟨f11, a11, l11, hv11⟩ := hr11.func (by simp)
  subst hv11
  have HS11 := hide (HS10.out.call hk11 hr11)
  clear hr11 hk11
  have HF := hide (stored_rules (sp := sp_inColumnGroup) (v0 := .func (.func 109) #[ptrv bB] #[]) (v1 := .nilFunc) (v2 := .func f1 a1 l1) (v3 := .func (.func 97) #[] #[]) (v4 := .func f2 a2 l2) (v5 := .map (some b1)) (v6 := .map (some b2)) (v7 := .nilFunc) (v8 := .nilFunc) (v9 := .func f11 a11 l11) HS11.out.g HS11.out.k ⟨rfl, rfl, (HS11.out.at (r := .comment 105 true) (v := .func f1 a1 l1) (by simp)), rfl, (HS11.out.at (r := .asIn 6) (v := .func f2 a2 l2) (by simp)), (HS11.out.mapAt (b := b1) (R := [([⟨#[99, 111, 108]⟩], (.meth 110)), ([⟨#[104, 116, 109, 108]⟩], (.asIn 6))]) (by simp)), (HS11.out.mapAt (b := b2) (R := [([⟨#[99, 111, 108, 103, 114, 111, 117, 112]⟩], (.ends 139)), ([⟨#[99, 111, 108]⟩], .nothing)]) (by simp)), rfl, rfl, (HS11.out.at (r := .ahead 139) (v := .func f11 a11 l11) (by simp))⟩ _ rfl)
  obtain ⟨q0, q1, q2, q3, q4, q5, q6, q7, q8, q9⟩ := zero_cells HS11.out.g
  have u0 := free_at HS11.out.g 0
  have u1 := free_at HS11.out.g 1
  have u2 := free_at HS11.out.g 2
  have u3 := free_at HS11.out.g 3
  have u4 := free_at HS11.out.g 4
  have u5 := free_at HS11.out.g 5
  have u6 := free_at HS11.out.g 6
  have u7 := free_at HS11.out.g 7
  have u8 := free_at HS11.out.g 8
  have u9 := free_at HS11.out.g 9
  go_wp2
  exact fin_rules Tryz.results79 rfl rfl HF.out
def sp_inTableBody : RSpec := { start := some [([⟨#[99, 97, 112, 116, 105, 111, 110]⟩, ⟨#[99, 111, 108]⟩, ⟨#[99, 111, 108, 103, 114, 111, 117, 112]⟩, ⟨#[116, 98, 111, 100, 121]⟩, ⟨#[116, 102, 111, 111, 116]⟩, ⟨#[116, 104, 101, 97, 100]⟩], (.ahead 141)), ([⟨#[116, 100]⟩, ⟨#[116, 104]⟩], (.implies [⟨#[116, 98, 111, 100, 121]⟩, ⟨#[116, 102, 111, 111, 116]⟩, ⟨#[116, 104, 101, 97, 100]⟩] ⟨#[116, 114]⟩ 12)), ([⟨#[116, 114]⟩], (.starts [⟨#[116, 98, 111, 100, 121]⟩, ⟨#[116, 102, 111, 111, 116]⟩, ⟨#[116, 104, 101, 97, 100]⟩] 12))], stop := some [([⟨#[98, 111, 100, 121]⟩, ⟨#[99, 97, 112, 116, 105, 111, 110]⟩, ⟨#[99, 111, 108]⟩, ⟨#[99, 111, 108, 103, 114, 111, 117, 112]⟩, ⟨#[104, 116, 109, 108]⟩, ⟨#[116, 100]⟩, ⟨#[116, 104]⟩, ⟨#[116, 114]⟩], .nothing), ([⟨#[116, 97, 98, 108, 101]⟩], (.ahead 141)), ([⟨#[116, 98, 111, 100, 121]⟩, ⟨#[116, 102, 111, 111, 116]⟩, ⟨#[116, 104, 101, 97, 100]⟩], (.ifT (.ends 141)))], others := .asIn 7 }
set_option maxHeartbeats 8000000 in
set_option maxRecDepth 100000 in
theorem r_inTableBody (bm bB bD : Nat) (w : World) (hb : BD bB bD w) (ht : Tab w) (hbm : bm < w.heap.size) :
    Calls Tryz.prog 80 #[ptrv bB] w (MakesRules bm bB bD sp_inTableBody w) := by
  have hmm := @run_makeMap Tryz.prog
  obtain ⟨W0, hW0, S0⟩ := St.start bm bB bD w ht hbm
  obtain ⟨c187, hBl⟩ := hb
  have HS0 := hide S0
  have HW0 := hide hW0
  clear S0 hW0 ht hbm
  go_enter Tryz.func80, Tryz.ntmps80
  obtain ⟨W1, b1, hW1, hb1, S1⟩ := HS0.out.map
  have HS1 := hide S1
  have HW1 := hide hW1
  have HB1 := hide hb1
  clear hW1 hb1 S1
  go_wp2_with fail
  rw [← HW0.out]
  rw [← HW1.out, show w.heap.size + 1 = b1 by rw [HB1.out, HW0.out]; simp]
  refine (tableBodies_Ask bm _).mono ?_
  rintro e W2 ⟨⟨x2, rfl, ha2⟩, hk2⟩
  have HS2 := hide (HS1.out.call0 hk2)
  have HA2 := hide ha2
  obtain ⟨f2, a2, l2, hv2⟩ := ha2.func
  subst hv2
  clear ha2 hk2
  go_wp2_with fail
  refine (ru_starts bm bB bD [⟨#[116, 98, 111, 100, 121]⟩, ⟨#[116, 102, 111, 111, 116]⟩, ⟨#[116, 104, 101, 97, 100]⟩] 12 _ _ HA2.out).mono ?_
  rintro e W3 ⟨⟨x3, rfl, hr3⟩, hk3⟩
  obtain ⟨f3, a3, l3, hv3⟩ := hr3.func (by simp)
  subst hv3
  have HS3 := hide (HS2.out.call hk3 hr3)
  clear hr3 hk3
  go_wp2_with fail
  refine (on_map bm bB bD b1 _ [⟨#[116, 114]⟩] (.starts [⟨#[116, 98, 111, 100, 121]⟩, ⟨#[116, 102, 111, 111, 116]⟩, ⟨#[116, 104, 101, 97, 100]⟩] 12) [] _ _ (by kernel_rfl) (by kernel_rfl) HS3.out.t (HS3.out.hms (b1, []) (by simp)).1 (HS3.out.hms (b1, []) (by simp)).2.2 (HS3.out.at (by simp))).mono ?_
  rintro e W4 ⟨rfl, hm4, hk4, hf4⟩
  have HS4 := hide (HS3.out.on hk4 hf4 hm4)
  clear hm4 hk4 hf4
  go_wp2_with fail
  refine (tableBodies_Ask bm _).mono ?_
  rintro e W5 ⟨⟨x5, rfl, ha5⟩, hk5⟩
  have HS5 := hide (HS4.out.call0 hk5)
  have HA5 := hide ha5
  obtain ⟨f5, a5, l5, hv5⟩ := ha5.func
  subst hv5
  clear ha5 hk5
  go_wp2_with fail
  refine (ru_implies bm bB bD [⟨#[116, 98, 111, 100, 121]⟩, ⟨#[116, 102, 111, 111, 116]⟩, ⟨#[116, 104, 101, 97, 100]⟩] ⟨#[116, 114]⟩ 12 _ _ HA5.out).mono ?_
  rintro e W6 ⟨⟨x6, rfl, hr6⟩, hk6⟩
  obtain ⟨f6, a6, l6, hv6⟩ := hr6.func (by simp)
  subst hv6
  have HS6 := hide (HS5.out.call hk6 hr6)
  clear hr6 hk6
  go_wp2_with fail
  refine (on_map bm bB bD b1 _ [⟨#[116, 100]⟩, ⟨#[116, 104]⟩] (.implies [⟨#[116, 98, 111, 100, 121]⟩, ⟨#[116, 102, 111, 111, 116]⟩, ⟨#[116, 104, 101, 97, 100]⟩] ⟨#[116, 114]⟩ 12) [([⟨#[116, 114]⟩], (.starts [⟨#[116, 98, 111, 100, 121]⟩, ⟨#[116, 102, 111, 111, 116]⟩, ⟨#[116, 104, 101, 97, 100]⟩] 12))] _ _ (by kernel_rfl) (by kernel_rfl) HS6.out.t (HS6.out.hms (b1, [([⟨#[116, 114]⟩], (.starts [⟨#[116, 98, 111, 100, 121]⟩, ⟨#[116, 102, 111, 111, 116]⟩, ⟨#[116, 104, 101, 97, 100]⟩] 12))]) (by simp)).1 (HS6.out.hms (b1, [([⟨#[116, 114]⟩], (.starts [⟨#[116, 98, 111, 100, 121]⟩, ⟨#[116, 102, 111, 111, 116]⟩, ⟨#[116, 104, 101, 97, 100]⟩] 12))]) (by simp)).2.2 (HS6.out.at (by simp))).mono ?_
  rintro e W7 ⟨rfl, hm7, hk7, hf7⟩
  have HS7 := hide (HS6.out.on hk7 hf7 hm7)
  clear hm7 hk7 hf7
  go_wp2_with fail
  refine (ru_ahead bm bB bD 141 _).mono ?_
  rintro e W8 ⟨⟨x8, rfl, hr8⟩, hk8⟩
  obtain ⟨f8, a8, l8, hv8⟩ := hr8.func (by simp)
  subst hv8
  have HS8 := hide (HS7.out.call hk8 hr8)
  clear hr8 hk8
  go_wp2_with fail
  refine (on_map bm bB bD b1 _ [⟨#[99, 97, 112, 116, 105, 111, 110]⟩, ⟨#[99, 111, 108]⟩, ⟨#[99, 111, 108, 103, 114, 111, 117, 112]⟩, ⟨#[116, 98, 111, 100, 121]⟩, ⟨#[116, 102, 111, 111, 116]⟩, ⟨#[116, 104, 101, 97, 100]⟩] (.ahead 141) [([⟨#[116, 100]⟩, ⟨#[116, 104]⟩], (.implies [⟨#[116, 98, 111, 100, 121]⟩, ⟨#[116, 102, 111, 111, 116]⟩, ⟨#[116, 104, 101, 97, 100]⟩] ⟨#[116, 114]⟩ 12)), ([⟨#[116, 114]⟩], (.starts [⟨#[116, 98, 111, 100, 121]⟩, ⟨#[116, 102, 111, 111, 116]⟩, ⟨#[116, 104, 101, 97, 100]⟩] 12))] _ _ (by kernel_rfl) (by kernel_rfl) HS8.out.t (HS8.out.hms (b1, [([⟨#[116, 100]⟩, ⟨#[116, 104]⟩], (.implies [⟨#[116, 98, 111, 100, 121]⟩, ⟨#[116, 102, 111, 111, 116]⟩, ⟨#[116, 104, 101, 97, 100]⟩] ⟨#[116, 114]⟩ 12)), ([⟨#[116, 114]⟩], (.starts [⟨#[116, 98, 111, 100, 121]⟩, ⟨#[116, 102, 111, 111, 116]⟩, ⟨#[116, 104, 101, 97, 100]⟩] 12))]) (by simp)).1 (HS8.out.hms (b1, [([⟨#[116, 100]⟩, ⟨#[116, 104]⟩], (.implies [⟨#[116, 98, 111, 100, 121]⟩, ⟨#[116, 102, 111, 111, 116]⟩, ⟨#[116, 104, 101, 97, 100]⟩] ⟨#[116, 114]⟩ 12)), ([⟨#[116, 114]⟩], (.starts [⟨#[116, 98, 111, 100, 121]⟩, ⟨#[116, 102, 111, 111, 116]⟩, ⟨#[116, 104, 101, 97, 100]⟩] 12))]) (by simp)).2.2 (HS8.out.at (by simp))).mono ?_
  rintro e W9 ⟨rfl, hm9, hk9, hf9⟩
  have HS9 := hide (HS8.out.on hk9 hf9 hm9)
  clear hm9 hk9 hf9
  obtain ⟨W10, b2, hW10, hb2, S10⟩ := HS9.out.map
  have HS10 := hide S10
  have HW10 := hide hW10
  have HB2 := hide hb2
  clear hW10 hb2 S10
  go_wp2_with fail
  rw [← HW10.out, ← HB2.out]
  refine (ru_ends bm bB bD 141 _).mono ?_
  rintro e W11 ⟨⟨x11, rfl, hr11⟩, hk11⟩
  obtain ⟨f11, a11, l11, hv11⟩ := hr11.func (by simp)
  subst hv11
  have HS11 := hide (HS10.out.call hk11 hr11)
  clear hr11 hk11
  go_wp2_with fail
  refine (ru_ifT bm bB bD (.ends 141) _ _ (by simp) (HS11.out.at (by simp))).mono ?_
  rintro e W12 ⟨⟨x12, rfl, hr12⟩, hk12⟩
  obtain ⟨f12, a12, l12, hv12⟩ := hr12.func (by simp)
  subst hv12
  have HS12 := hide (HS11.out.call hk12 hr12)
  clear hr12 hk12
  go_wp2_with fail
  refine (on_map bm bB bD b2 _ [⟨#[116, 98, 111, 100, 121]⟩, ⟨#[116, 102, 111, 111, 116]⟩, ⟨#[116, 104, 101, 97, 100]⟩] (.ifT (.ends 141)) [] _ _ (by kernel_rfl) (by kernel_rfl) HS12.out.t (HS12.out.hms (b2, []) (by simp)).1 (HS12.out.hms (b2, []) (by simp)).2.2 (HS12.out.at (by simp))).mono ?_
  rintro e W13 ⟨rfl, hm13, hk13, hf13⟩
  have HS13 := hide (HS12.out.on hk13 hf13 hm13)
  clear hm13 hk13 hf13
  go_wp2_with fail
  refine (ru_ahead bm bB bD 141 _).mono ?_
  rintro e W14 ⟨⟨x14, rfl, hr14⟩, hk14⟩
  obtain ⟨f14, a14, l14, hv14⟩ := hr14.func (by simp)
  subst hv14
  have HS14 := hide (HS13.out.call hk14 hr14)
  clear hr14 hk14
  go_wp2_with fail
  refine (on_map bm bB bD b2 _ [⟨#[116, 97, 98, 108, 101]⟩] (.ahead 141) [([⟨#[116, 98, 111, 100, 121]⟩, ⟨#[116, 102, 111, 111, 116]⟩, ⟨#[116, 104, 101, 97, 100]⟩], (.ifT (.ends 141)))] _ _ (by kernel_rfl) (by kernel_rfl) HS14.out.t (HS14.out.hms (b2, [([⟨#[116, 98, 111, 100, 121]⟩, ⟨#[116, 102, 111, 111, 116]⟩, ⟨#[116, 104, 101, 97, 100]⟩], (.ifT (.ends 141)))]) (by simp)).1 (HS14.out.hms (b2, [([⟨#[116, 98, 111, 100, 121]⟩, ⟨#[116, 102, 111, 111, 116]⟩, ⟨#[116, 104, 101, 97, 100]⟩], (.ifT (.ends 141)))]) (by simp)).2.2 (HS14.out.at (by simp))).mono ?_
  rintro e W15 ⟨rfl, hm15, hk15, hf15⟩
  have HS15 := hide (HS14.out.on hk15 hf15 hm15)
  clear hm15 hk15 hf15
  go_wp2_with fail
  refine (on_map bm bB bD b2 _ [⟨#[98, 111, 100, 121]⟩, ⟨#[99, 97, 112, 116, 105, 111, 110]⟩, ⟨#[99, 111, 108]⟩, ⟨#[99, 111, 108, 103, 114, 111, 117, 112]⟩, ⟨#[104, 116, 109, 108]⟩, ⟨#[116, 100]⟩, ⟨#[116, 104]⟩, ⟨#[116, 114]⟩] .nothing [([⟨#[116, 97, 98, 108, 101]⟩], (.ahead 141)), ([⟨#[116, 98, 111, 100, 121]⟩, ⟨#[116, 102, 111, 111, 116]⟩, ⟨#[116, 104, 101, 97, 100]⟩], (.ifT (.ends 141)))] _ _ (by kernel_rfl) (by kernel_rfl) HS15.out.t (HS15.out.hms (b2, [([⟨#[116, 97, 98, 108, 101]⟩], (.ahead 141)), ([⟨#[116, 98, 111, 100, 121]⟩, ⟨#[116, 102, 111, 111, 116]⟩, ⟨#[116, 104, 101, 97, 100]⟩], (.ifT (.ends 141)))]) (by simp)).1 (HS15.out.hms (b2, [([⟨#[116, 97, 98, 108, 101]⟩], (.ahead 141)), ([⟨#[116, 98, 111, 100, 121]⟩, ⟨#[116, 102, 111, 111, 116]⟩, ⟨#[116, 104, 101, 97, 100]⟩], (.ifT (.ends 141)))]) (by simp)).2.2 rfl).mono ?_
  rintro e W16 ⟨rfl, hm16, hk16, hf16⟩
  have HS16 := hide (HS15.out.on hk16 hf16 hm16)
  clear hm16 hk16 hf16
  go_wp2_with fail
  refine (ru_asIn bm bB bD 7 _).mono ?_
  rintro e W17 ⟨⟨x17, rfl, hr17⟩, hk17⟩
  obtain ⟨f17, a17, l17, hv17⟩ := hr17.func (by simp)
  subst hv17
  have HS17 := hide (HS16.out.call hk17 hr17)
  clear hr17 hk17
  have HF := hide (stored_rules (sp := sp_inTableBody) (v0 := .nilFunc) (v1 := .nilFunc) (v2 := .nilFunc) (v3 := .nilFunc) (v4 := .nilFunc) (v5 := .map (some b1)) (v6 := .map (some b2)) (v7 := .nilFunc) (v8 := .nilFunc) (v9 := .func f17 a17 l17) HS17.out.g HS17.out.k ⟨rfl, rfl, rfl, rfl, rfl, (HS17.out.mapAt (b := b1) (R := [([⟨#[99, 97, 112, 116, 105, 111, 110]⟩, ⟨#[99, 111, 108]⟩, ⟨#[99, 111, 108, 103, 114, 111, 117, 112]⟩, ⟨#[116, 98, 111, 100, 121]⟩, ⟨#[116, 102, 111, 111, 116]⟩, ⟨#[116, 104, 101, 97, 100]⟩], (.ahead 141)), ([⟨#[116, 100]⟩, ⟨#[116, 104]⟩], (.implies [⟨#[116, 98, 111, 100, 121]⟩, ⟨#[116, 102, 111, 111, 116]⟩, ⟨#[116, 104, 101, 97, 100]⟩] ⟨#[116, 114]⟩ 12)), ([⟨#[116, 114]⟩], (.starts [⟨#[116, 98, 111, 100, 121]⟩, ⟨#[116, 102, 111, 111, 116]⟩, ⟨#[116, 104, 101, 97, 100]⟩] 12))]) (by simp)), (HS17.out.mapAt (b := b2) (R := [([⟨#[98, 111, 100, 121]⟩, ⟨#[99, 97, 112, 116, 105, 111, 110]⟩, ⟨#[99, 111, 108]⟩, ⟨#[99, 111, 108, 103, 114, 111, 117, 112]⟩, ⟨#[104, 116, 109, 108]⟩, ⟨#[116, 100]⟩, ⟨#[116, 104]⟩, ⟨#[116, 114]⟩], .nothing), ([⟨#[116, 97, 98, 108, 101]⟩], (.ahead 141)), ([⟨#[116, 98, 111, 100, 121]⟩, ⟨#[116, 102, 111, 111, 116]⟩, ⟨#[116, 104, 101, 97, 100]⟩], (.ifT (.ends 141)))]) (by simp)), rfl, rfl, (HS17.out.at (r := .asIn 7) (v := .func f17 a17 l17) (by simp))⟩ _ rfl)
  obtain ⟨q0, q1, q2, q3, q4, q5, q6, q7, q8, q9⟩ := zero_cells HS17.out.g
  have u0 := free_at HS17.out.g 0
  have u1 := free_at HS17.out.g 1
  have u2 := free_at HS17.out.g 2
  have u3 := free_at HS17.out.g 3
  have u4 := free_at HS17.out.g 4
  have u5 := free_at HS17.out.g 5
  have u6 := free_at HS17.out.g 6
  have u7 := free_at HS17.out.g 7
  have u8 := free_at HS17.out.g 8
  have u9 := free_at HS17.out.g 9
  go_wp2
  exact fin_rules Tryz.results80 rfl rfl HF.out
end Go.Proofs.YtlhhgenpcjjajaaGreatDoor
