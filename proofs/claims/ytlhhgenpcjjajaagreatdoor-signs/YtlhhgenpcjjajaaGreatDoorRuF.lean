import Derived.Test.YtlhhgenpcjjajaaGreatDoorBuA
set_option linter.unusedSimpArgs false
set_option linter.unusedVariables false
namespace Go.Proofs.YtlhhgenpcjjajaaGreatDoor
open Go.RowKit
def sp_inHead : RSpec := { blank := .meth 109, comment := .comment 105 true, doctype := .nothing, start := some [([⟨#[115, 116, 121, 108, 101]⟩], (.meth 112)), ([⟨#[116, 105, 116, 108, 101]⟩], (.meth 111)), ([⟨#[109, 101, 116, 97]⟩], (.meth 110)), ([⟨#[104, 116, 109, 108]⟩], (.asIn 6)), ([⟨#[104, 101, 97, 100]⟩], .nothing)], stop := some [([⟨#[98, 111, 100, 121]⟩, ⟨#[104, 116, 109, 108]⟩, ⟨#[98, 114]⟩], (.meth 114)), ([⟨#[104, 101, 97, 100]⟩], (.meth 113))], otherEnd := .nothing, others := .meth 114 }
set_option maxHeartbeats 8000000 in
set_option maxRecDepth 100000 in
theorem r_inHead (bm bB bD : Nat) (w : World) (hb : BD bB bD w) (ht : Tab w) (hbm : bm < w.heap.size) :
    Calls Tryz.prog 72 #[ptrv bB] w (MakesRules bm bB bD sp_inHead w) := by
  have hmm := @run_makeMap Tryz.prog
  obtain ⟨W0, hW0, S0⟩ := St.start bm bB bD w ht hbm
  obtain ⟨c187, hBl⟩ := hb
  have HS0 := hide S0
  have HW0 := hide hW0
  clear S0 hW0 ht hbm
  go_enter Tryz.func72, Tryz.ntmps72
  go_wp2_with fail
  rw [← HW0.out]
  refine (ru_comment bm bB bD 105 true _).mono ?_
  rintro e W1 ⟨⟨x1, rfl, hr1⟩, hk1⟩
  obtain ⟨f1, a1, l1, hv1⟩ := hr1.func (by simp)
  subst hv1
  have HS1 := hide (HS0.out.call hk1 hr1)
  clear hr1 hk1
  obtain ⟨W2, b1, hW2, hb1, S2⟩ := HS1.out.map
  have HS2 := hide S2
  have HW2 := hide hW2
  have HB1 := hide hb1
  clear hW2 hb1 S2
  go_wp2_with fail
  rw [← HW2.out, ← HB1.out]
  refine (on_map bm bB bD b1 _ [⟨#[104, 101, 97, 100]⟩] .nothing [] _ _ (by kernel_rfl) (by kernel_rfl) HS2.out.t (HS2.out.hms (b1, []) (by simp)).1 (HS2.out.hms (b1, []) (by simp)).2.2 rfl).mono ?_
  rintro e W3 ⟨rfl, hm3, hk3, hf3⟩
  have HS3 := hide (HS2.out.on hk3 hf3 hm3)
  clear hm3 hk3 hf3
  go_wp2_with fail
  refine (ru_asIn bm bB bD 6 _).mono ?_
  rintro e W4 ⟨⟨x4, rfl, hr4⟩, hk4⟩
  obtain ⟨f4, a4, l4, hv4⟩ := hr4.func (by simp)
  subst hv4
  have HS4 := hide (HS3.out.call hk4 hr4)
  clear hr4 hk4
  go_wp2_with fail
  refine (on_map bm bB bD b1 _ [⟨#[104, 116, 109, 108]⟩] (.asIn 6) [([⟨#[104, 101, 97, 100]⟩], .nothing)] _ _ (by kernel_rfl) (by kernel_rfl) HS4.out.t (HS4.out.hms (b1, [([⟨#[104, 101, 97, 100]⟩], .nothing)]) (by simp)).1 (HS4.out.hms (b1, [([⟨#[104, 101, 97, 100]⟩], .nothing)]) (by simp)).2.2 (HS4.out.at (by simp))).mono ?_
  rintro e W5 ⟨rfl, hm5, hk5, hf5⟩
  have HS5 := hide (HS4.out.on hk5 hf5 hm5)
  clear hm5 hk5 hf5
  go_wp2_with fail
  refine (on_map bm bB bD b1 _ [⟨#[109, 101, 116, 97]⟩] (.meth 110) [([⟨#[104, 116, 109, 108]⟩], (.asIn 6)), ([⟨#[104, 101, 97, 100]⟩], .nothing)] _ _ (by kernel_rfl) (by kernel_rfl) HS5.out.t (HS5.out.hms (b1, [([⟨#[104, 116, 109, 108]⟩], (.asIn 6)), ([⟨#[104, 101, 97, 100]⟩], .nothing)]) (by simp)).1 (HS5.out.hms (b1, [([⟨#[104, 116, 109, 108]⟩], (.asIn 6)), ([⟨#[104, 101, 97, 100]⟩], .nothing)]) (by simp)).2.2 rfl).mono ?_
  rintro e W6 ⟨rfl, hm6, hk6, hf6⟩
  have HS6 := hide (HS5.out.on hk6 hf6 hm6)
  clear hm6 hk6 hf6
  go_wp2_with fail
  refine (on_map bm bB bD b1 _ [⟨#[116, 105, 116, 108, 101]⟩] (.meth 111) [([⟨#[109, 101, 116, 97]⟩], (.meth 110)), ([⟨#[104, 116, 109, 108]⟩], (.asIn 6)), ([⟨#[104, 101, 97, 100]⟩], .nothing)] _ _ (by kernel_rfl) (by kernel_rfl) HS6.out.t (HS6.out.hms (b1, [([⟨#[109, 101, 116, 97]⟩], (.meth 110)), ([⟨#[104, 116, 109, 108]⟩], (.asIn 6)), ([⟨#[104, 101, 97, 100]⟩], .nothing)]) (by simp)).1 (HS6.out.hms (b1, [([⟨#[109, 101, 116, 97]⟩], (.meth 110)), ([⟨#[104, 116, 109, 108]⟩], (.asIn 6)), ([⟨#[104, 101, 97, 100]⟩], .nothing)]) (by simp)).2.2 rfl).mono ?_
  rintro e W7 ⟨rfl, hm7, hk7, hf7⟩
  have HS7 := hide (HS6.out.on hk7 hf7 hm7)
  clear hm7 hk7 hf7
  go_wp2_with fail
  refine (on_map bm bB bD b1 _ [⟨#[115, 116, 121, 108, 101]⟩] (.meth 112) [([⟨#[116, 105, 116, 108, 101]⟩], (.meth 111)), ([⟨#[109, 101, 116, 97]⟩], (.meth 110)), ([⟨#[104, 116, 109, 108]⟩], (.asIn 6)), ([⟨#[104, 101, 97, 100]⟩], .nothing)] _ _ (by kernel_rfl) (by kernel_rfl) HS7.out.t (HS7.out.hms (b1, [([⟨#[116, 105, 116, 108, 101]⟩], (.meth 111)), ([⟨#[109, 101, 116, 97]⟩], (.meth 110)), ([⟨#[104, 116, 109, 108]⟩], (.asIn 6)), ([⟨#[104, 101, 97, 100]⟩], .nothing)]) (by simp)).1 (HS7.out.hms (b1, [([⟨#[116, 105, 116, 108, 101]⟩], (.meth 111)), ([⟨#[109, 101, 116, 97]⟩], (.meth 110)), ([⟨#[104, 116, 109, 108]⟩], (.asIn 6)), ([⟨#[104, 101, 97, 100]⟩], .nothing)]) (by simp)).2.2 rfl).mono ?_
  rintro e W8 ⟨rfl, hm8, hk8, hf8⟩
  have HS8 := hide (HS7.out.on hk8 hf8 hm8)
  clear hm8 hk8 hf8
  obtain ⟨W9, b2, hW9, hb2, S9⟩ := HS8.out.map
  have HS9 := hide S9
  have HW9 := hide hW9
  have HB2 := hide hb2
  clear hW9 hb2 S9
  go_wp2_with fail
  rw [← HW9.out, ← HB2.out]
  refine (on_map bm bB bD b2 _ [⟨#[104, 101, 97, 100]⟩] (.meth 113) [] _ _ (by kernel_rfl) (by kernel_rfl) HS9.out.t (HS9.out.hms (b2, []) (by simp)).1 (HS9.out.hms (b2, []) (by simp)).2.2 rfl).mono ?_
  rintro e W10 ⟨rfl, hm10, hk10, hf10⟩
  have HS10 := hide (HS9.out.on hk10 hf10 hm10)
  clear hm10 hk10 hf10
  go_wp2_with fail
  refine (on_map bm bB bD b2 _ [⟨#[98, 111, 100, 121]⟩, ⟨#[104, 116, 109, 108]⟩, ⟨#[98, 114]⟩] (.meth 114) [([⟨#[104, 101, 97, 100]⟩], (.meth 113))] _ _ (by kernel_rfl) (by kernel_rfl) HS10.out.t (HS10.out.hms (b2, [([⟨#[104, 101, 97, 100]⟩], (.meth 113))]) (by simp)).1 (HS10.out.hms (b2, [([⟨#[104, 101, 97, 100]⟩], (.meth 113))]) (by simp)).2.2 rfl).mono ?_
  rintro e W11 ⟨rfl, hm11, hk11, hf11⟩
  have HS11 := hide (HS10.out.on hk11 hf11 hm11)
  clear hm11 hk11 hf11
  have HF := hide (stored_rules (sp := sp_inHead) (v0 := .func (.func 109) #[ptrv bB] #[]) (v1 := .nilFunc) (v2 := .func f1 a1 l1) (v3 := .func (.func 97) #[] #[]) (v4 := .nilFunc) (v5 := .map (some b1)) (v6 := .map (some b2)) (v7 := .nilFunc) (v8 := .func (.func 97) #[] #[]) (v9 := .func (.func 114) #[ptrv bB] #[]) HS11.out.g HS11.out.k ⟨rfl, rfl, (HS11.out.at (r := .comment 105 true) (v := .func f1 a1 l1) (by simp)), rfl, rfl, (HS11.out.mapAt (b := b1) (R := [([⟨#[115, 116, 121, 108, 101]⟩], (.meth 112)), ([⟨#[116, 105, 116, 108, 101]⟩], (.meth 111)), ([⟨#[109, 101, 116, 97]⟩], (.meth 110)), ([⟨#[104, 116, 109, 108]⟩], (.asIn 6)), ([⟨#[104, 101, 97, 100]⟩], .nothing)]) (by simp)), (HS11.out.mapAt (b := b2) (R := [([⟨#[98, 111, 100, 121]⟩, ⟨#[104, 116, 109, 108]⟩, ⟨#[98, 114]⟩], (.meth 114)), ([⟨#[104, 101, 97, 100]⟩], (.meth 113))]) (by simp)), rfl, rfl, rfl⟩ _ rfl)
  obtain ⟨q0, q1, q2, q3, q4, q5, q6, q7, q8, q9⟩ := zero_cells HS11.out.g
  have u0 := free_at HS11.out.g 0
  have u1 := free_at HS11.out.g 1
  have u2 := free_at HS11.out.g 2
  have u3 := free_at HS11.out.g 3
  have u4 := free_at HS11.out.g 4
  have u5 := free_at HS11.out.g 5
  have u6 := free_at HS11.out.g 6
  have u7 := free_at HS11.out.g 7
  have u8 := free_at HS11.out.g 8
  have u9 := free_at HS11.out.g 9
  go_wp2
  exact fin_rules Tryz.results72 rfl rfl HF.out
def sp_afterHead : RSpec := { blank := .meth 109, comment := .comment 105 true, doctype := .nothing, start := some [([⟨#[109, 101, 116, 97]⟩, ⟨#[116, 105, 116, 108, 101]⟩, ⟨#[115, 116, 121, 108, 101]⟩], (.meth 116)), ([⟨#[98, 111, 100, 121]⟩], (.meth 115)), ([⟨#[104, 116, 109, 108]⟩], (.asIn 6)), ([⟨#[104, 101, 97, 100]⟩], .nothing)], stop := some [([⟨#[98, 111, 100, 121]⟩, ⟨#[104, 116, 109, 108]⟩, ⟨#[98, 114]⟩], (.meth 117))], otherEnd := .nothing, others := .meth 117 }
set_option maxHeartbeats 8000000 in
set_option maxRecDepth 100000 in
theorem r_afterHead (bm bB bD : Nat) (w : World) (hb : BD bB bD w) (ht : Tab w) (hbm : bm < w.heap.size) :
    Calls Tryz.prog 73 #[ptrv bB] w (MakesRules bm bB bD sp_afterHead w) := by
  have hmm := @run_makeMap Tryz.prog
  obtain ⟨W0, hW0, S0⟩ := St.start bm bB bD w ht hbm
  obtain ⟨c187, hBl⟩ := hb
  have HS0 := hide S0
  have HW0 := hide hW0
  clear S0 hW0 ht hbm
  go_enter Tryz.func73, Tryz.ntmps73
  go_wp2_with fail
  rw [← HW0.out]
  refine (ru_comment bm bB bD 105 true _).mono ?_
  rintro e W1 ⟨⟨x1, rfl, hr1⟩, hk1⟩
  obtain ⟨f1, a1, l1, hv1⟩ := hr1.func (by simp)
  subst hv1
  have HS1 := hide (HS0.out.call hk1 hr1)
  clear hr1 hk1
  obtain ⟨W2, b1, hW2, hb1, S2⟩ := HS1.out.map
  have HS2 := hide S2
  have HW2 := hide hW2
  have HB1 := hide hb1
  clear hW2 hb1 S2
  go_wp2_with fail
  rw [← HW2.out, ← HB1.out]
  refine (on_map bm bB bD b1 _ [⟨#[104, 101, 97, 100]⟩] .nothing [] _ _ (by kernel_rfl) (by kernel_rfl) HS2.out.t (HS2.out.hms (b1, []) (by simp)).1 (HS2.out.hms (b1, []) (by simp)).2.2 rfl).mono ?_
  rintro e W3 ⟨rfl, hm3, hk3, hf3⟩
  have HS3 := hide (HS2.out.on hk3 hf3 hm3)
  clear hm3 hk3 hf3
  go_wp2_with fail
  refine (ru_asIn bm bB bD 6 _).mono ?_
  rintro e W4 ⟨⟨x4, rfl, hr4⟩, hk4⟩
  obtain ⟨f4, a4, l4, hv4⟩ := hr4.func (by simp)
  subst hv4
  have HS4 := hide (HS3.out.call hk4 hr4)
  clear hr4 hk4
  go_wp2_with fail
  refine (on_map bm bB bD b1 _ [⟨#[104, 116, 109, 108]⟩] (.asIn 6) [([⟨#[104, 101, 97, 100]⟩], .nothing)] _ _ (by kernel_rfl) (by kernel_rfl) HS4.out.t (HS4.out.hms (b1, [([⟨#[104, 101, 97, 100]⟩], .nothing)]) (by simp)).1 (HS4.out.hms (b1, [([⟨#[104, 101, 97, 100]⟩], .nothing)]) (by simp)).2.2 (HS4.out.at (by simp))).mono ?_
  rintro e W5 ⟨rfl, hm5, hk5, hf5⟩
  have HS5 := hide (HS4.out.on hk5 hf5 hm5)
  clear hm5 hk5 hf5
  go_wp2_with fail
  refine (on_map bm bB bD b1 _ [⟨#[98, 111, 100, 121]⟩] (.meth 115) [([⟨#[104, 116, 109, 108]⟩], (.asIn 6)), ([⟨#[104, 101, 97, 100]⟩], .nothing)] _ _ (by kernel_rfl) (by kernel_rfl) HS5.out.t (HS5.out.hms (b1, [([⟨#[104, 116, 109, 108]⟩], (.asIn 6)), ([⟨#[104, 101, 97, 100]⟩], .nothing)]) (by simp)).1 (HS5.out.hms (b1, [([⟨#[104, 116, 109, 108]⟩], (.asIn 6)), ([⟨#[104, 101, 97, 100]⟩], .nothing)]) (by simp)).2.2 rfl).mono ?_
  rintro e W6 ⟨rfl, hm6, hk6, hf6⟩
  have HS6 := hide (HS5.out.on hk6 hf6 hm6)
  clear hm6 hk6 hf6
  go_wp2_with fail
  refine (on_map bm bB bD b1 _ [⟨#[109, 101, 116, 97]⟩, ⟨#[116, 105, 116, 108, 101]⟩, ⟨#[115, 116, 121, 108, 101]⟩] (.meth 116) [([⟨#[98, 111, 100, 121]⟩], (.meth 115)), ([⟨#[104, 116, 109, 108]⟩], (.asIn 6)), ([⟨#[104, 101, 97, 100]⟩], .nothing)] _ _ (by kernel_rfl) (by kernel_rfl) HS6.out.t (HS6.out.hms (b1, [([⟨#[98, 111, 100, 121]⟩], (.meth 115)), ([⟨#[104, 116, 109, 108]⟩], (.asIn 6)), ([⟨#[104, 101, 97, 100]⟩], .nothing)]) (by simp)).1 (HS6.out.hms (b1, [([⟨#[98, 111, 100, 121]⟩], (.meth 115)), ([⟨#[104, 116, 109, 108]⟩], (.asIn 6)), ([⟨#[104, 101, 97, 100]⟩], .nothing)]) (by simp)).2.2 rfl).mono ?_
  rintro e W7 ⟨rfl, hm7, hk7, hf7⟩
  have HS7 := hide (HS6.out.on hk7 hf7 hm7)
  clear hm7 hk7 hf7
  obtain ⟨W8, b2, hW8, hb2, S8⟩ := HS7.out.map
  have HS8 := hide S8
  have HW8 := hide hW8
  have HB2 := hide hb2
  clear hW8 hb2 S8
  go_wp2_with fail
  rw [← HW8.out, ← HB2.out]
  refine (on_map bm bB bD b2 _ [⟨#[98, 111, 100, 121]⟩, ⟨#[104, 116, 109, 108]⟩, ⟨#[98, 114]⟩] (.meth 117) [] _ _ (by kernel_rfl) (by kernel_rfl) HS8.out.t (HS8.out.hms (b2, []) (by simp)).1 (HS8.out.hms (b2, []) (by simp)).2.2 rfl).mono ?_
  rintro e W9 ⟨rfl, hm9, hk9, hf9⟩
  have HS9 := hide (HS8.out.on hk9 hf9 hm9)
  clear hm9 hk9 hf9
  have HF := hide (stored_rules (sp := sp_afterHead) (v0 := .func (.func 109) #[ptrv bB] #[]) (v1 := .nilFunc) (v2 := .func f1 a1 l1) (v3 := .func (.func 97) #[] #[]) (v4 := .nilFunc) (v5 := .map (some b1)) (v6 := .map (some b2)) (v7 := .nilFunc) (v8 := .func (.func 97) #[] #[]) (v9 := .func (.func 117) #[ptrv bB] #[]) HS9.out.g HS9.out.k ⟨rfl, rfl, (HS9.out.at (r := .comment 105 true) (v := .func f1 a1 l1) (by simp)), rfl, rfl, (HS9.out.mapAt (b := b1) (R := [([⟨#[109, 101, 116, 97]⟩, ⟨#[116, 105, 116, 108, 101]⟩, ⟨#[115, 116, 121, 108, 101]⟩], (.meth 116)), ([⟨#[98, 111, 100, 121]⟩], (.meth 115)), ([⟨#[104, 116, 109, 108]⟩], (.asIn 6)), ([⟨#[104, 101, 97, 100]⟩], .nothing)]) (by simp)), (HS9.out.mapAt (b := b2) (R := [([⟨#[98, 111, 100, 121]⟩, ⟨#[104, 116, 109, 108]⟩, ⟨#[98, 114]⟩], (.meth 117))]) (by simp)), rfl, rfl, rfl⟩ _ rfl)
  obtain ⟨q0, q1, q2, q3, q4, q5, q6, q7, q8, q9⟩ := zero_cells HS9.out.g
  have u0 := free_at HS9.out.g 0
  have u1 := free_at HS9.out.g 1
  have u2 := free_at HS9.out.g 2
  have u3 := free_at HS9.out.g 3
  have u4 := free_at HS9.out.g 4
  have u5 := free_at HS9.out.g 5
  have u6 := free_at HS9.out.g 6
  have u7 := free_at HS9.out.g 7
  have u8 := free_at HS9.out.g 8
  have u9 := free_at HS9.out.g 9
  go_wp2
  exact fin_rules Tryz.results73 rfl rfl HF.out
def sp_inText : RSpec := { char := .meth 109, textEnd := .meth 118, others := .meth 119 }
set_option maxHeartbeats 8000000 in
set_option maxRecDepth 100000 in
theorem r_inText (bm bB bD : Nat) (w : World) (hb : BD bB bD w) (ht : Tab w) (hbm : bm < w.heap.size) :
    Calls Tryz.prog 74 #[ptrv bB] w (MakesRules bm bB bD sp_inText w) := by
  have hmm := @run_makeMap Tryz.prog
  obtain ⟨W0, hW0, S0⟩ := St.start bm bB bD w ht hbm
  obtain ⟨c187, hBl⟩ := hb
  have HS0 := hide S0
  have HW0 := hide hW0
  clear S0 hW0 ht hbm
  go_enter Tryz.func74, Tryz.ntmps74
  go_wp2
  exact fin_rules Tryz.results74 rfl rfl ⟨heap_alloc_at w _, ⟨rfl, rfl, rfl, rfl, rfl, rfl, rfl, rfl, rfl, rfl⟩, (Kept.refl _ _).alloc _⟩
def sp_inTableText : RSpec := { char := .meth 136, others := .meth 137 }
set_option maxHeartbeats 8000000 in
set_option maxRecDepth 100000 in
theorem r_inTableText (bm bB bD : Nat) (w : World) (hb : BD bB bD w) (ht : Tab w) (hbm : bm < w.heap.size) :
    Calls Tryz.prog 77 #[ptrv bB] w (MakesRules bm bB bD sp_inTableText w) := by
  have hmm := @run_makeMap Tryz.prog
  obtain ⟨W0, hW0, S0⟩ := St.start bm bB bD w ht hbm
  obtain ⟨c187, hBl⟩ := hb
  have HS0 := hide S0
  have HW0 := hide hW0
  clear S0 hW0 ht hbm
  go_enter Tryz.func77, Tryz.ntmps77
  go_wp2
  exact fin_rules Tryz.results77 rfl rfl ⟨heap_alloc_at w _, ⟨rfl, rfl, rfl, rfl, rfl, rfl, rfl, rfl, rfl, rfl⟩, (Kept.refl _ _).alloc _⟩
def sp_inCaption : RSpec := { start := some [([⟨#[99, 97, 112, 116, 105, 111, 110]⟩, ⟨#[99, 111, 108]⟩, ⟨#[99, 111, 108, 103, 114, 111, 117, 112]⟩, ⟨#[116, 98, 111, 100, 121]⟩, ⟨#[116, 100]⟩, ⟨#[116, 102, 111, 111, 116]⟩, ⟨#[116, 104]⟩, ⟨#[116, 104, 101, 97, 100]⟩, ⟨#[116, 114]⟩], (.ahead 138))], stop := some [([⟨#[98, 111, 100, 121]⟩, ⟨#[99, 111, 108]⟩, ⟨#[99, 111, 108, 103, 114, 111, 117, 112]⟩, ⟨#[104, 116, 109, 108]⟩, ⟨#[116, 98, 111, 100, 121]⟩, ⟨#[116, 100]⟩, ⟨#[116, 102, 111, 111, 116]⟩, ⟨#[116, 104]⟩, ⟨#[116, 104, 101, 97, 100]⟩, ⟨#[116, 114]⟩], .nothing), ([⟨#[116, 97, 98, 108, 101]⟩], (.ahead 138)), ([⟨#[99, 97, 112, 116, 105, 111, 110]⟩], (.ends 138))], others := .asIn 6 }
set_option maxHeartbeats 8000000 in
set_option maxRecDepth 100000 in
theorem r_inCaption (bm bB bD : Nat) (w : World) (hb : BD bB bD w) (ht : Tab w) (hbm : bm < w.heap.size) :
    Calls Tryz.prog 78 #[ptrv bB] w (MakesRules bm bB bD sp_inCaption w) := by
  have hmm := @run_makeMap Tryz.prog
  obtain ⟨W0, hW0, S0⟩ := St.start bm bB bD w ht hbm
  obtain ⟨c187, hBl⟩ := hb
  have HS0 := hide S0
  have HW0 := hide hW0
  clear S0 hW0 ht hbm
  go_enter Tryz.func78, Tryz.ntmps78
  obtain ⟨W1, b1, hW1, hb1, S1⟩ := HS0.out.map
  have HS1 := hide S1
  have HW1 := hide hW1
  have HB1 := hide hb1
  clear hW1 hb1 S1
  go_wp2_with fail
  rw [← HW0.out]
  rw [← HW1.out, show w.heap.size + 1 = b1 by rw [HB1.out, HW0.out]; simp]
  refine (ru_ahead bm bB bD 138 _).mono ?_
  rintro e W2 ⟨⟨x2, rfl, hr2⟩, hk2⟩
  obtain ⟨f2, a2, l2, hv2⟩ := hr2.func (by simp)
  subst hv2
  have HS2 := hide (HS1.out.call hk2 hr2)
  clear hr2 hk2
  go_wp2_with fail
  refine (on_map bm bB bD b1 _ [⟨#[99, 97, 112, 116, 105, 111, 110]⟩, ⟨#[99, 111, 108]⟩, ⟨#[99, 111, 108, 103, 114, 111, 117, 112]⟩, ⟨#[116, 98, 111, 100, 121]⟩, ⟨#[116, 100]⟩, ⟨#[116, 102, 111, 111, 116]⟩, ⟨#[116, 104]⟩, ⟨#[116, 104, 101, 97, 100]⟩, ⟨#[116, 114]⟩] (.ahead 138) [] _ _ (by kernel_rfl) (by kernel_rfl) HS2.out.t (HS2.out.hms (b1, []) (by simp)).1 (HS2.out.hms (b1, []) (by simp)).2.2 (HS2.out.at (by simp))).mono ?_
  rintro e W3 ⟨rfl, hm3, hk3, hf3⟩
  have HS3 := hide (HS2.out.on hk3 hf3 hm3)
  clear hm3 hk3 hf3
  obtain ⟨W4, b2, hW4, hb2, S4⟩ := HS3.out.map
  have HS4 := hide S4
  have HW4 := hide hW4
  have HB2 := hide hb2
  clear hW4 hb2 S4
  go_wp2_with fail
  rw [← HW4.out, ← HB2.out]
  refine (ru_ends bm bB bD 138 _).mono ?_
  rintro e W5 ⟨⟨x5, rfl, hr5⟩, hk5⟩
  obtain ⟨f5, a5, l5, hv5⟩ := hr5.func (by simp)
  subst hv5
  have HS5 := hide (HS4.out.call hk5 hr5)
  clear hr5 hk5
  go_wp2_with fail
  refine (on_map bm bB bD b2 _ [⟨#[99, 97, 112, 116, 105, 111, 110]⟩] (.ends 138) [] _ _ (by kernel_rfl) (by kernel_rfl) HS5.out.t (HS5.out.hms (b2, []) (by simp)).1 (HS5.out.hms (b2, []) (by simp)).2.2 (HS5.out.at (by simp))).mono ?_
  rintro e W6 ⟨rfl, hm6, hk6, hf6⟩
  have HS6 := hide (HS5.out.on hk6 hf6 hm6)
  clear hm6 hk6 hf6
  go_wp2_with fail
  refine (ru_ahead bm bB bD 138 _).mono ?_
  rintro e W7 ⟨⟨x7, rfl, hr7⟩, hk7⟩
  obtain ⟨f7, a7, l7, hv7⟩ := hr7.func (by simp)
  subst hv7
  have HS7 := hide (HS6.out.call hk7 hr7)
  clear hr7 hk7
  go_wp2_with fail
  refine (on_map bm bB bD b2 _ [⟨#[116, 97, 98, 108, 101]⟩] (.ahead 138) [([⟨#[99, 97, 112, 116, 105, 111, 110]⟩], (.ends 138))] _ _ (by kernel_rfl) (by kernel_rfl) HS7.out.t (HS7.out.hms (b2, [([⟨#[99, 97, 112, 116, 105, 111, 110]⟩], (.ends 138))]) (by simp)).1 (HS7.out.hms (b2, [([⟨#[99, 97, 112, 116, 105, 111, 110]⟩], (.ends 138))]) (by simp)).2.2 (HS7.out.at (by simp))).mono ?_
  rintro e W8 ⟨rfl, hm8, hk8, hf8⟩
  have HS8 := hide (HS7.out.on hk8 hf8 hm8)
  clear hm8 hk8 hf8
  go_wp2_with fail
  refine (on_map bm bB bD b2 _ [⟨#[98, 111, 100, 121]⟩, ⟨#[99, 111, 108]⟩, ⟨#[99, 111, 108, 103, 114, 111, 117, 112]⟩, ⟨#[104, 116, 109, 108]⟩, ⟨#[116, 98, 111, 100, 121]⟩, ⟨#[116, 100]⟩, ⟨#[116, 102, 111, 111, 116]⟩, ⟨#[116, 104]⟩, ⟨#[116, 104, 101, 97, 100]⟩, ⟨#[116, 114]⟩] .nothing [([⟨#[116, 97, 98, 108, 101]⟩], (.ahead 138)), ([⟨#[99, 97, 112, 116, 105, 111, 110]⟩], (.ends 138))] _ _ (by kernel_rfl) (by kernel_rfl) HS8.out.t (HS8.out.hms (b2, [([⟨#[116, 97, 98, 108, 101]⟩], (.ahead 138)), ([⟨#[99, 97, 112, 116, 105, 111, 110]⟩], (.ends 138))]) (by simp)).1 (HS8.out.hms (b2, [([⟨#[116, 97, 98, 108, 101]⟩], (.ahead 138)), ([⟨#[99, 97, 112, 116, 105, 111, 110]⟩], (.ends 138))]) (by simp)).2.2 rfl).mono ?_
  rintro e W9 ⟨rfl, hm9, hk9, hf9⟩
  have HS9 := hide (HS8.out.on hk9 hf9 hm9)
  clear hm9 hk9 hf9
  go_wp2_with fail
  refine (ru_asIn bm bB bD 6 _).mono ?_
  rintro e W10 ⟨⟨x10, rfl, hr10⟩, hk10⟩
  obtain ⟨f10, a10, l10, hv10⟩ := hr10.func (by simp)
  subst hv10
  have HS10 := hide (HS9.out.call hk10 hr10)
  clear hr10 hk10
  have HF := hide (stored_rules (sp := sp_inCaption) (v0 := .nilFunc) (v1 := .nilFunc) (v2 := .nilFunc) (v3 := .nilFunc) (v4 := .nilFunc) (v5 := .map (some b1)) (v6 := .map (some b2)) (v7 := .nilFunc) (v8 := .nilFunc) (v9 := .func f10 a10 l10) HS10.out.g HS10.out.k ⟨rfl, rfl, rfl, rfl, rfl, (HS10.out.mapAt (b := b1) (R := [([⟨#[99, 97, 112, 116, 105, 111, 110]⟩, ⟨#[99, 111, 108]⟩, ⟨#[99, 111, 108, 103, 114, 111, 117, 112]⟩, ⟨#[116, 98, 111, 100, 121]⟩, ⟨#[116, 100]⟩, ⟨#[116, 102, 111, 111, 116]⟩, ⟨#[116, 104]⟩, ⟨#[116, 104, 101, 97, 100]⟩, ⟨#[116, 114]⟩], (.ahead 138))]) (by simp)), (HS10.out.mapAt (b := b2) (R := [([⟨#[98, 111, 100, 121]⟩, ⟨#[99, 111, 108]⟩, ⟨#[99, 111, 108, 103, 114, 111, 117, 112]⟩, ⟨#[104, 116, 109, 108]⟩, ⟨#[116, 98, 111, 100, 121]⟩, ⟨#[116, 100]⟩, ⟨#[116, 102, 111, 111, 116]⟩, ⟨#[116, 104]⟩, ⟨#[116, 104, 101, 97, 100]⟩, ⟨#[116, 114]⟩], .nothing), ([⟨#[116, 97, 98, 108, 101]⟩], (.ahead 138)), ([⟨#[99, 97, 112, 116, 105, 111, 110]⟩], (.ends 138))]) (by simp)), rfl, rfl, (HS10.out.at (r := .asIn 6) (v := .func f10 a10 l10) (by simp))⟩ _ rfl)
  obtain ⟨q0, q1, q2, q3, q4, q5, q6, q7, q8, q9⟩ := zero_cells HS10.out.g
  have u0 := free_at HS10.out.g 0
  have u1 := free_at HS10.out.g 1
  have u2 := free_at HS10.out.g 2
  have u3 := free_at HS10.out.g 3
  have u4 := free_at HS10.out.g 4
  have u5 := free_at HS10.out.g 5
  have u6 := free_at HS10.out.g 6
  have u7 := free_at HS10.out.g 7
  have u8 := free_at HS10.out.g 8
  have u9 := free_at HS10.out.g 9
  go_wp2
  exact fin_rules Tryz.results78 rfl rfl HF.out
end Go.Proofs.YtlhhgenpcjjajaaGreatDoor
