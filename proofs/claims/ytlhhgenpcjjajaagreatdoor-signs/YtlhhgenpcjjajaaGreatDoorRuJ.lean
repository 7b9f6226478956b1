import Derived.Test.YtlhhgenpcjjajaaGreatDoorBuA
import Derived.Test.YtlhhgenpcjjajaaGreatDoorLsE
set_option linter.unusedSimpArgs false
set_option linter.unusedVariables false
namespace Go.Proofs.YtlhhgenpcjjajaaGreatDoor
open Go.RowKit
def sp_behindBody (pf : Nat) (own : Bool) : RSpec := { blank := .asIn 6, comment := .comment pf own, doctype := .nothing, textEnd := .nothing, start := some [([⟨#[104, 116, 109, 108]⟩], (.asIn 6))], others := .meth 247 }
set_option maxHeartbeats 8000000 in
set_option maxRecDepth 100000 in
theorem ru_commentP (bm bB bD pf pb : Nat) (own : Bool) (w : World) (hpb : pb = if own then bB else bD) : Calls Tryz.prog 98 #[ptrv bB, .func (.func pf) #[ptrv pb] #[]] w (Makes bm bB bD (.comment pf own) w) := by
  rw [hpb]
  exact ru_comment bm bB bD pf own w
set_option maxHeartbeats 8000000 in
set_option maxRecDepth 100000 in
theorem r_behindBody (bm bB bD pf pb : Nat) (own : Bool) (hpb : pb = if own then bB else bD) (w : World) (hb : BD bB bD w) (ht : Tab w) (hbm : bm < w.heap.size) :
    Calls Tryz.prog 153 #[ptrv bB, .func (.func pf) #[ptrv pb] #[]] w (MakesRules bm bB bD (sp_behindBody pf own) w) := by
  have hmm := @run_makeMap Tryz.prog
  have HPB := hide hpb
  clear hpb
  obtain ⟨W0, hW0, S0⟩ := St.start bm bB bD w ht hbm
  obtain ⟨c187, hBl⟩ := hb
  have HS0 := hide S0
  have HW0 := hide hW0
  clear S0 hW0 ht hbm
  go_enter Tryz.func153, Tryz.ntmps153
  go_wp2_with fail
  rw [← HW0.out]
  refine (ru_asIn bm bB bD 6 _).mono ?_
  rintro e W1 ⟨⟨x1, rfl, hr1⟩, hk1⟩
  obtain ⟨f1, a1, l1, hv1⟩ := hr1.func (by simp)
  subst hv1
  have HS1 := hide (HS0.out.call hk1 hr1)
  clear hr1 hk1
  go_wp2_with fail
  refine (ru_commentP bm bB bD pf pb own _ HPB.out).mono ?_
  rintro e W2 ⟨⟨x2, rfl, hr2⟩, hk2⟩
  obtain ⟨f2, a2, l2, hv2⟩ := hr2.func (by simp)
  subst hv2
  have HS2 := hide (HS1.out.call hk2 hr2)
  clear hr2 hk2
  obtain ⟨W3, b1, hW3, hb1, S3⟩ := HS2.out.map
  have HS3 := hide S3
  have HW3 := hide hW3
  have HB1 := hide hb1
  clear hW3 hb1 S3
  go_wp2_with fail
  rw [← HW3.out, ← HB1.out]
  refine (ru_asIn bm bB bD 6 _).mono ?_
  rintro e W4 ⟨⟨x4, rfl, hr4⟩, hk4⟩
  obtain ⟨f4, a4, l4, hv4⟩ := hr4.func (by simp)
  subst hv4
  have HS4 := hide (HS3.out.call hk4 hr4)
  clear hr4 hk4
  go_wp2_with fail
  refine (on_map bm bB bD b1 _ [⟨#[104, 116, 109, 108]⟩] (.asIn 6) [] _ _ (by kernel_rfl) (by kernel_rfl) HS4.out.t (HS4.out.hms (b1, []) (by simp)).1 (HS4.out.hms (b1, []) (by simp)).2.2 (HS4.out.at (by simp))).mono ?_
  rintro e W5 ⟨rfl, hm5, hk5, hf5⟩
  have HS5 := hide (HS4.out.on hk5 hf5 hm5)
  clear hm5 hk5 hf5
  have HF := hide (stored_rules (sp := sp_behindBody pf own) (v0 := .func f1 a1 l1) (v1 := .nilFunc) (v2 := .func f2 a2 l2) (v3 := .func (.func 97) #[] #[]) (v4 := .func (.func 97) #[] #[]) (v5 := .map (some b1)) (v6 := .map none) (v7 := .nilFunc) (v8 := .nilFunc) (v9 := .func (.func 247) #[ptrv bB] #[]) HS5.out.g HS5.out.k ⟨(HS5.out.at (r := .asIn 6) (v := .func f1 a1 l1) (by simp)), rfl, (HS5.out.at (r := .comment pf own) (v := .func f2 a2 l2) (by simp)), rfl, rfl, (HS5.out.mapAt (b := b1) (R := [([⟨#[104, 116, 109, 108]⟩], (.asIn 6))]) (by simp)), rfl, rfl, rfl, rfl⟩ _ rfl)
  obtain ⟨q0, q1, q2, q3, q4, q5, q6, q7, q8, q9⟩ := zero_cells HS5.out.g
  have u0 := free_at HS5.out.g 0
  have u1 := free_at HS5.out.g 1
  have u2 := free_at HS5.out.g 2
  have u3 := free_at HS5.out.g 3
  have u4 := free_at HS5.out.g 4
  have u5 := free_at HS5.out.g 5
  have u6 := free_at HS5.out.g 6
  have u7 := free_at HS5.out.g 7
  have u8 := free_at HS5.out.g 8
  have u9 := free_at HS5.out.g 9
  go_wp2
  exact fin_rules Tryz.results153 rfl rfl HF.out
end Go.Proofs.YtlhhgenpcjjajaaGreatDoor
namespace Go.Proofs.YtlhhgenpcjjajaaGreatDoor
open Go.RowKit
theorem behind_vals {bm bB bD pf : Nat} {own : Bool} {v0 v1 v2 v3 v4 v5 v6 v7 v8 v9 : Value} {w : World} (h : IsRules bm bB bD (sp_behindBody pf own) v0 v1 v2 v3 v4 v5 v6 v7 v8 v9 w) : ∃ f0 a0 l0 f2 a2 l2 b5, v0 = .func f0 a0 l0 ∧ v1 = .nilFunc ∧ v2 = .func f2 a2 l2 ∧ v3 = .func (.func 97) #[] #[] ∧ v4 = .func (.func 97) #[] #[] ∧ v5 = .map (some b5) ∧ v6 = .map none ∧ v7 = .nilFunc ∧ v8 = .nilFunc ∧ v9 = .func (.func 247) #[ptrv bB] #[] := by
  obtain ⟨f0, a0, l0, e0⟩ := h.blank.func (by simp [sp_behindBody])
  obtain ⟨f2, a2, l2, e2⟩ := h.comment.func (by simp [sp_behindBody])
  obtain ⟨b5, L, e5, _⟩ := h.start
  exact ⟨f0, a0, l0, f2, a2, l2, b5, e0, h.char, e2, h.doctype, h.textEnd, e5, h.stop, h.otherStart, h.otherEnd, h.others⟩
set_option maxHeartbeats 8000000 in
set_option maxRecDepth 100000 in
theorem r_afterAfterBody (bm bB bD : Nat) (w : World) (hb : BD bB bD w) (ht : Tab w) (hbm : bm < w.heap.size) :
    Calls Tryz.prog 86 #[ptrv bB] w (MakesRules bm bB bD (sp_behindBody 99 false) w) := by
  obtain ⟨W0, hW0, S0⟩ := St.start bm bB bD w ht hbm
  have HB := hide hb
  obtain ⟨c187, hBl⟩ := hb
  have HS0 := hide S0
  have HW0 := hide hW0
  clear S0 hW0 ht hbm
  go_enter Tryz.func86, Tryz.ntmps86
  go_wp2_with fail
  rw [← HW0.out]
  refine (r_behindBody bm bB bD 99 bD false rfl _ (HB.out.kept0 HS0.out.k) HS0.out.t (Nat.lt_of_lt_of_le HS0.out.lt HS0.out.k.size)).mono ?_
  rintro e W1 ⟨v0, v1, v2, v3, v4, v5, v6, v7, v8, v9, rfl, hr, hk⟩
  obtain ⟨f0, a0, l0, f2, a2, l2, b5, rfl, rfl, rfl, rfl, rfl, rfl, rfl, rfl, rfl, rfl⟩ := behind_vals hr
  have HS1 := hide (HS0.out.call0 hk)
  have HF := hide (stored_rules HS1.out.g HS1.out.k hr _ rfl)
  clear hr hk
  obtain ⟨q0, q1, q2, q3, q4, q5, q6, q7, q8, q9⟩ := zero_cells HS1.out.g
  have u0 := free_at HS1.out.g 0
  have u1 := free_at HS1.out.g 1
  have u2 := free_at HS1.out.g 2
  have u3 := free_at HS1.out.g 3
  have u4 := free_at HS1.out.g 4
  have u5 := free_at HS1.out.g 5
  have u6 := free_at HS1.out.g 6
  have u7 := free_at HS1.out.g 7
  have u8 := free_at HS1.out.g 8
  have u9 := free_at HS1.out.g 9
  go_wp2
  exact fin_rules Tryz.results86 rfl rfl HF.out
end Go.Proofs.YtlhhgenpcjjajaaGreatDoor
namespace Go.Proofs.YtlhhgenpcjjajaaGreatDoor
open Go.RowKit
structure StM (bm bB bD : Nat) (w cw : World) (rs : List (Ru × Value)) (ms : List (Nat × List (List ByteArray × Ru))) : Prop where
  k : Kept [] w cw
  t : Tab cw
  lt : bm < w.heap.size
  hrs : ∀ p ∈ rs, IsRu bm bB bD p.1 p.2 cw
  hms : ∀ p ∈ ms, IsMap bm bB bD p.1 p.2 (.map (some p.1)) cw ∧ w.heap.size ≤ p.1 ∧ p.1 ≠ bm
  nd : (ms.map (·.1)).Nodup
theorem StM.start (bm bB bD : Nat) (w : World) (ht : Tab w) (hbm : bm < w.heap.size) : StM bm bB bD w w [] [] :=
  ⟨Kept.refl _ _, ht, hbm, (fun _ h => (by cases h)), (fun _ h => (by cases h)), (by simp)⟩
theorem StM.call0 {bm bB bD : Nat} {w cw cw' : World} {rs : List (Ru × Value)} {ms : List (Nat × List (List ByteArray × Ru))} (s : StM bm bB bD w cw rs ms) (hk : Kept [] cw cw') : StM bm bB bD w cw' rs ms :=
  have f : FrN bm cw cw' := .of_kept0 hk
  ⟨s.k.trans hk, s.t.fr f, s.lt, fun p hp => (s.hrs p hp).fr f, fun p hp => ⟨(s.hms p hp).1.fr f (hk.block _ (s.hms p hp).1.lt (by simp)), (s.hms p hp).2⟩, s.nd⟩
theorem StM.call {bm bB bD : Nat} {w cw cw' : World} {rs : List (Ru × Value)} {ms : List (Nat × List (List ByteArray × Ru))} {r : Ru} {v : Value} (s : StM bm bB bD w cw rs ms) (hk : Kept [] cw cw') (hr : IsRu bm bB bD r v cw') : StM bm bB bD w cw' ((r, v) :: rs) ms :=
  have s' := s.call0 hk
  ⟨s'.k, s'.t, s'.lt, fun p hp => by
    rcases List.mem_cons.1 hp with rfl | hp
    · exact hr
    · exact s'.hrs p hp, s'.hms, s'.nd⟩
theorem StM.map {bm bB bD : Nat} {w cw : World} {rs : List (Ru × Value)} {ms : List (Nat × List (List ByteArray × Ru))} (s : StM bm bB bD w cw rs ms) : ∃ W b, W = cw.alloc (.map #[] 0) ∧ b = cw.heap.size ∧ StM bm bB bD w W rs ((b, []) :: ms) := by
  have hk : Kept [] cw (cw.alloc (.map #[] 0)) := (Kept.refl _ _).alloc _
  have s' := s.call0 hk
  refine ⟨_, _, rfl, rfl, s'.k, s'.t, s'.lt, s'.hrs, fun p hp => ?_, ?_⟩
  · rcases List.mem_cons.1 hp with rfl | hp
    · exact ⟨map_new bm bB bD cw, s.k.size, by have := s.k.size; have := s.lt; show cw.heap.size ≠ bm; omega⟩
    · exact s'.hms p hp
  · rw [List.map_cons, List.nodup_cons]
    refine ⟨fun hm => ?_, s.nd⟩
    obtain ⟨p, hp, e⟩ := List.mem_map.1 hm
    have := (s.hms p hp).1.lt
    simp at e
    omega
theorem StM.on {bm bB bD b : Nat} {w cw cw' : World} {rs : List (Ru × Value)} {R R' : List (List ByteArray × Ru)} {ms : List (Nat × List (List ByteArray × Ru))} (s : StM bm bB bD w cw rs ((b, R) :: ms)) (hk : Kept [b] cw cw') (hf : FrN bm cw cw') (hm : IsMap bm bB bD b R' (.map (some b)) cw') : StM bm bB bD w cw' rs ((b, R') :: ms) := by
  have hb := s.hms (b, R) (by simp)
  have hnd := s.nd
  rw [List.map_cons, List.nodup_cons] at hnd
  refine ⟨s.k.next hk (fun x hx => .inr (by have := List.mem_singleton.1 hx; subst this; exact hb.2.1)), s.t.fr hf, s.lt, fun p hp => (s.hrs p hp).fr hf, fun p hp => ?_, s.nd⟩
  rcases List.mem_cons.1 hp with rfl | hp
  · exact ⟨hm, hb.2⟩
  · have h0 := s.hms p (List.mem_cons_of_mem _ hp)
    refine ⟨h0.1.fr hf (hk.block _ h0.1.lt fun hmem => ?_), h0.2⟩
    have e := List.mem_singleton.1 hmem
    exact hnd.1 (e ▸ List.mem_map.2 ⟨p, hp, rfl⟩)
theorem StM.at {bm bB bD : Nat} {w cw : World} {rs : List (Ru × Value)} {ms : List (Nat × List (List ByteArray × Ru))} (s : StM bm bB bD w cw rs ms) {r : Ru} {v : Value} (h : (r, v) ∈ rs) : IsRu bm bB bD r v cw := s.hrs (r, v) h
theorem StM.mapAt {bm bB bD : Nat} {w cw : World} {rs : List (Ru × Value)} {ms : List (Nat × List (List ByteArray × Ru))} (s : StM bm bB bD w cw rs ms) {b : Nat} {R : List (List ByteArray × Ru)} (h : (b, R) ∈ ms) : IsMapO bm bB bD (some R) (.map (some b)) cw := ⟨b, (s.hms (b, R) h).1⟩
def MakesMap (bm bB bD : Nat) (R : List (List ByteArray × Ru)) (w : World) (e : Ending) (w' : World) : Prop := ∃ b, e = .returned (.map (some b)) ∧ IsMap bm bB bD b R (.map (some b)) w' ∧ w.heap.size ≤ b ∧ b ≠ bm ∧ Kept [] w w'
theorem St.mapOf {bm bB bD b : Nat} {w cw cw' : World} {rs : List (Ru × Value)} {R : List (List ByteArray × Ru)} {ms : List (Nat × List (List ByteArray × Ru))} (s : St bm bB bD w cw rs ms) (hk : Kept [] cw cw') (hm : IsMap bm bB bD b R (.map (some b)) cw') (hb : cw.heap.size ≤ b) (hne : b ≠ bm) : St bm bB bD w cw' rs ((b, R) :: ms) := by
  have s' := s.call0 hk
  refine ⟨s'.k, s'.g, s'.t, s'.lt, s'.hrs, fun p hp => ?_, ?_⟩
  · rcases List.mem_cons.1 hp with rfl | hp
    · exact ⟨hm, Nat.le_trans s.k.size hb, hne⟩
    · exact s'.hms p hp
  · rw [List.map_cons, List.nodup_cons]
    refine ⟨fun hmem => ?_, s.nd⟩
    obtain ⟨p, hp, e⟩ := List.mem_map.1 hmem
    have := (s.hms p hp).1.lt
    simp at e
    omega
def mp_endTagsInBody : List (List ByteArray × Ru) := [([⟨#[111, 98, 106, 101, 99, 116]⟩], (.meth 218)), ([⟨#[97]⟩, ⟨#[98]⟩, ⟨#[105]⟩, ⟨#[110, 111, 98, 114]⟩], (.meth 217)), ([⟨#[102, 111, 114, 109]⟩], (.meth 216)), ([⟨#[98, 114]⟩], (.meth 215)), ([⟨#[112]⟩], (.meth 214)), ([⟨#[108, 105]⟩], (.meth 213)), ([⟨#[104, 49]⟩, ⟨#[104, 50]⟩], (.meth 212)), ([⟨#[100, 105, 118]⟩, ⟨#[117, 108]⟩, ⟨#[100, 108]⟩, ⟨#[112, 114, 101]⟩, ⟨#[98, 117, 116, 116, 111, 110]⟩, ⟨#[100, 100]⟩, ⟨#[100, 116]⟩], (.meth 211)), ([⟨#[104, 116, 109, 108]⟩], (.meth 210)), ([⟨#[98, 111, 100, 121]⟩], (.meth 209))]
set_option maxHeartbeats 8000000 in
set_option maxRecDepth 100000 in
theorem m_endTagsInBody (bm bB bD : Nat) (w : World) (ht : Tab w) (hbm : bm < w.heap.size) :
    Calls Tryz.prog 123 #[ptrv bB] w (MakesMap bm bB bD mp_endTagsInBody w) := by
  have hmm := @run_makeMap Tryz.prog
  have HS0 := hide (StM.start bm bB bD w ht hbm)
  clear ht hbm
  go_enter Tryz.func123, Tryz.ntmps123
  obtain ⟨W1, b1, hW1, hb1, S1⟩ := HS0.out.map
  have HS1 := hide S1
  have HW1 := hide hW1
  have HB1 := hide hb1
  clear hW1 hb1 S1
  go_wp2_with fail
  rw [← HW1.out, ← HB1.out]
  refine (on_map bm bB bD b1 _ [⟨#[98, 111, 100, 121]⟩] (.meth 209) [] _ _ (by kernel_rfl) (by kernel_rfl) HS1.out.t (HS1.out.hms (b1, []) (by simp)).1 (HS1.out.hms (b1, []) (by simp)).2.2 rfl).mono ?_
  rintro e W2 ⟨rfl, hm2, hk2, hf2⟩
  have HS2 := hide (HS1.out.on hk2 hf2 hm2)
  clear hm2 hk2 hf2
  go_wp2_with fail
  refine (on_map bm bB bD b1 _ [⟨#[104, 116, 109, 108]⟩] (.meth 210) [([⟨#[98, 111, 100, 121]⟩], (.meth 209))] _ _ (by kernel_rfl) (by kernel_rfl) HS2.out.t (HS2.out.hms (b1, [([⟨#[98, 111, 100, 121]⟩], (.meth 209))]) (by simp)).1 (HS2.out.hms (b1, [([⟨#[98, 111, 100, 121]⟩], (.meth 209))]) (by simp)).2.2 rfl).mono ?_
  rintro e W3 ⟨rfl, hm3, hk3, hf3⟩
  have HS3 := hide (HS2.out.on hk3 hf3 hm3)
  clear hm3 hk3 hf3
  go_wp2_with fail
  refine (on_map bm bB bD b1 _ [⟨#[100, 105, 118]⟩, ⟨#[117, 108]⟩, ⟨#[100, 108]⟩, ⟨#[112, 114, 101]⟩, ⟨#[98, 117, 116, 116, 111, 110]⟩, ⟨#[100, 100]⟩, ⟨#[100, 116]⟩] (.meth 211) [([⟨#[104, 116, 109, 108]⟩], (.meth 210)), ([⟨#[98, 111, 100, 121]⟩], (.meth 209))] _ _ (by kernel_rfl) (by kernel_rfl) HS3.out.t (HS3.out.hms (b1, [([⟨#[104, 116, 109, 108]⟩], (.meth 210)), ([⟨#[98, 111, 100, 121]⟩], (.meth 209))]) (by simp)).1 (HS3.out.hms (b1, [([⟨#[104, 116, 109, 108]⟩], (.meth 210)), ([⟨#[98, 111, 100, 121]⟩], (.meth 209))]) (by simp)).2.2 rfl).mono ?_
  rintro e W4 ⟨rfl, hm4, hk4, hf4⟩
  have HS4 := hide (HS3.out.on hk4 hf4 hm4)
  clear hm4 hk4 hf4
  go_wp2_with fail
  refine (on_map bm bB bD b1 _ [⟨#[104, 49]⟩, ⟨#[104, 50]⟩] (.meth 212) [([⟨#[100, 105, 118]⟩, ⟨#[117, 108]⟩, ⟨#[100, 108]⟩, ⟨#[112, 114, 101]⟩, ⟨#[98, 117, 116, 116, 111, 110]⟩, ⟨#[100, 100]⟩, ⟨#[100, 116]⟩], (.meth 211)), ([⟨#[104, 116, 109, 108]⟩], (.meth 210)), ([⟨#[98, 111, 100, 121]⟩], (.meth 209))] _ _ (by kernel_rfl) (by kernel_rfl) HS4.out.t (HS4.out.hms (b1, [([⟨#[100, 105, 118]⟩, ⟨#[117, 108]⟩, ⟨#[100, 108]⟩, ⟨#[112, 114, 101]⟩, ⟨#[98, 117, 116, 116, 111, 110]⟩, ⟨#[100, 100]⟩, ⟨#[100, 116]⟩], (.meth 211)), ([⟨#[104, 116, 109, 108]⟩], (.meth 210)), ([⟨#[98, 111, 100, 121]⟩], (.meth 209))]) (by simp)).1 (HS4.out.hms (b1, [([⟨#[100, 105, 118]⟩, ⟨#[117, 108]⟩, ⟨#[100, 108]⟩, ⟨#[112, 114, 101]⟩, ⟨#[98, 117, 116, 116, 111, 110]⟩, ⟨#[100, 100]⟩, ⟨#[100, 116]⟩], (.meth 211)), ([⟨#[104, 116, 109, 108]⟩], (.meth 210)), ([⟨#[98, 111, 100, 121]⟩], (.meth 209))]) (by simp)).2.2 rfl).mono ?_
  rintro e W5 ⟨rfl, hm5, hk5, hf5⟩
  have HS5 := hide (HS4.out.on hk5 hf5 hm5)
  clear hm5 hk5 hf5
  go_wp2_with fail
  refine (on_map bm bB bD b1 _ [⟨#[108, 105]⟩] (.meth 213) [([⟨#[104, 49]⟩, ⟨#[104, 50]⟩], (.meth 212)), ([⟨#[100, 105, 118]⟩, ⟨#[117, 108]⟩, ⟨#[100, 108]⟩, ⟨#[112, 114, 101]⟩, ⟨#[98, 117, 116, 116, 111, 110]⟩, ⟨#[100, 100]⟩, ⟨#[100, 116]⟩], (.meth 211)), ([⟨#[104, 116, 109, 108]⟩], (.meth 210)), ([⟨#[98, 111, 100, 121]⟩], (.meth 209))] _ _ (by kernel_rfl) (by kernel_rfl) HS5.out.t (HS5.out.hms (b1, [([⟨#[104, 49]⟩, ⟨#[104, 50]⟩], (.meth 212)), ([⟨#[100, 105, 118]⟩, ⟨#[117, 108]⟩, ⟨#[100, 108]⟩, ⟨#[112, 114, 101]⟩, ⟨#[98, 117, 116, 116, 111, 110]⟩, ⟨#[100, 100]⟩, ⟨#[100, 116]⟩], (.meth 211)), ([⟨#[104, 116, 109, 108]⟩], (.meth 210)), ([⟨#[98, 111, 100, 121]⟩], (.meth 209))]) (by simp)).1 (HS5.out.hms (b1, [([⟨#[104, 49]⟩, ⟨#[104, 50]⟩], (.meth 212)), ([⟨#[100, 105, 118]⟩, ⟨#[117, 108]⟩, ⟨#[100, 108]⟩, ⟨#[112, 114, 101]⟩, ⟨#[98, 117, 116, 116, 111, 110]⟩, ⟨#[100, 100]⟩, ⟨#[100, 116]⟩], (.meth 211)), ([⟨#[104, 116, 109, 108]⟩], (.meth 210)), ([⟨#[98, 111, 100, 121]⟩], (.meth 209))]) (by simp)).2.2 rfl).mono ?_
  rintro e W6 ⟨rfl, hm6, hk6, hf6⟩
  have HS6 := hide (HS5.out.on hk6 hf6 hm6)
  clear hm6 hk6 hf6
  go_wp2_with fail
  refine (on_map bm bB bD b1 _ [⟨#[112]⟩] (.meth 214) [([⟨#[108, 105]⟩], (.meth 213)), ([⟨#[104, 49]⟩, ⟨#[104, 50]⟩], (.meth 212)), ([⟨#[100, 105, 118]⟩, ⟨#[117, 108]⟩, ⟨#[100, 108]⟩, ⟨#[112, 114, 101]⟩, ⟨#[98, 117, 116, 116, 111, 110]⟩, ⟨#[100, 100]⟩, ⟨#[100, 116]⟩], (.meth 211)), ([⟨#[104, 116, 109, 108]⟩], (.meth 210)), ([⟨#[98, 111, 100, 121]⟩], (.meth 209))] _ _ (by kernel_rfl) (by kernel_rfl) HS6.out.t (HS6.out.hms (b1, [([⟨#[108, 105]⟩], (.meth 213)), ([⟨#[104, 49]⟩, ⟨#[104, 50]⟩], (.meth 212)), ([⟨#[100, 105, 118]⟩, ⟨#[117, 108]⟩, ⟨#[100, 108]⟩, ⟨#[112, 114, 101]⟩, ⟨#[98, 117, 116, 116, 111, 110]⟩, ⟨#[100, 100]⟩, ⟨#[100, 116]⟩], (.meth 211)), ([⟨#[104, 116, 109, 108]⟩], (.meth 210)), ([⟨#[98, 111, 100, 121]⟩], (.meth 209))]) (by simp)).1 (HS6.out.hms (b1, [([⟨#[108, 105]⟩], (.meth 213)), ([⟨#[104, 49]⟩, ⟨#[104, 50]⟩], (.meth 212)), ([⟨#[100, 105, 118]⟩, ⟨#[117, 108]⟩, ⟨#[100, 108]⟩, ⟨#[112, 114, 101]⟩, ⟨#[98, 117, 116, 116, 111, 110]⟩, ⟨#[100, 100]⟩, ⟨#[100, 116]⟩], (.meth 211)), ([⟨#[104, 116, 109, 108]⟩], (.meth 210)), ([⟨#[98, 111, 100, 121]⟩], (.meth 209))]) (by simp)).2.2 rfl).mono ?_
  rintro e W7 ⟨rfl, hm7, hk7, hf7⟩
  have HS7 := hide (HS6.out.on hk7 hf7 hm7)
  clear hm7 hk7 hf7
  go_wp2_with fail
  refine (on_map bm bB bD b1 _ [⟨#[98, 114]⟩] (.meth 215) [([⟨#[112]⟩], (.meth 214)), ([⟨#[108, 105]⟩], (.meth 213)), ([⟨#[104, 49]⟩, ⟨#[104, 50]⟩], (.meth 212)), ([⟨#[100, 105, 118]⟩, ⟨#[117, 108]⟩, ⟨#[100, 108]⟩, ⟨#[112, 114, 101]⟩, ⟨#[98, 117, 116, 116, 111, 110]⟩, ⟨#[100, 100]⟩, ⟨#[100, 116]⟩], (.meth 211)), ([⟨#[104, 116, 109, 108]⟩], (.meth 210)), ([⟨#[98, 111, 100, 121]⟩], (.meth 209))] _ _ (by kernel_rfl) (by kernel_rfl) HS7.out.t (HS7.out.hms (b1, [([⟨#[112]⟩], (.meth 214)), ([⟨#[108, 105]⟩], (.meth 213)), ([⟨#[104, 49]⟩, ⟨#[104, 50]⟩], (.meth 212)), ([⟨#[100, 105, 118]⟩, ⟨#[117, 108]⟩, ⟨#[100, 108]⟩, ⟨#[112, 114, 101]⟩, ⟨#[98, 117, 116, 116, 111, 110]⟩, ⟨#[100, 100]⟩, ⟨#[100, 116]⟩], (.meth 211)), ([⟨#[104, 116, 109, 108]⟩], (.meth 210)), ([⟨#[98, 111, 100, 121]⟩], (.meth 209))]) (by simp)).1 (HS7.out.hms (b1, [([⟨#[112]⟩], (.meth 214)), ([⟨#[108, 105]⟩], (.meth 213)), ([⟨#[104, 49]⟩, ⟨#[104, 50]⟩], (.meth 212)), ([⟨#[100, 105, 118]⟩, ⟨#[117, 108]⟩, ⟨#[100, 108]⟩, ⟨#[112, 114, 101]⟩, ⟨#[98, 117, 116, 116, 111, 110]⟩, ⟨#[100, 100]⟩, ⟨#[100, 116]⟩], (.meth 211)), ([⟨#[104, 116, 109, 108]⟩], (.meth 210)), ([⟨#[98, 111, 100, 121]⟩], (.meth 209))]) (by simp)).2.2 rfl).mono ?_
  rintro e W8 ⟨rfl, hm8, hk8, hf8⟩
  have HS8 := hide (HS7.out.on hk8 hf8 hm8)
  clear hm8 hk8 hf8
  go_wp2_with fail
  refine (on_map bm bB bD b1 _ [⟨#[102, 111, 114, 109]⟩] (.meth 216) [([⟨#[98, 114]⟩], (.meth 215)), ([⟨#[112]⟩], (.meth 214)), ([⟨#[108, 105]⟩], (.meth 213)), ([⟨#[104, 49]⟩, ⟨#[104, 50]⟩], (.meth 212)), ([⟨#[100, 105, 118]⟩, ⟨#[117, 108]⟩, ⟨#[100, 108]⟩, ⟨#[112, 114, 101]⟩, ⟨#[98, 117, 116, 116, 111, 110]⟩, ⟨#[100, 100]⟩, ⟨#[100, 116]⟩], (.meth 211)), ([⟨#[104, 116, 109, 108]⟩], (.meth 210)), ([⟨#[98, 111, 100, 121]⟩], (.meth 209))] _ _ (by kernel_rfl) (by kernel_rfl) HS8.out.t (HS8.out.hms (b1, [([⟨#[98, 114]⟩], (.meth 215)), ([⟨#[112]⟩], (.meth 214)), ([⟨#[108, 105]⟩], (.meth 213)), ([⟨#[104, 49]⟩, ⟨#[104, 50]⟩], (.meth 212)), ([⟨#[100, 105, 118]⟩, ⟨#[117, 108]⟩, ⟨#[100, 108]⟩, ⟨#[112, 114, 101]⟩, ⟨#[98, 117, 116, 116, 111, 110]⟩, ⟨#[100, 100]⟩, ⟨#[100, 116]⟩], (.meth 211)), ([⟨#[104, 116, 109, 108]⟩], (.meth 210)), ([⟨#[98, 111, 100, 121]⟩], (.meth 209))]) (by simp)).1 (HS8.out.hms (b1, [([⟨#[98, 114]⟩], (.meth 215)), ([⟨#[112]⟩], (.meth 214)), ([⟨#[108, 105]⟩], (.meth 213)), ([⟨#[104, 49]⟩, ⟨#[104, 50]⟩], (.meth 212)), ([⟨#[100, 105, 118]⟩, ⟨#[117, 108]⟩, ⟨#[100, 108]⟩, ⟨#[112, 114, 101]⟩, ⟨#[98, 117, 116, 116, 111, 110]⟩, ⟨#[100, 100]⟩, ⟨#[100, 116]⟩], (.meth 211)), ([⟨#[104, 116, 109, 108]⟩], (.meth 210)), ([⟨#[98, 111, 100, 121]⟩], (.meth 209))]) (by simp)).2.2 rfl).mono ?_
  rintro e W9 ⟨rfl, hm9, hk9, hf9⟩
  have HS9 := hide (HS8.out.on hk9 hf9 hm9)
  clear hm9 hk9 hf9
  go_wp2_with fail
  refine (on_map bm bB bD b1 _ [⟨#[97]⟩, ⟨#[98]⟩, ⟨#[105]⟩, ⟨#[110, 111, 98, 114]⟩] (.meth 217) [([⟨#[102, 111, 114, 109]⟩], (.meth 216)), ([⟨#[98, 114]⟩], (.meth 215)), ([⟨#[112]⟩], (.meth 214)), ([⟨#[108, 105]⟩], (.meth 213)), ([⟨#[104, 49]⟩, ⟨#[104, 50]⟩], (.meth 212)), ([⟨#[100, 105, 118]⟩, ⟨#[117, 108]⟩, ⟨#[100, 108]⟩, ⟨#[112, 114, 101]⟩, ⟨#[98, 117, 116, 116, 111, 110]⟩, ⟨#[100, 100]⟩, ⟨#[100, 116]⟩], (.meth 211)), ([⟨#[104, 116, 109, 108]⟩], (.meth 210)), ([⟨#[98, 111, 100, 121]⟩], (.meth 209))] _ _ (by kernel_rfl) (by kernel_rfl) HS9.out.t (HS9.out.hms (b1, [([⟨#[102, 111, 114, 109]⟩], (.meth 216)), ([⟨#[98, 114]⟩], (.meth 215)), ([⟨#[112]⟩], (.meth 214)), ([⟨#[108, 105]⟩], (.meth 213)), ([⟨#[104, 49]⟩, ⟨#[104, 50]⟩], (.meth 212)), ([⟨#[100, 105, 118]⟩, ⟨#[117, 108]⟩, ⟨#[100, 108]⟩, ⟨#[112, 114, 101]⟩, ⟨#[98, 117, 116, 116, 111, 110]⟩, ⟨#[100, 100]⟩, ⟨#[100, 116]⟩], (.meth 211)), ([⟨#[104, 116, 109, 108]⟩], (.meth 210)), ([⟨#[98, 111, 100, 121]⟩], (.meth 209))]) (by simp)).1 (HS9.out.hms (b1, [([⟨#[102, 111, 114, 109]⟩], (.meth 216)), ([⟨#[98, 114]⟩], (.meth 215)), ([⟨#[112]⟩], (.meth 214)), ([⟨#[108, 105]⟩], (.meth 213)), ([⟨#[104, 49]⟩, ⟨#[104, 50]⟩], (.meth 212)), ([⟨#[100, 105, 118]⟩, ⟨#[117, 108]⟩, ⟨#[100, 108]⟩, ⟨#[112, 114, 101]⟩, ⟨#[98, 117, 116, 116, 111, 110]⟩, ⟨#[100, 100]⟩, ⟨#[100, 116]⟩], (.meth 211)), ([⟨#[104, 116, 109, 108]⟩], (.meth 210)), ([⟨#[98, 111, 100, 121]⟩], (.meth 209))]) (by simp)).2.2 rfl).mono ?_
  rintro e W10 ⟨rfl, hm10, hk10, hf10⟩
  have HS10 := hide (HS9.out.on hk10 hf10 hm10)
  clear hm10 hk10 hf10
  go_wp2_with fail
  refine (on_map bm bB bD b1 _ [⟨#[111, 98, 106, 101, 99, 116]⟩] (.meth 218) [([⟨#[97]⟩, ⟨#[98]⟩, ⟨#[105]⟩, ⟨#[110, 111, 98, 114]⟩], (.meth 217)), ([⟨#[102, 111, 114, 109]⟩], (.meth 216)), ([⟨#[98, 114]⟩], (.meth 215)), ([⟨#[112]⟩], (.meth 214)), ([⟨#[108, 105]⟩], (.meth 213)), ([⟨#[104, 49]⟩, ⟨#[104, 50]⟩], (.meth 212)), ([⟨#[100, 105, 118]⟩, ⟨#[117, 108]⟩, ⟨#[100, 108]⟩, ⟨#[112, 114, 101]⟩, ⟨#[98, 117, 116, 116, 111, 110]⟩, ⟨#[100, 100]⟩, ⟨#[100, 116]⟩], (.meth 211)), ([⟨#[104, 116, 109, 108]⟩], (.meth 210)), ([⟨#[98, 111, 100, 121]⟩], (.meth 209))] _ _ (by kernel_rfl) (by kernel_rfl) HS10.out.t (HS10.out.hms (b1, [([⟨#[97]⟩, ⟨#[98]⟩, ⟨#[105]⟩, ⟨#[110, 111, 98, 114]⟩], (.meth 217)), ([⟨#[102, 111, 114, 109]⟩], (.meth 216)), ([⟨#[98, 114]⟩], (.meth 215)), ([⟨#[112]⟩], (.meth 214)), ([⟨#[108, 105]⟩], (.meth 213)), ([⟨#[104, 49]⟩, ⟨#[104, 50]⟩], (.meth 212)), ([⟨#[100, 105, 118]⟩, ⟨#[117, 108]⟩, ⟨#[100, 108]⟩, ⟨#[112, 114, 101]⟩, ⟨#[98, 117, 116, 116, 111, 110]⟩, ⟨#[100, 100]⟩, ⟨#[100, 116]⟩], (.meth 211)), ([⟨#[104, 116, 109, 108]⟩], (.meth 210)), ([⟨#[98, 111, 100, 121]⟩], (.meth 209))]) (by simp)).1 (HS10.out.hms (b1, [([⟨#[97]⟩, ⟨#[98]⟩, ⟨#[105]⟩, ⟨#[110, 111, 98, 114]⟩], (.meth 217)), ([⟨#[102, 111, 114, 109]⟩], (.meth 216)), ([⟨#[98, 114]⟩], (.meth 215)), ([⟨#[112]⟩], (.meth 214)), ([⟨#[108, 105]⟩], (.meth 213)), ([⟨#[104, 49]⟩, ⟨#[104, 50]⟩], (.meth 212)), ([⟨#[100, 105, 118]⟩, ⟨#[117, 108]⟩, ⟨#[100, 108]⟩, ⟨#[112, 114, 101]⟩, ⟨#[98, 117, 116, 116, 111, 110]⟩, ⟨#[100, 100]⟩, ⟨#[100, 116]⟩], (.meth 211)), ([⟨#[104, 116, 109, 108]⟩], (.meth 210)), ([⟨#[98, 111, 100, 121]⟩], (.meth 209))]) (by simp)).2.2 rfl).mono ?_
  rintro e W11 ⟨rfl, hm11, hk11, hf11⟩
  have HS11 := hide (HS10.out.on hk11 hf11 hm11)
  clear hm11 hk11 hf11
  go_wp2
  go_ret
  exact ⟨b1, rfl, (HS11.out.hms (b1, [([⟨#[111, 98, 106, 101, 99, 116]⟩], (.meth 218)), ([⟨#[97]⟩, ⟨#[98]⟩, ⟨#[105]⟩, ⟨#[110, 111, 98, 114]⟩], (.meth 217)), ([⟨#[102, 111, 114, 109]⟩], (.meth 216)), ([⟨#[98, 114]⟩], (.meth 215)), ([⟨#[112]⟩], (.meth 214)), ([⟨#[108, 105]⟩], (.meth 213)), ([⟨#[104, 49]⟩, ⟨#[104, 50]⟩], (.meth 212)), ([⟨#[100, 105, 118]⟩, ⟨#[117, 108]⟩, ⟨#[100, 108]⟩, ⟨#[112, 114, 101]⟩, ⟨#[98, 117, 116, 116, 111, 110]⟩, ⟨#[100, 100]⟩, ⟨#[100, 116]⟩], (.meth 211)), ([⟨#[104, 116, 109, 108]⟩], (.meth 210)), ([⟨#[98, 111, 100, 121]⟩], (.meth 209))]) (by simp)).1, (HS11.out.hms (b1, [([⟨#[111, 98, 106, 101, 99, 116]⟩], (.meth 218)), ([⟨#[97]⟩, ⟨#[98]⟩, ⟨#[105]⟩, ⟨#[110, 111, 98, 114]⟩], (.meth 217)), ([⟨#[102, 111, 114, 109]⟩], (.meth 216)), ([⟨#[98, 114]⟩], (.meth 215)), ([⟨#[112]⟩], (.meth 214)), ([⟨#[108, 105]⟩], (.meth 213)), ([⟨#[104, 49]⟩, ⟨#[104, 50]⟩], (.meth 212)), ([⟨#[100, 105, 118]⟩, ⟨#[117, 108]⟩, ⟨#[100, 108]⟩, ⟨#[112, 114, 101]⟩, ⟨#[98, 117, 116, 116, 111, 110]⟩, ⟨#[100, 100]⟩, ⟨#[100, 116]⟩], (.meth 211)), ([⟨#[104, 116, 109, 108]⟩], (.meth 210)), ([⟨#[98, 111, 100, 121]⟩], (.meth 209))]) (by simp)).2.1, (HS11.out.hms (b1, [([⟨#[111, 98, 106, 101, 99, 116]⟩], (.meth 218)), ([⟨#[97]⟩, ⟨#[98]⟩, ⟨#[105]⟩, ⟨#[110, 111, 98, 114]⟩], (.meth 217)), ([⟨#[102, 111, 114, 109]⟩], (.meth 216)), ([⟨#[98, 114]⟩], (.meth 215)), ([⟨#[112]⟩], (.meth 214)), ([⟨#[108, 105]⟩], (.meth 213)), ([⟨#[104, 49]⟩, ⟨#[104, 50]⟩], (.meth 212)), ([⟨#[100, 105, 118]⟩, ⟨#[117, 108]⟩, ⟨#[100, 108]⟩, ⟨#[112, 114, 101]⟩, ⟨#[98, 117, 116, 116, 111, 110]⟩, ⟨#[100, 100]⟩, ⟨#[100, 116]⟩], (.meth 211)), ([⟨#[104, 116, 109, 108]⟩], (.meth 210)), ([⟨#[98, 111, 100, 121]⟩], (.meth 209))]) (by simp)).2.2, HS11.out.k⟩
end Go.Proofs.YtlhhgenpcjjajaaGreatDoor
namespace Go.Proofs.YtlhhgenpcjjajaaGreatDoor
open Go.RowKit
def sp_afterBody : RSpec := { sp_behindBody 154 true with stop := some [([⟨#[104, 116, 109, 108]⟩], .meth 155)] }
set_option maxHeartbeats 8000000 in
set_option maxRecDepth 100000 in
theorem r_afterBody (bm bB bD : Nat) (w : World) (hb : BD bB bD w) (ht : Tab w) (hbm : bm < w.heap.size) :
    Calls Tryz.prog 85 #[ptrv bB] w (MakesRules bm bB bD sp_afterBody w) := by
  have hmm := @run_makeMap Tryz.prog
  obtain ⟨W0, hW0, S0⟩ := St.start bm bB bD w ht hbm
  have HB := hide hb
  have HS0 := hide S0
  have HW0 := hide hW0
  clear S0 hW0 ht hbm hb
  go_enter Tryz.func85, Tryz.ntmps85
  go_wp2_with fail
  rw [← HW0.out]
  refine (r_behindBody bm bB bD 154 bB true rfl _ (HB.out.kept0 HS0.out.k) HS0.out.t (Nat.lt_of_lt_of_le HS0.out.lt HS0.out.k.size)).mono ?_
  rintro e W1 ⟨v0, v1, v2, v3, v4, v5, v6, v7, v8, v9, rfl, hr, hk⟩
  obtain ⟨f0, a0, l0, f2, a2, l2, b5, rfl, rfl, rfl, rfl, rfl, rfl, rfl, rfl, rfl, rfl⟩ := behind_vals hr
  have HS1 := hide (HS0.out.call0 hk)
  have HR1 := hide hr
  clear hr hk
  obtain ⟨W2, hW2, K2, g2, z2⟩ := alloc_named W1 (.cells #[.func f0 a0 l0, .nilFunc, .func f2 a2 l2, .func (.func 97) #[] #[], .func (.func 97) #[] #[], .map (some b5), .map none, .nilFunc, .nilFunc, .func (.func 247) #[ptrv bB] #[]] 172 (0, 0))
  have S2 := HS1.out.call0 K2
  obtain ⟨W3, b1, hW3, hb1, S3⟩ := S2.map
  have K3 : Kept [] W2 W3 := by rw [hW3]; exact (Kept.refl _ _).alloc _
  have HB1 := hide (show W1.heap.size + 1 = b1 by rw [hb1, z2])
  have HG3 := hide (K3.at g2 (by simp))
  have HR3 := hide (HR1.out.kept0 (K2.trans K3))
  have HLT := hide (show W1.heap.size < b1 by rw [hb1, z2]; omega)
  have HM5 := hide (show b5 < b1 by
    obtain ⟨b5', hm5⟩ := HR1.out.start
    have e : b5 = b5' := by obtain ⟨L, e, _⟩ := hm5; simpa using e
    have := hm5.lt
    rw [hb1, z2, e]; omega)
  have HS3 := hide S3
  have HW2 := hide hW2
  have HW3 := hide hW3
  clear hW2 K2 g2 z2 S2 hW3 hb1 S3 K3
  go_wp2_with fail
  rw [← HW2.out, ← HW3.out, HB1.out]
  refine (on_map bm bB bD b1 _ [⟨#[104, 116, 109, 108]⟩] (.meth 155) [] _ _ (by kernel_rfl) (by kernel_rfl) HS3.out.t (HS3.out.hms (b1, []) (by simp)).1 (HS3.out.hms (b1, []) (by simp)).2.2 rfl).mono ?_
  rintro e W4 ⟨rfl, hm4, hk4, hf4⟩
  have HS4 := hide (HS3.out.on hk4 hf4 hm4)
  have g4 := hk4.at HG3.out (by have := HLT.out; simp; omega)
  have HR4 : Hid (IsRules bm bB bD sp_afterBody (.func f0 a0 l0) .nilFunc (.func f2 a2 l2) (.func (.func 97) #[] #[]) (.func (.func 97) #[] #[]) (.map (some b5)) (.map (some b1)) .nilFunc .nilFunc (.func (.func 247) #[ptrv bB] #[]) W4) := by
    refine hide ⟨HR3.out.blank.fr hf4, HR3.out.char.fr hf4, HR3.out.comment.fr hf4, HR3.out.doctype.fr hf4, HR3.out.textEnd.fr hf4, ?_, ⟨b1, hm4⟩, HR3.out.otherStart.fr hf4, HR3.out.otherEnd.fr hf4, HR3.out.others.fr hf4⟩
    obtain ⟨b5', hm5⟩ := HR3.out.start
    have e : b5 = b5' := by obtain ⟨L, e, _⟩ := hm5; simpa using e
    subst e
    exact ⟨b5, hm5.fr hf4 (hk4.block b5 hm5.lt (by have := HM5.out; simp; omega))⟩
  have hsz : w.heap.size < W1.heap.size := lt_of_block HS1.out.g
  have HF := hide (stored_rules (w1 := W4.setCell ⟨W1.heap.size, 6, none⟩ (.map (some b1))) ((Below.heap_setCell W4 ⟨W1.heap.size, 6, none⟩ _ w.heap.size (by show w.heap.size ≠ W1.heap.size; omega)).trans HS4.out.g) (HS4.out.k.setCell (p := ⟨W1.heap.size, 6, none⟩) (.inr (by show w.heap.size ≤ W1.heap.size; omega)) _) (HR4.out.kept1 ((Kept.refl [W1.heap.size] W4).setCell (p := ⟨W1.heap.size, 6, none⟩) (.inl (by simp)) _) g4) _ rfl)
  have HNE := hide hsz
  have hne : w.heap.size ≠ W1.heap.size := by omega
  clear hm4 hk4 hf4 hsz
  have c0 : W4.cell? ⟨W1.heap.size, 0, none⟩ = some (.func f0 a0 l0) := (cell_at g4 0).trans rfl
  have c1 : W4.cell? ⟨W1.heap.size, 1, none⟩ = some .nilFunc := (cell_at g4 1).trans rfl
  have c2 : W4.cell? ⟨W1.heap.size, 2, none⟩ = some (.func f2 a2 l2) := (cell_at g4 2).trans rfl
  have c3 : W4.cell? ⟨W1.heap.size, 3, none⟩ = some (.func (.func 97) #[] #[]) := (cell_at g4 3).trans rfl
  have c4 : W4.cell? ⟨W1.heap.size, 4, none⟩ = some (.func (.func 97) #[] #[]) := (cell_at g4 4).trans rfl
  have c5 : W4.cell? ⟨W1.heap.size, 5, none⟩ = some (.map (some b5)) := (cell_at g4 5).trans rfl
  have c6 : W4.cell? ⟨W1.heap.size, 6, none⟩ = some (.map none) := (cell_at g4 6).trans rfl
  have c7 : W4.cell? ⟨W1.heap.size, 7, none⟩ = some .nilFunc := (cell_at g4 7).trans rfl
  have c8 : W4.cell? ⟨W1.heap.size, 8, none⟩ = some .nilFunc := (cell_at g4 8).trans rfl
  have c9 : W4.cell? ⟨W1.heap.size, 9, none⟩ = some (.func (.func 247) #[ptrv bB] #[]) := (cell_at g4 9).trans rfl
  have d6 := free_at g4 6
  clear g4
  obtain ⟨q0, q1, q2, q3, q4, q5, q6, q7, q8, q9⟩ := zero_cells HS4.out.g
  have u0 := free_at HS4.out.g 0
  have u1 := free_at HS4.out.g 1
  have u2 := free_at HS4.out.g 2
  have u3 := free_at HS4.out.g 3
  have u4 := free_at HS4.out.g 4
  have u5 := free_at HS4.out.g 5
  have u6 := free_at HS4.out.g 6
  have u7 := free_at HS4.out.g 7
  have u8 := free_at HS4.out.g 8
  have u9 := free_at HS4.out.g 9
  go_wp2
  exact fin_rules Tryz.results85 rfl rfl HF.out
end Go.Proofs.YtlhhgenpcjjajaaGreatDoor
namespace Go.Proofs.YtlhhgenpcjjajaaGreatDoor
open Go.RowKit
def AskX (bm : Nat) (v : Value) (p : ByteArray → Bool) (X : Nat → Prop) (w : World) : Prop := ∃ E, AskAt E v p w ∧ ∀ e ∈ E, CalmB bm w e ∧ ¬ X e
theorem AskX.ask {bm : Nat} {v : Value} {p : ByteArray → Bool} {X : Nat → Prop} {w : World} (h : AskX bm v p X w) : Ask bm v p w := by
  obtain ⟨E, hA, hE⟩ := h
  exact ⟨E, hA, fun e he => (hE e he).1⟩
theorem AskX.kept {bm : Nat} {v : Value} {p : ByteArray → Bool} {X : Nat → Prop} {w w' : World} (h : AskX bm v p X w) (hk : Kept [] w w') : AskX bm v p X w' := by
  obtain ⟨E, hA, hE⟩ := h
  exact ⟨E, hA.kept0 hk, fun e he => ⟨(hE e he).1.fr (.of_kept0 hk), (hE e he).2⟩⟩
theorem AskX.other {bm : Nat} {v : Value} {p : ByteArray → Bool} {X X' : Nat → Prop} {w : World} (h : AskX bm v p X w) (hX : ∀ e, e < w.heap.size → X' e → X e) : AskX bm v p X' w := by
  obtain ⟨E, hA, hE⟩ := h
  exact ⟨E, hA, fun e he => ⟨(hE e he).1, fun hx => (hE e he).2 (hX e (hA.lt e he) hx)⟩⟩
theorem AskX.of {bm : Nat} {v : Value} {p : ByteArray → Bool} {X : Nat → Prop} {w : World} (h : Ask bm v p w) (hX : ∀ e, e < w.heap.size → ¬ X e) : AskX bm v p X w := by
  obtain ⟨E, hA, hE⟩ := h
  exact ⟨E, hA, fun e he => ⟨hE e he, hX e (hA.lt e he)⟩⟩
theorem AskX.set {bm k : Nat} {v : Value} {p : ByteArray → Bool} {X : Nat → Prop} {w : World} (h : AskX bm v p X w) (hk : X k) (u : Value) : AskX bm v p X (w.setCell ⟨k, 0, none⟩ u) := by
  obtain ⟨E, hA, hE⟩ := h
  have hb : ∀ e ∈ E, (w.setCell ⟨k, 0, none⟩ u).heap[e]? = w.heap[e]? := fun e he => Below.heap_setCell w ⟨k, 0, none⟩ u e (fun q => (hE e he).2 (by rw [q]; exact hk))
  refine ⟨E, hA.keeps hb (by simp), fun e he => ⟨?_, (hE e he).2⟩⟩
  have := (hE e he).1
  unfold CalmB at this ⊢
  rw [hb e he]
  exact this
theorem is_AskX (bm g cap : Nat) (ss : List ByteArray) (X : Nat → Prop) (w : World) (h2 : w.heap[g]? = some (.cells (ss.map Value.string).toArray 9 (0, 0))) (hle : ss.length ≤ 4096) (hX : ∀ e, X e → e < w.heap.size ∧ e ≠ g) :
    Calls Tryz.prog 225 #[.slice (some ⟨g, 0, none⟩) ss.length cap] w fun e w' => (∃ v, e = .returned v ∧ AskX bm v (hasS ss) X w') ∧ Kept [] w w' := by
  refine (is_ok g cap ss.length w).mono ?_
  rintro e w' ⟨rfl, rfl⟩
  have k1 : Kept [] w (w.alloc (.cells #[.slice (some ⟨g, 0, none⟩) ss.length cap] 204 (0, 0))) := (Kept.refl _ _).alloc _
  have g1 := heap_alloc_at w (.cells #[.slice (some ⟨g, 0, none⟩) ss.length cap] 204 (0, 0))
  have g2 := k1.at h2 (by simp)
  refine ⟨⟨_, rfl, _, is1_ok _ g cap ss _ g1 g2 hle, fun e he => ?_⟩, k1⟩
  simp at he
  rcases he with rfl | rfl
  · exact ⟨.inr ⟨_, _, g1, by decide⟩, fun hx => by have := (hX _ hx).1; omega⟩
  · exact ⟨.inr ⟨_, _, g2, by decide⟩, fun hx => (hX _ hx).2 rfl⟩
theorem but_AskX (bm : Nat) (v1 v2 : Value) (p q : ByteArray → Bool) (X : Nat → Prop) (w : World) (hp : AskX bm v1 p X w) (hq : AskX bm v2 q X w) (hX : ∀ e, X e → e < w.heap.size) :
    Calls Tryz.prog 280 #[v1, v2] w fun e w' => (∃ v, e = .returned v ∧ AskX bm v (fun s => p s && !q s) X w') ∧ Kept [] w w' := by
  obtain ⟨E1, a1, c1⟩ := hp
  obtain ⟨E2, a2, c2⟩ := hq
  refine (but_ask2 E1 E2 v1 v2 p q w a1 a2).mono ?_
  rintro e w' ⟨⟨v, rfl, ha, g1, g2⟩, hk⟩
  refine ⟨⟨v, rfl, _, ha, fun e he => ⟨pair_calm (.inr ⟨_, _, g1, by decide⟩) (.inr ⟨_, _, g2, by decide⟩) (fun e he => (c1 e he).1.fr (.of_kept0 hk)) (fun e he => (c2 e he).1.fr (.of_kept0 hk)) e he, fun hx => ?_⟩⟩, hk⟩
  have := hX e hx
  simp at he
  rcases he with rfl | rfl | he | he
  · omega
  · omega
  · exact (c1 e he).2 hx
  · exact (c2 e he).2 hx
def XX (s5 s6 : Value) (e : Nat) : Prop := ptrv e = s5 ∨ ptrv e = s6
abbrev divP : List ByteArray := [⟨#[100, 105, 118]⟩, ⟨#[112]⟩]
abbrev pWalls : ByteArray → Bool := fun s => pSpecial s && !hasS divP s
structure ItemI (bm bB : Nat) (ks : List ByteArray) (sl u : Value) (w1 : World) (b0 b1 b2 b3 b4 b5 b6 b7 b8 b9 b10 b11 b12 : Bool) (s5 s6 s7 s8 s9 s10 s11 s12 s13 s14 s15 : Value) (w : World) : Prop where
  k : Kept [] w1 w
  f0 : b0 = true → s7 = sl
  f1 : b1 = true → AskX bm s8 (hasS ks) (XX s5 s6) w
  f2 : b2 = true → s9 = ptrv bB
  f3 : b3 = true → s10 = ptrv bB
  f4 : b4 = true → s11 = .pointer (some ⟨bB, 184, none⟩)
  f5 : b5 = true → s12 = u
  f6 : b6 = true → ∃ g, s13 = .slice (some ⟨g, 0, none⟩) 2 2 ∧ w.heap[g]? = some (.cells #[.string ⟨#[100, 105, 118]⟩, .string ⟨#[112]⟩] 9 (0, 0))
  f7 : b7 = true → AskX bm s14 (hasS divP) (XX s5 s6) w
  f8 : b8 = true → AskX bm s15 pWalls (XX s5 s6) w
  f9 : if b9 then ∃ k, s5 = ptrv k ∧ w1.heap.size ≤ k ∧ box w k (if b11 then s8 else .nilFunc) 89 else s5 = undef
  f10 : if b10 then ∃ k, s6 = ptrv k ∧ w1.heap.size ≤ k ∧ box w k (if b12 then s15 else .nilFunc) 89 else s6 = undef
  ne : b9 = true → b10 = true → s5 ≠ s6
  d11 : b11 = true → b1 = true ∧ b9 = true
  d12 : b12 = true → b8 = true ∧ b10 = true
section
variable {bm bB : Nat} {ks : List ByteArray} {sl u : Value} {w1 : World} {b0 b1 b2 b3 b4 b5 b6 b7 b8 b9 b10 b11 b12 : Bool} {s5 s6 s7 s8 s9 s10 s11 s12 s13 s14 s15 : Value} {w w' : World}
theorem XX.lt (h : ItemI bm bB ks sl u w1 b0 b1 b2 b3 b4 b5 b6 b7 b8 b9 b10 b11 b12 s5 s6 s7 s8 s9 s10 s11 s12 s13 s14 s15 w) {e : Nat} (hx : XX s5 s6 e) : w1.heap.size ≤ e ∧ ∃ v, box w e v 89 := by
  rcases hx with hx | hx
  · have := h.f9
    cases b9 with
    | false => rw [this] at hx; simp [undef] at hx
    | true => obtain ⟨k, e1, h1, h2⟩ := this; rw [e1] at hx; have q : e = k := by simpa using hx
              subst q; exact ⟨h1, _, h2⟩
  · have := h.f10
    cases b10 with
    | false => rw [this] at hx; simp [undef] at hx
    | true => obtain ⟨k, e1, h1, h2⟩ := this; rw [e1] at hx; have q : e = k := by simpa using hx
              subst q; exact ⟨h1, _, h2⟩
theorem ItemI.go (h : ItemI bm bB ks sl u w1 b0 b1 b2 b3 b4 b5 b6 b7 b8 b9 b10 b11 b12 s5 s6 s7 s8 s9 s10 s11 s12 s13 s14 s15 w) (hk : Kept [] w w') : ItemI bm bB ks sl u w1 b0 b1 b2 b3 b4 b5 b6 b7 b8 b9 b10 b11 b12 s5 s6 s7 s8 s9 s10 s11 s12 s13 s14 s15 w' := by
  refine ⟨h.k.trans hk, h.f0, fun q => (h.f1 q).kept hk, h.f2, h.f3, h.f4, h.f5, fun q => ?_, fun q => (h.f7 q).kept hk, fun q => (h.f8 q).kept hk, ?_, ?_, h.ne, h.d11, h.d12⟩
  · obtain ⟨g, e, hg⟩ := h.f6 q
    exact ⟨g, e, hk.at hg (by simp)⟩
  · have := h.f9
    cases b9 with
    | false => exact this
    | true => obtain ⟨k, e, h1, h2⟩ := this; exact ⟨k, e, h1, hk.at h2 (by simp)⟩
  · have := h.f10
    cases b10 with
    | false => exact this
    | true => obtain ⟨k, e, h1, h2⟩ := this; exact ⟨k, e, h1, hk.at h2 (by simp)⟩
end
end Go.Proofs.YtlhhgenpcjjajaaGreatDoor
