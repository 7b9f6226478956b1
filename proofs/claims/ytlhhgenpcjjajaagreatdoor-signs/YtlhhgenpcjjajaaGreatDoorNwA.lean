import Derived.Test.YtlhhgenpcjjajaaGreatDoorRuJ
import Derived.Test.YtlhhgenpcjjajaaGreatDoorRuL
import Derived.Test.YtlhhgenpcjjajaaGreatDoorRuF
import Derived.Test.YtlhhgenpcjjajaaGreatDoorRuG
import Derived.Test.YtlhhgenpcjjajaaGreatDoorRuH
import Derived.Deep.RegionHeld3
import Derived.Great.BuildSlice
import Derived.Test.YtlhhgenpcjjajaaGreatDoorTrB
set_option linter.unusedSimpArgs false
set_option linter.unusedVariables false
namespace Go.Proofs.YtlhhgenpcjjajaaGreatDoor
open Go.RowKit
def newCells (z : Array Value) (d f a : Int) (v : Value) (bD : Nat) : Array Value := ((((z.setIfInBounds 0 (.int .i64 d)).setIfInBounds 1 (.int .i64 f)).setIfInBounds 2 (.int .i64 a)).setIfInBounds 3 v).setIfInBounds 187 (ptrv bD)
theorem zc_size : Tryz.zeroCells180.size = 199 := by kernel_rfl
theorem newCells_size (z : Array Value) (d f a : Int) (v : Value) (bD : Nat) : (newCells z d f a v bD).size = z.size := by
  simp only [newCells, Array.size_setIfInBounds]
theorem newCells_at (z : Array Value) (d f a : Int) (v : Value) (bD i : Nat) (hi : 4 ≤ i) (hn : i ≠ 187) : (newCells z d f a v bD)[i]? = z[i]? := by
  simp only [newCells, Array.getElem?_setIfInBounds]
  rw [if_neg (by omega), if_neg (by omega), if_neg (by omega), if_neg (by omega), if_neg (by omega)]
def specs : List RSpec := [{ blank := .nothing, comment := .comment 99 false, doctype := .meth 100, others := .meth 101 }, sp_beforeHTML, sp_beforeHead, sp_inHead, sp_afterHead, sp_inText, sp_inBody, sp_inTable, sp_inTableText, sp_inCaption, sp_inColumnGroup, sp_inTableBody, sp_inRow, sp_inCell, sp_inSelect, sp_inSelectInTable, sp_afterBody, sp_behindBody 99 false]
theorem IsRu.one {bm bB bD : Nat} {r : Ru} {v : Value} {w : World} (h : IsRu bm bB bD r v w) : v.oneCell' = true := by
  by_cases hr : r = .nil
  · subst hr; have : v = .nilFunc := h; subst this; rfl
  · obtain ⟨f, a, l, rfl⟩ := h.func hr; rfl
theorem IsMapO.one {bm bB bD : Nat} {R : Option (List (List ByteArray × Ru))} {v : Value} {w : World} (h : IsMapO bm bB bD R v w) : v.oneCell' = true := by
  cases R with
  | none => have : v = .map none := h; subst this; rfl
  | some R => obtain ⟨b, L, rfl, _⟩ := h; rfl
theorem IsRules.one {bm bB bD : Nat} {sp : RSpec} {v0 v1 v2 v3 v4 v5 v6 v7 v8 v9 : Value} {w : World} (h : IsRules bm bB bD sp v0 v1 v2 v3 v4 v5 v6 v7 v8 v9 w) : ∀ v ∈ [v0, v1, v2, v3, v4, v5, v6, v7, v8, v9], v.oneCell' = true := by
  intro v hv
  simp at hv
  rcases hv with rfl | rfl | rfl | rfl | rfl | rfl | rfl | rfl | rfl | rfl
  · exact h.blank.one
  · exact h.char.one
  · exact h.comment.one
  · exact h.doctype.one
  · exact h.textEnd.one
  · exact h.start.one
  · exact h.stop.one
  · exact h.otherStart.one
  · exact h.otherEnd.one
  · exact h.others.one
theorem IsRules.keptB {bm bB bD : Nat} {sp : RSpec} {v0 v1 v2 v3 v4 v5 v6 v7 v8 v9 : Value} {w w' : World} {s : Nat} {c : Array Value} (h : IsRules bm bB bD sp v0 v1 v2 v3 v4 v5 v6 v7 v8 v9 w) (hk : Kept [s] w w') (hs : w.heap[s]? = some (.cells c 180 (0, 0))) : IsRules bm bB bD sp v0 v1 v2 v3 v4 v5 v6 v7 v8 v9 w' :=
  have f : FrN bm w w' := ⟨_, hk, fun k hk' _ => by
    have e := List.mem_singleton.1 hk'
    subst e
    exact .inl ⟨_, _, _, hs, by decide⟩⟩
  ⟨h.blank.fr f, h.char.fr f, h.comment.fr f, h.doctype.fr f, h.textEnd.fr f, h.start.kept1 hk hs f, h.stop.kept1 hk hs f, h.otherStart.fr f, h.otherEnd.fr f, h.others.fr f⟩
def RulesOf (bm bB bD : Nat) (cs : List Value) (W : World) : Prop := cs.length = 180 ∧ ∀ m sp, specs[m]? = some sp → ∃ v0 v1 v2 v3 v4 v5 v6 v7 v8 v9, (cs.drop (10 * m)).take 10 = [v0, v1, v2, v3, v4, v5, v6, v7, v8, v9] ∧ IsRules bm bB bD sp v0 v1 v2 v3 v4 v5 v6 v7 v8 v9 W
theorem RulesOf.keptB {bm bB bD : Nat} {cs : List Value} {w w' : World} {s : Nat} {c : Array Value} (h : RulesOf bm bB bD cs w) (hk : Kept [s] w w') (hs : w.heap[s]? = some (.cells c 180 (0, 0))) : RulesOf bm bB bD cs w' := by
  refine ⟨h.1, fun m sp hm => ?_⟩
  obtain ⟨v0, v1, v2, v3, v4, v5, v6, v7, v8, v9, e, hr⟩ := h.2 m sp hm
  exact ⟨v0, v1, v2, v3, v4, v5, v6, v7, v8, v9, e, hr.keptB hk hs⟩
section
variable {P : Program} {ops : Array Oper} {rest : List Oper} {o : Oper} {a : Act} {w : World} {Q : Exit → Act → World → Prop}
theorem wpList_valueTo (hg : o.guard = none) (d : Option Tmp) (hd : o.dst = d) (v : Value) (hv : (execOp a.eval o).run P w = .ok (.value v) w) (h : wpList P ops Q rest (a.put d v) w) : wpList P ops Q (o :: rest) a w := by
  subst hd
  refine wpList_plain hg fun K hK => ?_
  unfold Oper.wp
  rw [hv]
  exact hK _ _ h
end
structure NewB (bm bB bD : Nat) (d f a : Int) (av : Value) (w W : World) : Prop where
  k : Kept [] w W
  new : w.heap.size ≤ bB
  blk : ∃ c6 cs v1 v2 v3, W.heap[bB]? = some (.cells (putList c6 4 cs) 180 (0, 0)) ∧ c6 = ((((newCells Tryz.zeroCells180 d f a av bD).setIfInBounds 184 v1).setIfInBounds 185 v2).setIfInBounds 186 v3) ∧ RulesOf bm bB bD cs W ∧ Ask bm v1 pSpecial W ∧ Ask bm v2 pImplied W ∧ Ask bm v3 pBounds W
  doc : W.heap[bD]? = some (.cells #[.string ⟨#[]⟩, .slice none 0 0, .pointer none, .slice none 0 0] 140 (0, 0))
  ne : bD ≠ bB
  newD : w.heap.size ≤ bD
theorem three_new (W1 : World) (bm : Nat) (c : Array Value) (W2 : World) (h : W2 = ((W1.alloc (.cells #[.map (some bm)] 92 (0, 0))).alloc (.cells #[.string ⟨#[]⟩, .slice none 0 0, .pointer none, .slice none 0 0] 140 (0, 0))).alloc (.cells c 180 (0, 0))) :
    W2.heap[W1.heap.size]? = some (.cells #[.map (some bm)] 92 (0, 0)) ∧ W2.heap[W1.heap.size + 1]? = some (.cells #[.string ⟨#[]⟩, .slice none 0 0, .pointer none, .slice none 0 0] 140 (0, 0)) ∧ W2.heap[W1.heap.size + 1 + 1]? = some (.cells c 180 (0, 0)) ∧ Kept [] W1 W2 := by
  obtain ⟨h1, h2, h3⟩ := three_blocks W1 (.cells #[.map (some bm)] 92 (0, 0)) (.cells #[.string ⟨#[]⟩, .slice none 0 0, .pointer none, .slice none 0 0] 140 (0, 0)) (.cells c 180 (0, 0))
  subst h
  exact ⟨h1, h2, h3, (((Kept.refl _ _).alloc _).alloc _).alloc _⟩
theorem six_facts {bm bB : Nat} {c : Array Value} {v1 v2 v3 : Value} {W5 : World} (W6 : World) (hW6 : W6 = ((W5.setCell ⟨bB, 184, none⟩ v1).setCell ⟨bB, 185, none⟩ v2).setCell ⟨bB, 186, none⟩ v3) (hB : W5.heap[bB]? = some (.cells c 180 (0, 0))) : W6.heap[bB]? = some (.cells (((c.setIfInBounds 184 v1).setIfInBounds 185 v2).setIfInBounds 186 v3) 180 (0, 0)) ∧ Kept [bB] W5 W6 ∧ FrN bm W5 W6 := by
  have h1 := block_setCell hB 184 v1
  have h2 := block_setCell h1 185 v2
  have h3 := block_setCell h2 186 v3
  have k : Kept [bB] W5 W6 := by
    rw [hW6]
    exact (((Kept.refl [bB] W5).setCell (p := ⟨bB, 184, none⟩) (.inl (by simp)) v1).setCell (p := ⟨bB, 185, none⟩) (.inl (by simp)) v2).setCell (p := ⟨bB, 186, none⟩) (.inl (by simp)) v3
  refine ⟨by rw [hW6]; exact h3, k, ⟨_, k, fun x hx _ => ?_⟩⟩
  have e := List.mem_singleton.1 hx
  subst e
  exact .inl ⟨_, _, _, hB, by decide⟩
set_option maxHeartbeats 8000000 in
set_option maxRecDepth 100000 in
theorem new_ok (d f a : Int) (af : Fn) (aa al : Array Value) (w : World) (ht : Tab w) :
    Calls Tryz.prog 54 #[.agg #[.int .i64 d, .int .i64 f, .int .i64 a], .func af aa al] w fun e W => ∃ bm bB bD, e = .returned (ptrv bB) ∧ NewB bm bB bD d f a (.func af aa al) w W := by
  obtain ⟨w0, hw0, K0, g0, z0⟩ := alloc_named w (.cells #[.int .i64 d, .int .i64 f, .int .i64 a] 71 (0, 0))
  have HT := hide ht
  have HW0 := hide hw0
  have HK0 := hide K0
  have HG0 := hide g0
  have HZ0 := hide z0
  clear ht hw0 K0 g0 z0
  go_enter Tryz.func54, Tryz.ntmps54
  go_wp2_with fail
  rw [← HW0.out]
  refine (newClasses_ok _ (HT.out.fr (bm := 0) (.of_kept0 HK0.out)).1).mono ?_
  rintro e W1 ⟨bm, rfl, hm1, hk1, hb1⟩
  have g1 := hk1.at HG0.out (by simp)
  have c0 : W1.cell? ⟨w.heap.size, 0, none⟩ = some (.int .i64 d) := (cell_at g1 0).trans rfl
  have c1 : W1.cell? ⟨w.heap.size, 1, none⟩ = some (.int .i64 f) := (cell_at g1 1).trans rfl
  have c2 : W1.cell? ⟨w.heap.size, 2, none⟩ = some (.int .i64 a) := (cell_at g1 2).trans rfl
  have hlt := lt_of_block g1
  have HM1 := hide hm1
  have HK1 := hide (HK0.out.trans hk1)
  have HB1 := hide hb1
  clear hm1 hk1 hb1 g1
  go_wp2_with fail
  clear c0 c1 c2 hlt
  obtain ⟨W2, hW2⟩ : ∃ W, W = ((W1.alloc (.cells #[.map (some bm)] 92 (0, 0))).alloc (.cells #[.string ⟨#[]⟩, .slice none 0 0, .pointer none, .slice none 0 0] 140 (0, 0))).alloc (.cells (newCells Tryz.zeroCells180 d f a (.func af aa al) (W1.heap.size + 1)) 180 (0, 0)) := ⟨_, rfl⟩
  obtain ⟨gC, gD, gB, k2⟩ := three_new W1 bm _ W2 hW2
  change Code.wp _ _ _ _ (((W1.alloc (.cells #[.map (some bm)] 92 (0, 0))).alloc (.cells #[.string ⟨#[]⟩, .slice none 0 0, .pointer none, .slice none 0 0] 140 (0, 0))).alloc (.cells (newCells Tryz.zeroCells180 d f a (.func af aa al) (W1.heap.size + 1)) 180 (0, 0)))
  rw [← hW2]
  clear hW2
  obtain ⟨bB, hbB⟩ : ∃ b, b = W1.heap.size + 1 + 1 := ⟨_, rfl⟩
  obtain ⟨bD, hbD⟩ : ∃ b, b = W1.heap.size + 1 := ⟨_, rfl⟩
  obtain ⟨bC, hbC⟩ : ∃ b, b = W1.heap.size := ⟨_, rfl⟩
  rw [← hbB] at gB ⊢
  rw [← hbD] at gB gD ⊢
  rw [← hbC] at gC ⊢
  have hne : bC ≠ bB := by omega
  have HDB := hide (show bD ≠ bB by omega)
  have HLB := hide (show w.heap.size ≤ bB ∧ w.heap.size ≤ bD by have := HK1.out.size; omega)
  have HGC := hide gC
  have HGD := hide gD
  have HGB := hide gB
  have HM2 := hide (HM1.out.kept k2 (by simp))
  have HK2 := hide (HK1.out.trans k2)
  have HBM := hide (show bm < W2.heap.size by
    obtain ⟨es, ck, ha, _⟩ := HM2.out
    exact (Array.getElem?_eq_some_iff.1 ha).1)
  clear gC gD gB k2 hbB hbD hbC HM1
  have CA : Hid (∀ (c : Nat) (W : World), c < 16 → Kept [] W2 W → Calls Tryz.prog 41 #[.agg #[.map (some bm)], .int .i64 (c : Int)] W fun e w' => (∃ v, e = .returned v ∧ Ask bm v (isC classL c) w') ∧ Kept [] W w') := hide (fun c W hc hk => are_Ask bm c classL W (HM2.out.kept hk (by simp)) hc class16)
  have cc0 : W2.cell? ⟨bC, 0, none⟩ = some (.map (some bm)) := (cell_at HGC.out 0).trans rfl
  go_region_held3 (fun w' => w'.cell? ⟨bC, 0, none⟩ = some (.map (some bm))) ((first | assumption | go_keep | exact (cell_setCell_ne hne).trans (by assumption) | exact (cell_setCell_ne hne).trans ((cell_setCell_ne hne).trans (by assumption)) | exact (cell_setCell_ne hne).trans ((cell_setCell_ne hne).trans ((cell_setCell_ne hne).trans (by assumption))))) ((first | (go_at_call 41; refine (CA.out 2 _ (by decide) (Kept.refl _ _).drew).mono ?_; rintro e W3 ⟨⟨v1, rfl, ha1⟩, hk1⟩; obtain ⟨vf1, va1, vl1, hv1⟩ := ha1.func; subst hv1; have HA1 := hide ha1; have HKa1 : Hid (Kept [] W2 W3) := hide (Kept.trans (Kept.refl _ _).drew hk1); have cc1 : W3.cell? ⟨bC, 0, none⟩ = some (.map (some bm)) := (cell_at (HKa1.out.at HGC.out (by simp)) 0).trans rfl; have HFr1 := hide (FrN.of_kept0 (bm := bm) hk1); clear ha1 hk1) | (go_at_call 41; refine (CA.out 4 _ (by decide) HKa1.out).mono ?_; rintro e W4 ⟨⟨v2, rfl, ha2⟩, hk2⟩; obtain ⟨vf2, va2, vl2, hv2⟩ := ha2.func; subst hv2; have HA2 := hide ha2; have HKa2 : Hid (Kept [] W2 W4) := hide (Kept.trans HKa1.out hk2); have cc2 : W4.cell? ⟨bC, 0, none⟩ = some (.map (some bm)) := (cell_at (HKa2.out.at HGC.out (by simp)) 0).trans rfl; have HFr2 := hide (FrN.of_kept0 (bm := bm) hk2); clear ha2 hk2) | (go_at_call 41; refine (CA.out 8 _ (by decide) HKa2.out).mono ?_; rintro e W5 ⟨⟨v3, rfl, ha3⟩, hk3⟩; obtain ⟨vf3, va3, vl3, hv3⟩ := ha3.func; subst hv3; have HA3 := hide ha3; have HKa3 : Hid (Kept [] W2 W5) := hide (Kept.trans HKa2.out hk3); have cc3 : W5.cell? ⟨bC, 0, none⟩ = some (.map (some bm)) := (cell_at (HKa3.out.at HGC.out (by simp)) 0).trans rfl; have HFr3 := hide (FrN.of_kept0 (bm := bm) hk3); clear ha3 hk3; have HG5 := hide (HKa3.out.at HGB.out (by simp)); have x184 : W5.cell? ⟨bB, 184, none⟩ = some .nilFunc := (cell_at HG5.out 184).trans ((newCells_at _ d f a _ bD 184 (by decide) (by decide)).trans (by kernel_rfl)); have y184 := free_at HG5.out 184; have x185 : W5.cell? ⟨bB, 185, none⟩ = some .nilFunc := (cell_at HG5.out 185).trans ((newCells_at _ d f a _ bD 185 (by decide) (by decide)).trans (by kernel_rfl)); have y185 := free_at HG5.out 185; have x186 : W5.cell? ⟨bB, 186, none⟩ = some .nilFunc := (cell_at HG5.out 186).trans ((newCells_at _ d f a _ bD 186 (by decide) (by decide)).trans (by kernel_rfl)); have y186 := free_at HG5.out 186)))
  obtain ⟨W6, hW6⟩ : ∃ W, W = ((W5.setCell ⟨bB, 184, none⟩ (.func vf1 va1 vl1)).setCell ⟨bB, 185, none⟩ (.func vf2 va2 vl2)).setCell ⟨bB, 186, none⟩ (.func vf3 va3 vl3) := ⟨_, rfl⟩
  rw [← hW6]
  obtain ⟨g6, k6, f6⟩ := six_facts (bm := bm) W6 hW6 HG5.out
  have K6 : Kept [] w W6 := (HK2.out.trans HKa3.out).next k6 (fun x hx => .inr (by rw [List.mem_singleton.1 hx]; exact HLB.out.1))
  have A1 := HA1.out.fr (HFr2.out.trans (HFr3.out.trans f6))
  have A2 := HA2.out.fr (HFr3.out.trans f6)
  have A3 := HA3.out.fr f6
  have hd6 : W6.heap[bD]? = some (.cells #[.string ⟨#[]⟩, .slice none 0 0, .pointer none, .slice none 0 0] 140 (0, 0)) := k6.at (HKa3.out.at HGD.out (by simp)) (by have := HDB.out; simpa using this)
  have hbm6 : bm < W6.heap.size := Nat.lt_of_lt_of_le (Nat.lt_of_lt_of_le HBM.out HKa3.out.size) k6.size
  have PP : Hid (∀ W, Kept [] W6 W → BD bB bD W ∧ BS bm bB W ∧ Tab W ∧ bm < W.heap.size) := by
    have b0 : BD bB bD W6 := ⟨(cell_at g6 187).trans (by
      simp only [newCells, Array.getElem?_setIfInBounds, Array.size_setIfInBounds, zc_size]; rfl), lt_of_block g6⟩
    have b1 : BS bm bB W6 := ⟨lt_of_block g6, .func vf1 va1 vl1, (cell_at g6 184).trans (by
      simp only [newCells, Array.getElem?_setIfInBounds, Array.size_setIfInBounds, zc_size]; rfl), A1⟩
    exact hide (fun W hk => ⟨b0.kept0 hk, b1.kept0 hk, HT.out.fr (.of_kept0 (bm := bm) (K6.trans hk)), Nat.lt_of_lt_of_le hbm6 hk.size⟩)
  have HA6 := hide (And.intro A1 (And.intro A2 A3))
  have HG6 := hide g6
  have HK6 := hide K6
  have HD6 := hide hd6
  have HN6 := hide HLB.out
  have HE6 := hide HDB.out
  have HK7 : Hid (Kept [] W6 W6) := hide (Kept.refl _ _)
  clear hW6 g6 k6 f6 K6 A1 A2 A3 hd6 hbm6 cc0 cc1 cc2 cc3 x184 x185 x186 y184 y185 y186 HG5 HKa1 HKa2 HKa3 HFr1 HFr2 HFr3 HA1 HA2 HA3 HGC HGD HGB HM2 HK2 HBM HB1 HK1 HW0 HK0 HG0 HZ0 HT CA hne HDB HLB
  go_wp2_with fail
  refine (r_initial bm bB bD _ (PP.out _ HK7.out).1 (PP.out _ HK7.out).2.2.1 (PP.out _ HK7.out).2.2.2).mono ?_
  rintro e W7 ⟨v0_0, v0_1, v0_2, v0_3, v0_4, v0_5, v0_6, v0_7, v0_8, v0_9, rfl, hr, hk⟩
  have HR0 := hide hr
  have HK8 := hide (HK7.out.trans hk)
  have HQ0 := hide hk
  clear hr hk
  go_wp2_with fail
  refine (r_beforeHTML bm bB bD _ (PP.out _ HK8.out).1 (PP.out _ HK8.out).2.2.1 (PP.out _ HK8.out).2.2.2).mono ?_
  rintro e W8 ⟨v1_0, v1_1, v1_2, v1_3, v1_4, v1_5, v1_6, v1_7, v1_8, v1_9, rfl, hr, hk⟩
  have HR1 := hide hr
  have HK9 := hide (HK8.out.trans hk)
  have HQ1 := hide hk
  clear hr hk
  go_wp2_with fail
  refine (r_beforeHead bm bB bD _ (PP.out _ HK9.out).1 (PP.out _ HK9.out).2.2.1 (PP.out _ HK9.out).2.2.2).mono ?_
  rintro e W9 ⟨v2_0, v2_1, v2_2, v2_3, v2_4, v2_5, v2_6, v2_7, v2_8, v2_9, rfl, hr, hk⟩
  have HR2 := hide hr
  have HK10 := hide (HK9.out.trans hk)
  have HQ2 := hide hk
  clear hr hk
  go_wp2_with fail
  refine (r_inHead bm bB bD _ (PP.out _ HK10.out).1 (PP.out _ HK10.out).2.2.1 (PP.out _ HK10.out).2.2.2).mono ?_
  rintro e W10 ⟨v3_0, v3_1, v3_2, v3_3, v3_4, v3_5, v3_6, v3_7, v3_8, v3_9, rfl, hr, hk⟩
  have HR3 := hide hr
  have HK11 := hide (HK10.out.trans hk)
  have HQ3 := hide hk
  clear hr hk
  go_wp2_with fail
  refine (r_afterHead bm bB bD _ (PP.out _ HK11.out).1 (PP.out _ HK11.out).2.2.1 (PP.out _ HK11.out).2.2.2).mono ?_
  rintro e W11 ⟨v4_0, v4_1, v4_2, v4_3, v4_4, v4_5, v4_6, v4_7, v4_8, v4_9, rfl, hr, hk⟩
  have HR4 := hide hr
  have HK12 := hide (HK11.out.trans hk)
  have HQ4 := hide hk
  clear hr hk
  go_wp2_with fail
  refine (r_inText bm bB bD _ (PP.out _ HK12.out).1 (PP.out _ HK12.out).2.2.1 (PP.out _ HK12.out).2.2.2).mono ?_
  rintro e W12 ⟨v5_0, v5_1, v5_2, v5_3, v5_4, v5_5, v5_6, v5_7, v5_8, v5_9, rfl, hr, hk⟩
  have HR5 := hide hr
  have HK13 := hide (HK12.out.trans hk)
  have HQ5 := hide hk
  clear hr hk
  go_wp2_with fail
  refine (r_inBody bm bB bD _ (PP.out _ HK13.out).2.1 (PP.out _ HK13.out).2.2.1 (PP.out _ HK13.out).2.2.2).mono ?_
  rintro e W13 ⟨v6_0, v6_1, v6_2, v6_3, v6_4, v6_5, v6_6, v6_7, v6_8, v6_9, rfl, hr, hk⟩
  have HR6 := hide hr
  have HK14 := hide (HK13.out.trans hk)
  have HQ6 := hide hk
  clear hr hk
  go_wp2_with fail
  refine (r_inTable bm bB bD _ (PP.out _ HK14.out).1 (PP.out _ HK14.out).2.2.1 (PP.out _ HK14.out).2.2.2).mono ?_
  rintro e W14 ⟨v7_0, v7_1, v7_2, v7_3, v7_4, v7_5, v7_6, v7_7, v7_8, v7_9, rfl, hr, hk⟩
  have HR7 := hide hr
  have HK15 := hide (HK14.out.trans hk)
  have HQ7 := hide hk
  clear hr hk
  go_wp2_with fail
  refine (r_inTableText bm bB bD _ (PP.out _ HK15.out).1 (PP.out _ HK15.out).2.2.1 (PP.out _ HK15.out).2.2.2).mono ?_
  rintro e W15 ⟨v8_0, v8_1, v8_2, v8_3, v8_4, v8_5, v8_6, v8_7, v8_8, v8_9, rfl, hr, hk⟩
  have HR8 := hide hr
  have HK16 := hide (HK15.out.trans hk)
  have HQ8 := hide hk
  clear hr hk
  go_wp2_with fail
  refine (r_inCaption bm bB bD _ (PP.out _ HK16.out).1 (PP.out _ HK16.out).2.2.1 (PP.out _ HK16.out).2.2.2).mono ?_
  rintro e W16 ⟨v9_0, v9_1, v9_2, v9_3, v9_4, v9_5, v9_6, v9_7, v9_8, v9_9, rfl, hr, hk⟩
  have HR9 := hide hr
  have HK17 := hide (HK16.out.trans hk)
  have HQ9 := hide hk
  clear hr hk
  go_wp2_with fail
  refine (r_inColumnGroup bm bB bD _ (PP.out _ HK17.out).1 (PP.out _ HK17.out).2.2.1 (PP.out _ HK17.out).2.2.2).mono ?_
  rintro e W17 ⟨v10_0, v10_1, v10_2, v10_3, v10_4, v10_5, v10_6, v10_7, v10_8, v10_9, rfl, hr, hk⟩
  have HR10 := hide hr
  have HK18 := hide (HK17.out.trans hk)
  have HQ10 := hide hk
  clear hr hk
  go_wp2_with fail
  refine (r_inTableBody bm bB bD _ (PP.out _ HK18.out).1 (PP.out _ HK18.out).2.2.1 (PP.out _ HK18.out).2.2.2).mono ?_
  rintro e W18 ⟨v11_0, v11_1, v11_2, v11_3, v11_4, v11_5, v11_6, v11_7, v11_8, v11_9, rfl, hr, hk⟩
  have HR11 := hide hr
  have HK19 := hide (HK18.out.trans hk)
  have HQ11 := hide hk
  clear hr hk
  go_wp2_with fail
  refine (r_inRow bm bB bD _ (PP.out _ HK19.out).1 (PP.out _ HK19.out).2.2.1 (PP.out _ HK19.out).2.2.2).mono ?_
  rintro e W19 ⟨v12_0, v12_1, v12_2, v12_3, v12_4, v12_5, v12_6, v12_7, v12_8, v12_9, rfl, hr, hk⟩
  have HR12 := hide hr
  have HK20 := hide (HK19.out.trans hk)
  have HQ12 := hide hk
  clear hr hk
  go_wp2_with fail
  refine (r_inCell bm bB bD _ (PP.out _ HK20.out).1 (PP.out _ HK20.out).2.2.1 (PP.out _ HK20.out).2.2.2).mono ?_
  rintro e W20 ⟨v13_0, v13_1, v13_2, v13_3, v13_4, v13_5, v13_6, v13_7, v13_8, v13_9, rfl, hr, hk⟩
  have HR13 := hide hr
  have HK21 := hide (HK20.out.trans hk)
  have HQ13 := hide hk
  clear hr hk
  go_wp2_with fail
  refine (r_inSelect bm bB bD _ (PP.out _ HK21.out).1 (PP.out _ HK21.out).2.2.1 (PP.out _ HK21.out).2.2.2).mono ?_
  rintro e W21 ⟨v14_0, v14_1, v14_2, v14_3, v14_4, v14_5, v14_6, v14_7, v14_8, v14_9, rfl, hr, hk⟩
  have HR14 := hide hr
  have HK22 := hide (HK21.out.trans hk)
  have HQ14 := hide hk
  clear hr hk
  go_wp2_with fail
  refine (r_inSelectInTable bm bB bD _ (PP.out _ HK22.out).1 (PP.out _ HK22.out).2.2.1 (PP.out _ HK22.out).2.2.2).mono ?_
  rintro e W22 ⟨v15_0, v15_1, v15_2, v15_3, v15_4, v15_5, v15_6, v15_7, v15_8, v15_9, rfl, hr, hk⟩
  have HR15 := hide hr
  have HK23 := hide (HK22.out.trans hk)
  have HQ15 := hide hk
  clear hr hk
  go_wp2_with fail
  refine (r_afterBody bm bB bD _ (PP.out _ HK23.out).1 (PP.out _ HK23.out).2.2.1 (PP.out _ HK23.out).2.2.2).mono ?_
  rintro e W23 ⟨v16_0, v16_1, v16_2, v16_3, v16_4, v16_5, v16_6, v16_7, v16_8, v16_9, rfl, hr, hk⟩
  have HR16 := hide hr
  have HK24 := hide (HK23.out.trans hk)
  have HQ16 := hide hk
  clear hr hk
  go_wp2_with fail
  refine (r_afterAfterBody bm bB bD _ (PP.out _ HK24.out).1 (PP.out _ HK24.out).2.2.1 (PP.out _ HK24.out).2.2.2).mono ?_
  rintro e W24 ⟨v17_0, v17_1, v17_2, v17_3, v17_4, v17_5, v17_6, v17_7, v17_8, v17_9, rfl, hr, hk⟩
  have HR17 := hide hr
  have HK25 := hide (HK24.out.trans hk)
  have HQ17 := hide hk
  clear hr hk
  have E17 : Kept [] W24 W24 := Kept.refl _ _
  have E16 : Kept [] W23 W24 := HQ17.out.trans E17
  have E15 : Kept [] W22 W24 := HQ16.out.trans E16
  have E14 : Kept [] W21 W24 := HQ15.out.trans E15
  have E13 : Kept [] W20 W24 := HQ14.out.trans E14
  have E12 : Kept [] W19 W24 := HQ13.out.trans E13
  have E11 : Kept [] W18 W24 := HQ12.out.trans E12
  have E10 : Kept [] W17 W24 := HQ11.out.trans E11
  have E9 : Kept [] W16 W24 := HQ10.out.trans E10
  have E8 : Kept [] W15 W24 := HQ9.out.trans E9
  have E7 : Kept [] W14 W24 := HQ8.out.trans E8
  have E6 : Kept [] W13 W24 := HQ7.out.trans E7
  have E5 : Kept [] W12 W24 := HQ6.out.trans E6
  have E4 : Kept [] W11 W24 := HQ5.out.trans E5
  have E3 : Kept [] W10 W24 := HQ4.out.trans E4
  have E2 : Kept [] W9 W24 := HQ3.out.trans E3
  have E1 : Kept [] W8 W24 := HQ2.out.trans E2
  have E0 : Kept [] W7 W24 := HQ1.out.trans E1
  obtain ⟨cs, hcs⟩ : ∃ c : List Value, c = [v0_0, v0_1, v0_2, v0_3, v0_4, v0_5, v0_6, v0_7, v0_8, v0_9, v1_0, v1_1, v1_2, v1_3, v1_4, v1_5, v1_6, v1_7, v1_8, v1_9, v2_0, v2_1, v2_2, v2_3, v2_4, v2_5, v2_6, v2_7, v2_8, v2_9, v3_0, v3_1, v3_2, v3_3, v3_4, v3_5, v3_6, v3_7, v3_8, v3_9, v4_0, v4_1, v4_2, v4_3, v4_4, v4_5, v4_6, v4_7, v4_8, v4_9, v5_0, v5_1, v5_2, v5_3, v5_4, v5_5, v5_6, v5_7, v5_8, v5_9, v6_0, v6_1, v6_2, v6_3, v6_4, v6_5, v6_6, v6_7, v6_8, v6_9, v7_0, v7_1, v7_2, v7_3, v7_4, v7_5, v7_6, v7_7, v7_8, v7_9, v8_0, v8_1, v8_2, v8_3, v8_4, v8_5, v8_6, v8_7, v8_8, v8_9, v9_0, v9_1, v9_2, v9_3, v9_4, v9_5, v9_6, v9_7, v9_8, v9_9, v10_0, v10_1, v10_2, v10_3, v10_4, v10_5, v10_6, v10_7, v10_8, v10_9, v11_0, v11_1, v11_2, v11_3, v11_4, v11_5, v11_6, v11_7, v11_8, v11_9, v12_0, v12_1, v12_2, v12_3, v12_4, v12_5, v12_6, v12_7, v12_8, v12_9, v13_0, v13_1, v13_2, v13_3, v13_4, v13_5, v13_6, v13_7, v13_8, v13_9, v14_0, v14_1, v14_2, v14_3, v14_4, v14_5, v14_6, v14_7, v14_8, v14_9, v15_0, v15_1, v15_2, v15_3, v15_4, v15_5, v15_6, v15_7, v15_8, v15_9, v16_0, v16_1, v16_2, v16_3, v16_4, v16_5, v16_6, v16_7, v16_8, v16_9, v17_0, v17_1, v17_2, v17_3, v17_4, v17_5, v17_6, v17_7, v17_8, v17_9] := ⟨_, rfl⟩
  have HC := hide hcs
  have HRu : Hid (RulesOf bm bB bD cs W24) := by
    refine hide ⟨by rw [hcs]; rfl, ?_⟩
    rw [hcs]
    intro m sp hm
    have hlt : m < 18 := (List.getElem?_eq_some_iff.1 hm).1
    obtain rfl | rfl | rfl | rfl | rfl | rfl | rfl | rfl | rfl | rfl | rfl | rfl | rfl | rfl | rfl | rfl | rfl | rfl : m = 0 ∨ m = 1 ∨ m = 2 ∨ m = 3 ∨ m = 4 ∨ m = 5 ∨ m = 6 ∨ m = 7 ∨ m = 8 ∨ m = 9 ∨ m = 10 ∨ m = 11 ∨ m = 12 ∨ m = 13 ∨ m = 14 ∨ m = 15 ∨ m = 16 ∨ m = 17 := by omega
    · have e := Option.some.inj hm
      subst e
      exact ⟨_, _, _, _, _, _, _, _, _, _, rfl, HR0.out.kept0 E0⟩
    · have e := Option.some.inj hm
      subst e
      exact ⟨_, _, _, _, _, _, _, _, _, _, rfl, HR1.out.kept0 E1⟩
    · have e := Option.some.inj hm
      subst e
      exact ⟨_, _, _, _, _, _, _, _, _, _, rfl, HR2.out.kept0 E2⟩
    · have e := Option.some.inj hm
      subst e
      exact ⟨_, _, _, _, _, _, _, _, _, _, rfl, HR3.out.kept0 E3⟩
    · have e := Option.some.inj hm
      subst e
      exact ⟨_, _, _, _, _, _, _, _, _, _, rfl, HR4.out.kept0 E4⟩
    · have e := Option.some.inj hm
      subst e
      exact ⟨_, _, _, _, _, _, _, _, _, _, rfl, HR5.out.kept0 E5⟩
    · have e := Option.some.inj hm
      subst e
      exact ⟨_, _, _, _, _, _, _, _, _, _, rfl, HR6.out.kept0 E6⟩
    · have e := Option.some.inj hm
      subst e
      exact ⟨_, _, _, _, _, _, _, _, _, _, rfl, HR7.out.kept0 E7⟩
    · have e := Option.some.inj hm
      subst e
      exact ⟨_, _, _, _, _, _, _, _, _, _, rfl, HR8.out.kept0 E8⟩
    · have e := Option.some.inj hm
      subst e
      exact ⟨_, _, _, _, _, _, _, _, _, _, rfl, HR9.out.kept0 E9⟩
    · have e := Option.some.inj hm
      subst e
      exact ⟨_, _, _, _, _, _, _, _, _, _, rfl, HR10.out.kept0 E10⟩
    · have e := Option.some.inj hm
      subst e
      exact ⟨_, _, _, _, _, _, _, _, _, _, rfl, HR11.out.kept0 E11⟩
    · have e := Option.some.inj hm
      subst e
      exact ⟨_, _, _, _, _, _, _, _, _, _, rfl, HR12.out.kept0 E12⟩
    · have e := Option.some.inj hm
      subst e
      exact ⟨_, _, _, _, _, _, _, _, _, _, rfl, HR13.out.kept0 E13⟩
    · have e := Option.some.inj hm
      subst e
      exact ⟨_, _, _, _, _, _, _, _, _, _, rfl, HR14.out.kept0 E14⟩
    · have e := Option.some.inj hm
      subst e
      exact ⟨_, _, _, _, _, _, _, _, _, _, rfl, HR15.out.kept0 E15⟩
    · have e := Option.some.inj hm
      subst e
      exact ⟨_, _, _, _, _, _, _, _, _, _, rfl, HR16.out.kept0 E16⟩
    · have e := Option.some.inj hm
      subst e
      exact ⟨_, _, _, _, _, _, _, _, _, _, rfl, HR17.out.kept0 E17⟩
  have HOne : Hid (cs.toArray.all (·.oneCell') = true) := by
    refine hide (all_oneCell_toArray ?_)
    rw [hcs, show [v0_0, v0_1, v0_2, v0_3, v0_4, v0_5, v0_6, v0_7, v0_8, v0_9, v1_0, v1_1, v1_2, v1_3, v1_4, v1_5, v1_6, v1_7, v1_8, v1_9, v2_0, v2_1, v2_2, v2_3, v2_4, v2_5, v2_6, v2_7, v2_8, v2_9, v3_0, v3_1, v3_2, v3_3, v3_4, v3_5, v3_6, v3_7, v3_8, v3_9, v4_0, v4_1, v4_2, v4_3, v4_4, v4_5, v4_6, v4_7, v4_8, v4_9, v5_0, v5_1, v5_2, v5_3, v5_4, v5_5, v5_6, v5_7, v5_8, v5_9, v6_0, v6_1, v6_2, v6_3, v6_4, v6_5, v6_6, v6_7, v6_8, v6_9, v7_0, v7_1, v7_2, v7_3, v7_4, v7_5, v7_6, v7_7, v7_8, v7_9, v8_0, v8_1, v8_2, v8_3, v8_4, v8_5, v8_6, v8_7, v8_8, v8_9, v9_0, v9_1, v9_2, v9_3, v9_4, v9_5, v9_6, v9_7, v9_8, v9_9, v10_0, v10_1, v10_2, v10_3, v10_4, v10_5, v10_6, v10_7, v10_8, v10_9, v11_0, v11_1, v11_2, v11_3, v11_4, v11_5, v11_6, v11_7, v11_8, v11_9, v12_0, v12_1, v12_2, v12_3, v12_4, v12_5, v12_6, v12_7, v12_8, v12_9, v13_0, v13_1, v13_2, v13_3, v13_4, v13_5, v13_6, v13_7, v13_8, v13_9, v14_0, v14_1, v14_2, v14_3, v14_4, v14_5, v14_6, v14_7, v14_8, v14_9, v15_0, v15_1, v15_2, v15_3, v15_4, v15_5, v15_6, v15_7, v15_8, v15_9, v16_0, v16_1, v16_2, v16_3, v16_4, v16_5, v16_6, v16_7, v16_8, v16_9, v17_0, v17_1, v17_2, v17_3, v17_4, v17_5, v17_6, v17_7, v17_8, v17_9] = [v0_0, v0_1, v0_2, v0_3, v0_4, v0_5, v0_6, v0_7, v0_8, v0_9] ++ ([v1_0, v1_1, v1_2, v1_3, v1_4, v1_5, v1_6, v1_7, v1_8, v1_9] ++ ([v2_0, v2_1, v2_2, v2_3, v2_4, v2_5, v2_6, v2_7, v2_8, v2_9] ++ ([v3_0, v3_1, v3_2, v3_3, v3_4, v3_5, v3_6, v3_7, v3_8, v3_9] ++ ([v4_0, v4_1, v4_2, v4_3, v4_4, v4_5, v4_6, v4_7, v4_8, v4_9] ++ ([v5_0, v5_1, v5_2, v5_3, v5_4, v5_5, v5_6, v5_7, v5_8, v5_9] ++ ([v6_0, v6_1, v6_2, v6_3, v6_4, v6_5, v6_6, v6_7, v6_8, v6_9] ++ ([v7_0, v7_1, v7_2, v7_3, v7_4, v7_5, v7_6, v7_7, v7_8, v7_9] ++ ([v8_0, v8_1, v8_2, v8_3, v8_4, v8_5, v8_6, v8_7, v8_8, v8_9] ++ ([v9_0, v9_1, v9_2, v9_3, v9_4, v9_5, v9_6, v9_7, v9_8, v9_9] ++ ([v10_0, v10_1, v10_2, v10_3, v10_4, v10_5, v10_6, v10_7, v10_8, v10_9] ++ ([v11_0, v11_1, v11_2, v11_3, v11_4, v11_5, v11_6, v11_7, v11_8, v11_9] ++ ([v12_0, v12_1, v12_2, v12_3, v12_4, v12_5, v12_6, v12_7, v12_8, v12_9] ++ ([v13_0, v13_1, v13_2, v13_3, v13_4, v13_5, v13_6, v13_7, v13_8, v13_9] ++ ([v14_0, v14_1, v14_2, v14_3, v14_4, v14_5, v14_6, v14_7, v14_8, v14_9] ++ ([v15_0, v15_1, v15_2, v15_3, v15_4, v15_5, v15_6, v15_7, v15_8, v15_9] ++ ([v16_0, v16_1, v16_2, v16_3, v16_4, v16_5, v16_6, v16_7, v16_8, v16_9] ++ ([v17_0, v17_1, v17_2, v17_3, v17_4, v17_5, v17_6, v17_7, v17_8, v17_9]))))))))))))))))) from rfl]
    simp only [List.mem_append]
    rintro v (h | h | h | h | h | h | h | h | h | h | h | h | h | h | h | h | h | h)
    · exact HR0.out.one v h
    · exact HR1.out.one v h
    · exact HR2.out.one v h
    · exact HR3.out.one v h
    · exact HR4.out.one v h
    · exact HR5.out.one v h
    · exact HR6.out.one v h
    · exact HR7.out.one v h
    · exact HR8.out.one v h
    · exact HR9.out.one v h
    · exact HR10.out.one v h
    · exact HR11.out.one v h
    · exact HR12.out.one v h
    · exact HR13.out.one v h
    · exact HR14.out.one v h
    · exact HR15.out.one v h
    · exact HR16.out.one v h
    · exact HR17.out.one v h
  have HG24 := hide (HK25.out.at HG6.out (by simp))
  have HTh : Hid (W24.there bB 4 cs.toArray.size) := by
    refine hide (fun j hj => ⟨?_, free_at HG24.out _⟩)
    have : cs.toArray.size = 180 := by rw [hcs]; rfl
    rw [cell_at HG24.out, Array.getElem?_eq_getElem (by simp only [Array.size_setIfInBounds, newCells_size, zc_size]; omega)]
    rfl
  clear E0 E1 E2 E3 E4 E5 E6 E7 E8 E9 E10 E11 E12 E13 E14 E15 E16 E17
  rename_i KK hKK
  refine hKK _ _ ?_
  clear hKK
  refine wpList_buildTo rfl 173 _ rfl _ rfl cs.toArray (by rw [HC.out]; kernel_rfl) ?_
  clear HC hcs
  refine wpList_valueTo rfl _ rfl (ptrv bB) (by kernel_rfl) ?_
  refine wpList_valueTo rfl _ rfl (.pointer (some ⟨bB, 4, none⟩)) (by kernel_rfl) ?_
  refine wpList_store_mid rfl 173 _ _ rfl bB 4 cs.toArray rfl rfl HTh.out (by rw [show cs.toArray.size = 180 from HRu.out.1]; kernel_rfl) HOne.out ?_
  obtain ⟨W25, hW25⟩ : ∃ W, W = W24.setCells bB 4 cs.toArray.toList := ⟨_, rfl⟩
  rw [← hW25]
  have k25 : Kept [bB] W24 W25 := by rw [hW25]; exact Kept.setCells (.inl (by simp)) _ _ (Kept.refl _ _)
  have f25 : FrN bm W24 W25 := ⟨_, k25, fun x hx _ => by
    have e := List.mem_singleton.1 hx
    subst e
    exact .inl ⟨_, _, _, HG24.out, by decide⟩⟩
  have K25 : Kept [] w W25 := (HK6.out.trans HK25.out).next k25 (fun x hx => .inr (by rw [List.mem_singleton.1 hx]; exact HN6.out.1))
  have hb25 := block_setCells cs W24 bB _ _ _ 4 HG24.out
  rw [show W24.setCells bB 4 cs = W25 from hW25.symm] at hb25
  have FN : Hid (NewB bm bB bD d f a (.func af aa al) w W25) := by
    have f6 : FrN bm W6 W25 := (FrN.of_kept0 HK25.out).trans f25
    exact hide ⟨K25, HN6.out.1, ⟨_, cs, _, _, _, hb25, rfl, HRu.out.keptB k25 HG24.out, HA6.out.1.fr f6, HA6.out.2.1.fr f6, HA6.out.2.2.fr f6⟩, k25.at (HK25.out.at HD6.out (by simp)) (by have := HE6.out; simpa using this), HE6.out, HN6.out.2⟩
  clear k25 f25 K25 hb25 hW25 HRu HOne HG24 HTh HA6 HG6 HK6 HD6 HN6 HE6 PP
  generalize Value.agg cs.toArray = big
  rename_i KK hKK
  refine hKK _ _ ?_
  clear hKK
  simp only [Act.put, List.setIfInBounds_toArray, List.set_cons_zero, List.set_cons_succ]
  go_wp2
  go_ret
  exact ⟨bm, bB, bD, rfl, FN.out⟩
end Go.Proofs.YtlhhgenpcjjajaaGreatDoor
namespace Go.Proofs.YtlhhgenpcjjajaaGreatDoor
open Go.RowKit
structure Loc where
  at' : Nat → Nat
  av : Nat → Value
  kv : Nat → Value
  ov : Value
  cv : Value
  wv : Value
structure Env where
  bm : Nat
  bB : Nat
  bR : Nat
  C0 : Array Value
  R0 : Array Value
  iOf : Nat
  w0 : World
  tv : Value
  ta : List (ByteArray × ByteArray)
  bs : Nat
def Nd.map (f : Nat → Nat) : Nd → Nd
  | .el k => .el (f k)
  | .tx k => .tx (f k)
  | .cm k => .cm (f k)
  | .dt k => .dt (f k)
abbrev omap (f : Nat → Nat) (x : Option Nat) : Option Nat := x.map f
def flat (ats : List (ByteArray × ByteArray)) : List Value := ats.flatMap fun a => [.string a.1, .string a.2]
abbrev Atr (w : World) (v : Value) (ats : List (ByteArray × ByteArray)) : Prop := w.ownsRow 0 299 2 v ats.length (flat ats)
abbrev chv (x : Nat × Nat × ByteArray) : Value := .iface 188 (.agg #[.int .i64 (x.1 : Int), .int .i64 (x.2.1 : Int), .string x.2.2])
def NodeAt (bs : Nat) (L : Loc) (w : World) (i : Nat) : ANd → Prop
  | .el e => El bs w (L.at' i) e.name (L.av i) (omap L.at' e.par) (L.kv i) (e.kids.map (Nd.map L.at')) ∧ Atr w (L.av i) e.attrs ∧ e.attrs.length ≤ 4096
  | .tx s => w.heap[L.at' i]? = some (.cells #[.string s] 284 (0, 0))
  | .cm s => w.heap[L.at' i]? = some (.cells #[.string s] 239 (0, 0))
  | .dt s => w.heap[L.at' i]? = some (.cells #[.string s] 243 (0, 0))
structure BCells (E : Env) (L : Loc) (σ : Ab) (C : Array Value) : Prop where
  size : C.size = 199
  low : ∀ i, i < 188 → C[i]? = E.C0[i]?
  opn : C[188]? = some L.ov
  act : C[189]? = some L.cv
  head : C[190]? = some (enc (omap L.at' σ.head))
  form : C[191]? = some (enc (omap L.at' σ.form))
  mode : C[192]? = some (.int .i64 (σ.mode : Int))
  kept : C[193]? = some (.int .i64 (σ.kept : Int))
  wait : C[194]? = some L.wv
  fost : C[195]? = some (.bool σ.fostering)
  quirks : C[196]? = some (.bool σ.quirks)
  at' : C[197]? = some (.int .i64 (σ.at' : Int))
  behind : C[198]? = some (.bool σ.behind)
structure EnvOk (E : Env) (bD : Nat) : Prop where
  rules : ∃ cs, (∀ k, k < 180 → E.C0[4 + k]? = cs[k]?) ∧ RulesOf E.bm E.bB bD cs E.w0
  txt : E.C0[3]? = some (.func (.func 55) #[.pointer (some ⟨E.bR, 0, none⟩)] #[])
  spec : ∃ v, E.C0[184]? = some v ∧ Ask E.bm v pSpecial E.w0
  impl : ∃ v, E.C0[185]? = some v ∧ Ask E.bm v pImplied E.w0
  bnds : ∃ v, E.C0[186]? = some v ∧ Ask E.bm v pBounds E.w0
  doc : E.C0[187]? = some (.pointer (some ⟨bD, 0, none⟩))
structure Rel (E : Env) (L : Loc) (σ : Ab) (w : World) : Prop where
  fr : Fr E.bs E.w0 w
  env : EnvOk E (L.at' 0)
  lim : E.C0[0]? = some (.int .i64 (σ.dep : Int)) ∧ E.C0[1]? = some (.int .i64 (σ.frm : Int)) ∧ E.C0[2]? = some (.int .i64 (σ.atl : Int)) ∧ σ.dep ≤ 64 ∧ σ.frm ≤ 32 ∧ σ.atl ≤ 16
  nds : ∀ i nd, σ.nodes[i]? = some nd → NodeAt E.bs L w i nd
  inj : ∀ i j, L.at' i = L.at' j → i = j
  kne : ∀ i j g, i < σ.nodes.length → j < σ.nodes.length → i ≠ j → (L.kv i).ownBlock = some g → (L.kv j).ownBlock ≠ some g
  kel : ∀ i, i < σ.nodes.length → σ.el? i = none → (L.kv i).ownBlock = none
  uq : ∀ i j e g, σ.el? i = some e → givable e.name = true → j < σ.nodes.length → i ≠ j → (L.av i).ownBlock = some g → (L.av j).ownBlock ≠ some g
  ael : ∀ i, i < σ.nodes.length → σ.el? i = none → (L.av i).ownBlock = none
  wf : Wf σ
  blk : ∃ C, w.heap[E.bB]? = some (.cells C 180 (0, 0)) ∧ BCells E L σ C
  orow : w.ownsRow E.bs 72 1 L.ov σ.opn.length (σ.opn.map fun x => enc (omap L.at' x))
  crow : w.ownsRow E.bs 72 1 L.cv σ.act.length (σ.act.map fun x => enc (omap L.at' x))
  ocn : ∀ g, L.ov.ownBlock = some g → L.cv.ownBlock ≠ some g
  ole : σ.opn.length ≤ 4096
  cle : σ.act.length ≤ 4096
  wrow : w.ownsRow E.bs 125 1 L.wv σ.waiting.length (σ.waiting.map chv)
  wle : σ.waiting.length ≤ 4096
  rd : w.heap[E.bR]? = some (.cells ((E.R0.setIfInBounds E.iOf (.string σ.ofT)).setIfInBounds (E.iOf + 1) (.bool σ.plainT)) 165 (0, 0))
  rsz : E.iOf + 1 < E.R0.size
  tok : Atr w E.tv E.ta
  tle : E.ta.length ≤ 4096
  bz : E.bs ≤ E.w0.heap.size
  bB : E.bs ≤ E.bB
  bR : E.bs ≤ E.bR
  bN : ∀ i, i < σ.nodes.length → E.bs ≤ L.at' i
  frs : σ.fresh = true → ∀ i g, i < σ.nodes.length → E.tv.ownBlock = some g → (L.av i).ownBlock ≠ some g
end Go.Proofs.YtlhhgenpcjjajaaGreatDoor
namespace Go.Proofs.YtlhhgenpcjjajaaGreatDoor
open Go.RowKit
def KT (bs : Nat) (T : List TypeId) (w w' : World) : Prop := ∃ S, Kept S w w' ∧ ∀ k ∈ S, k < w.heap.size → (∃ c t m, w.heap[k]? = some (.cells c t m) ∧ t ∈ T) ∧ bs ≤ k
theorem KT.size {bs : Nat} {T : List TypeId} {w w' : World} (h : KT bs T w w') : w.heap.size ≤ w'.heap.size := by obtain ⟨S, hk, _⟩ := h; exact hk.size
theorem KT.of_kept {bs : Nat} {T : List TypeId} {S : List Nat} {w w' : World} (h : Kept S w w') (hS : ∀ k ∈ S, k < w.heap.size → (∃ c t m, w.heap[k]? = some (.cells c t m) ∧ t ∈ T) ∧ bs ≤ k) : KT bs T w w' := ⟨S, h, hS⟩
theorem KT.of_kept0 {bs : Nat} {T : List TypeId} {w w' : World} (h : Kept [] w w') : KT bs T w w' := ⟨[], h, fun _ hk => by cases hk⟩
theorem KT.refl {bs : Nat} (T : List TypeId) (w : World) : KT bs T w w := .of_kept0 (Kept.refl _ _)
theorem KT.mono {bs : Nat} {T T' : List TypeId} {w w' : World} (h : KT bs T w w') (hT : ∀ t ∈ T, t ∈ T') : KT bs T' w w' := by
  obtain ⟨S, hk, hS⟩ := h
  refine ⟨S, hk, fun k h1 h2 => ?_⟩
  obtain ⟨⟨c, t, m, h3, h4⟩, h5⟩ := hS k h1 h2
  exact ⟨⟨c, t, m, h3, hT t h4⟩, h5⟩
theorem KT.fr {bs : Nat} {T : List TypeId} {w w' : World} (h : KT bs T w w') (hT : ∀ t ∈ T, t ∈ MutF) : Fr bs w w' := h.mono hT
theorem KT.at {bs : Nat} {T : List TypeId} {w w' : World} (h : KT bs T w w') {g : Nat} {c : Array Value} {t : TypeId} {m : Nat × Nat} (hg : w.heap[g]? = some (.cells c t m)) (ht : t ∉ T) : w'.heap[g]? = some (.cells c t m) := by
  obtain ⟨S, hk, hS⟩ := h
  refine hk.at hg fun hm => ?_
  obtain ⟨⟨c', t', m', h1, h2⟩, _⟩ := hS g hm (lt_of_block hg)
  rw [hg] at h1
  simp at h1
  exact ht (by rw [h1.2.1]; exact h2)
theorem KT.row {bs : Nat} {T : List TypeId} {w w' : World} (h : KT bs T w w') {base : Nat} {e : TypeId} {size : Nat} {v : Value} {n : Nat} {xs : List Value} (ho : w.ownsRow base e size v n xs) (ht : e ∉ T) : w'.ownsRow base e size v n xs := by
  refine ⟨ho.1, ?_⟩
  rcases ho.2 with h2 | ⟨g, cap, cur, rfl, hb, hc, hr⟩
  · exact .inl h2
  · exact .inr ⟨g, cap, cur, rfl, hb, h.at hc ht, hr⟩
theorem row_typ {w : World} {base : Nat} {e : TypeId} {size : Nat} {v : Value} {n : Nat} {xs : List Value} (ho : w.ownsRow base e size v n xs) {g : Nat} (hg : v.ownBlock = some g) : ∃ c m, w.heap[g]? = some (.cells c e m) := by
  rcases ho.2 with ⟨e1, _⟩ | ⟨g', cap, cur, rfl, _, hc, _⟩
  · rw [e1] at hg; cases hg
  · obtain rfl := Option.some.inj hg
    exact ⟨_, _, hc⟩
theorem row_ne {w : World} {base : Nat} {e : TypeId} {size : Nat} {v : Value} {n : Nat} {xs : List Value} (ho : w.ownsRow base e size v n xs) {b : Nat} {c : Array Value} {t : TypeId} {m : Nat × Nat} (hb : w.heap[b]? = some (.cells c t m)) (ht : t ≠ e) : v.ownBlock ≠ some b := by
  intro hk
  obtain ⟨c', m', h⟩ := row_typ ho hk
  rw [hb] at h
  simp at h
  exact ht h.2.1
theorem row_lt {w : World} {base : Nat} {e : TypeId} {size : Nat} {v : Value} {n : Nat} {xs : List Value} (ho : w.ownsRow base e size v n xs) {g : Nat} (hg : v.ownBlock = some g) : g < w.heap.size := (ho.lt g hg).2
def NodeT : List TypeId := [140, 142, 284, 239, 243, 299]
theorem NodeAt.kt {bs bs0 : Nat} {T : List TypeId} {L : Loc} {w w' : World} {i : Nat} {nd : ANd} (h : NodeAt bs0 L w i nd) (hk : KT bs T w w') (hT : ∀ t ∈ NodeT, t ∉ T) : NodeAt bs0 L w' i nd := by
  cases nd with
  | el e => exact ⟨⟨hk.at h.1.blk (hT _ (by decide)), hk.row h.1.row (hT _ (by decide)), h.1.le, h.1.avs⟩, hk.row h.2.1 (hT _ (by decide)), h.2.2⟩
  | tx s => exact hk.at h (hT _ (by decide))
  | cm s => exact hk.at h (hT _ (by decide))
  | dt s => exact hk.at h (hT _ (by decide))
theorem NodeAt.kept {bs : Nat} {S : List Nat} {L : Loc} {w w' : World} {i : Nat} {nd : ANd} (h : NodeAt bs L w i nd) (hk : Kept S w w') (h1 : L.at' i ∉ S) (h2 : ∀ g, (L.kv i).ownBlock = some g → g ∉ S) (h3 : ∀ g, (L.av i).ownBlock = some g → g ∉ S) : NodeAt bs L w' i nd := by
  cases nd with
  | el e => exact ⟨h.1.kept hk h1 h2, hk.ownsRow h.2.1 h3, h.2.2⟩
  | tx s => exact hk.at h h1
  | cm s => exact hk.at h h1
  | dt s => exact hk.at h h1
def ANd.typ : ANd → TypeId
  | .el _ => 140
  | .tx _ => 284
  | .cm _ => 239
  | .dt _ => 243
theorem NodeAt.typ {bs : Nat} {L : Loc} {w : World} {i : Nat} {nd : ANd} (h : NodeAt bs L w i nd) : ∃ c, w.heap[L.at' i]? = some (.cells c nd.typ (0, 0)) := by
  cases nd with
  | el e => exact ⟨_, h.1.blk⟩
  | tx s => exact ⟨_, h⟩
  | cm s => exact ⟨_, h⟩
  | dt s => exact ⟨_, h⟩
theorem omap_inj {f : Nat → Nat} (hf : ∀ i j, f i = f j → i = j) {x y : Option Nat} (h : omap f x = omap f y) : x = y := by
  cases x <;> cases y <;> simp_all [omap]
  exact hf _ _ h
theorem getAt_map (f : Nat → Nat) (xs : List (Option Nat)) (n : Int) : getAt (xs.map (omap f)) n = omap f (getAt xs n) := by
  unfold getAt
  rw [List.length_map]
  by_cases h : 0 ≤ n ∧ n < xs.length
  · rw [if_pos h, if_pos h]
    have hl : n.toNat < xs.length := by omega
    simp [List.getD, hl]
  · rw [if_neg h, if_neg h]; rfl
theorem idxOf_map {f : Nat → Nat} (hf : ∀ i j, f i = f j → i = j) (x : Option Nat) : ∀ xs : List (Option Nat), (xs.map (omap f)).idxOf (omap f x) = xs.idxOf x
  | [] => rfl
  | y :: xs => by
    rw [List.map_cons, List.idxOf_cons, List.idxOf_cons, idxOf_map hf x xs]
    by_cases h : y = x
    · subst h; simp
    · have h2 : omap f y ≠ omap f x := fun e => h (omap_inj hf e)
      rw [beq_eq_false_iff_ne.2 h2, beq_eq_false_iff_ne.2 h]
theorem posOf_map {f : Nat → Nat} (hf : ∀ i j, f i = f j → i = j) (xs : List (Option Nat)) (x : Option Nat) : posOf (xs.map (omap f)) (omap f x) = posOf xs x := by
  unfold posOf; rw [idxOf_map hf, List.length_map]
theorem mem_map {f : Nat → Nat} (hf : ∀ i j, f i = f j → i = j) (xs : List (Option Nat)) (x : Option Nat) : omap f x ∈ xs.map (omap f) ↔ x ∈ xs := by
  constructor
  · intro h
    obtain ⟨y, hy, e⟩ := List.mem_map.1 h
    rw [← omap_inj hf e]; exact hy
  · exact fun h => List.mem_map.2 ⟨x, h, rfl⟩
theorem repl_map {f : Nat → Nat} (hf : ∀ i j, f i = f j → i = j) (xs : List (Option Nat)) (x y : Option Nat) : repl (xs.map (omap f)) (omap f x) (omap f y) = (repl xs x y).map (omap f) := by
  unfold repl
  rw [idxOf_map hf]
  by_cases h : x ∈ xs
  · rw [if_pos h, if_pos ((mem_map hf xs x).2 h), List.map_set]
  · rw [if_neg h, if_neg (fun e => h ((mem_map hf xs x).1 e))]
end Go.Proofs.YtlhhgenpcjjajaaGreatDoor
