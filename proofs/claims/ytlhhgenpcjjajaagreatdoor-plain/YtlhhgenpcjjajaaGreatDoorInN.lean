import Derived.Test.YtlhhgenpcjjajaaGreatDoorKept
import Derived.Lib.Overlaps
import Derived.Lib.AppendZerosOnto
import Derived.Laws.NewBlocks
import Derived.Laws.Externs
import Derived.Shelf.Spec.SlicesInsert
set_option linter.unusedSimpArgs false
set_option linter.unusedVariables false
namespace Go.Proofs.YtlhhgenpcjjajaaGreatDoor
open Go.RowKit
theorem info_N : (Tryz.prog.info? 142).map (fun i => (i.zero, i.size, i.bytes)) = some (some (.nilIface), 1, 16) := by kernel_rfl
def InsN (base : Nat) (v : Value) (n i : Nat) (xs : List Value) (u : Value) (w : World) (e : Ending) (w' : World) : Prop :=
  ∃ v', e = .returned v' ∧ w'.ownsRow base 142 1 v' (n + 1) (xs.take i ++ [u] ++ xs.drop i) ∧ Kept v.ownBlock.toList w w' ∧ (v'.ownBlock = v.ownBlock ∨ ∀ k, v'.ownBlock = some k → w.heap.size ≤ k)
set_option maxHeartbeats 4000000 in
set_option maxRecDepth 100000 in
theorem ins_end_N (base n bv : Nat) (v u : Value) (xs : List Value) (w : World) (ho : w.ownsRow base 142 1 v n xs) (hv : w.heap[bv]? = some (.cells #[u] 142 (0, 0))) (hu : u.oneCell' = true) (hle : n ≤ 1048576) (hb : base ≤ w.heap.size) :
    Calls Tryz.prog 266 #[v, .int .i64 n, .slice (some ⟨bv, 0, none⟩) 1 1] w (InsN base v n n xs u w) := by
  obtain ⟨i0, hi, hz0, hz1, hz2⟩ := info_parts info_N
  obtain ⟨ao, cap, rfl⟩ := owns_shape ho
  have hlen : xs.length = n := by have := ho.1; omega
  have HV := hide hv
  clear hv
  by_cases hcn : cap = n
  · subst hcn
    have HO := hide ho
    clear ho
    go_enter Tryz.func266, Tryz.ntmps266
    go_wp2_with (at_builtin; refine wpList_append_ownF _ rfl _ _ 138 rfl base 142 i0 (.nilIface) 1 16 Tryz.underlying138 hi hz0 hz1 hz2 rfl (by decide) (.slice ao cap cap) cap xs rfl HO.out ⟨bv, 0, none⟩ 1 1 [u] rfl rfl (fun j x hx => by rw [addr_add, cell_at HV.out, ← hx]; simp) (fun x hx => by simp at hx; subst hx; exact hu) (by unfold maxLen; omega) (by omega) hb ?_; intro v' w2 hown' hgrow hfr)
    have HG := hide ((Kept.refl (Value.slice ao cap cap).ownBlock.toList w).grown hgrow (fun k hk => .inl (by rw [hk]; simp)))
    have HN := hide hown'
    have HF := hide hfr
    clear hown' hgrow hfr
    go_wp2
    go_ret
    refine ⟨_, rfl, ?_, HG.out, HF.out⟩
    rw [List.take_of_length_le (by omega), List.drop_of_length_le (by omega), List.append_nil]
    exact HN.out
  · have HO := hide ho
    clear ho
    go_enter Tryz.func266, Tryz.ntmps266
    go_wp2_with (at_builtin; refine wpList_append_ownF _ rfl _ _ 138 rfl base 142 i0 (.nilIface) 1 16 Tryz.underlying138 hi hz0 hz1 hz2 rfl (by decide) (.slice ao n cap) n xs rfl HO.out ⟨bv, 0, none⟩ 1 1 [u] rfl rfl (fun j x hx => by rw [addr_add, cell_at HV.out, ← hx]; simp) (fun x hx => by simp at hx; subst hx; exact hu) (by unfold maxLen; omega) (by omega) hb ?_; intro v' w2 hown' hgrow hfr)
    have HG := hide ((Kept.refl (Value.slice ao n cap).ownBlock.toList w).grown hgrow (fun k hk => .inl (by rw [hk]; simp)))
    have HN := hide hown'
    have HF := hide hfr
    clear hown' hgrow hfr
    go_wp2
    go_ret
    refine ⟨_, rfl, ?_, HG.out, HF.out⟩
    rw [List.take_of_length_le (by omega), List.drop_of_length_le (by omega), List.append_nil]
    exact HN.out
theorem ins_list_N {l : List Value} {n i : Nat} {u : Value} {c : Array Value} (hl : c.toList.take n = l) (hn : n + 1 ≤ c.size) (hi : i < n) :
    (putList (putList c (i + 1) (l.drop i)) i [u]).toList.take (n + 1) = l.take i ++ [u] ++ l.drop i := by
  have hll : l.length = n := by rw [← hl]; simp; omega
  have h1 := putList_toList (l.drop i) c (i + 1) (by simp; omega)
  rw [putList_toList [u] _ i (by rw [putList_size]; simp; omega), h1]
  have e1 : (c.toList.take (i + 1) ++ l.drop i ++ c.toList.drop (i + 1 + (l.drop i).length)).take i = l.take i := by
    rw [List.append_assoc, List.take_append_of_le_length (by simp; omega), List.take_take, Nat.min_eq_left (by omega), ← hl, List.take_take, Nat.min_eq_left (by omega)]
  have e2 : (c.toList.take (i + 1) ++ l.drop i ++ c.toList.drop (i + 1 + (l.drop i).length)).drop (i + [u].length) = l.drop i ++ c.toList.drop (i + 1 + (l.drop i).length) := by
    rw [List.append_assoc, List.drop_append_of_le_length (by simp; omega), List.drop_of_length_le (by simp; omega), List.nil_append]
  rw [e1, e2, ← List.append_assoc, List.take_append_of_le_length (by simp; omega), List.take_of_length_le (by simp; omega)]
set_option maxHeartbeats 4000000 in
set_option maxRecDepth 100000 in
theorem ins_shift_N (base g cap n i bv : Nat) (u : Value) (cur : Array Value) (xs : List Value) (w : World) (hbg : base ≤ g) (hcur : w.heap[g]? = some (.cells cur 142 (0, 0))) (hxs : cur.toList.take n = xs) (hsz : cur.size = cap) (hm : cap ≤ maxLen)
    (hroom : n + 1 ≤ cap) (hi : i < n) (hv : w.heap[bv]? = some (.cells #[u] 142 (0, 0))) (hne : bv ≠ g) (hu : u.oneCell' = true) (h1 : ∀ x ∈ xs, x.oneCell' = true) (hle : n ≤ 1048576) :
    Calls Tryz.prog 266 #[.slice (some ⟨g, 0, none⟩) n cap, .int .i64 i, .slice (some ⟨bv, 0, none⟩) 1 1] w (InsN base (.slice (some ⟨g, 0, none⟩) n cap) n i xs u w) := by
  have hlen : xs.length = n := by rw [← hxs]; simp; omega
  have hz1 : (Tryz.prog.info? 142).map (·.size) = some 1 := by kernel_rfl
  have hov : ∀ lb cb, (callFunc 319 #[.slice (some ⟨bv, 0, none⟩) 1 1, .slice (some ⟨g, i + 1, none⟩) lb cb]).run Tryz.prog w = .ok (.value (.bool false)) w := fun lb cb => by
    rw [run_callFunc_extern Tryz.func319 (by kernel_rfl) (by kernel_rfl) (by kernel_rfl) (e := Extern.SlicesOverlaps.overlaps #[138, 138] #[4]) (by kernel_rfl),
      Lib.run_overlaps_apart w 138 4 142 Tryz.underlying138 1 Tryz.sizeOf142 ⟨bv, 0, none⟩ ⟨g, i + 1, none⟩ 1 1 lb cb hne 142 142 1 cap (by simp [World.shape?, hv]) (by simp [World.shape?, hcur, hsz]) (by omega) (free_at hv 0) (free_at hv 1)]
    rfl
  have hsp : ∀ j, j < cap → (w.cell? ⟨g, j, none⟩).isSome = true := fun j hj => by rw [cell_at hcur, Array.getElem?_eq_getElem (by omega)]; rfl
  have hcs : ∀ j x, xs[j]? = some x → w.cell? ⟨g, j, none⟩ = some x := fun j x hj => by
    rw [cell_at hcur]
    rw [← hxs, List.getElem?_take] at hj
    split at hj
    · simpa using hj
    · cases hj
  have hdl : (xs.drop i).length = n - i := by rw [List.length_drop, hlen]
  obtain ⟨W1, hW1⟩ : ∃ W1, W1 = w.drew.setCells g (i + 1) (xs.drop i) := ⟨_, rfl⟩
  have hcp1 : ∀ ty dc sc, (Builtin.copy_ #[138, 138] ty #[.slice (some ⟨g, i + 1, none⟩) (n - i) dc, .slice (some ⟨g, i, none⟩) (n + 1 - i) sc]).run Tryz.prog w.drew = .ok (goInt (xs.drop i).length) W1 := fun ty dc sc => by
    rw [hW1]
    exact run_copy_cells w.drew _ _ ty 142 g (i + 1) (n - i) dc ⟨g, i, none⟩ (n + 1 - i) sc (xs.drop i) Tryz.underlying138 hz1 (by rw [hdl]; simp only [Nat.min_def]; split <;> omega)
      (fun j x hj => by rw [Addr.add_lit]; exact hcs (i + j) x (by rwa [List.getElem?_drop] at hj))
      (fun j hj => hsp _ (by omega)) (fun j hj => free_at hcur _) (fun x hx => h1 x (List.mem_of_mem_drop hx))
  have hB1 : W1.heap[g]? = some (.cells (putList cur (i + 1) (xs.drop i)) 142 (0, 0)) := by rw [hW1]; exact block_setCells (xs.drop i) w.drew g cur _ _ _ hcur
  have hK1 : Kept [g] w W1 := by rw [hW1]; exact Kept.setCells (.inl (by simp)) _ _ (Kept.refl _ _).drew
  have hV1 : W1.heap[bv]? = some (.cells #[u] 142 (0, 0)) := hK1.at hv (by simpa using hne)
  have hcp2 : ∀ ty dc, (Builtin.copy_ #[138, 138] ty #[.slice (some ⟨g, i, none⟩) (n + 1 - i) dc, .slice (some ⟨bv, 0, none⟩) 1 1]).run Tryz.prog W1 = .ok (goInt 1) (W1.setCells g i [u]) := fun ty dc =>
    run_copy_cells W1 _ _ ty 142 g i (n + 1 - i) dc ⟨bv, 0, none⟩ 1 1 [u] Tryz.underlying138 hz1 (by simp only [Nat.min_def, List.length_cons, List.length_nil]; split <;> omega)
      (fun j x hj => by rw [addr_add, cell_at hV1, ← hj]; simp)
      (fun j hj => by rw [cell_at hB1, Array.getElem?_eq_getElem (by rw [putList_size]; simp at hj; omega)]; rfl) (fun j hj => free_at hB1 _) (fun x hx => by simp at hx; subst hx; exact hu)
  have hB2 := block_setCells [u] W1 g _ _ _ i hB1
  have hK2 := Kept.setCells (S := [g]) (a := w) (b := g) (.inl (by simp)) [u] i hK1
  have hfin := ins_list_N (u := u) hxs (by omega : n + 1 ≤ cur.size) hi
  have HB := hide hB2
  have HK := hide hK2
  have HF := hide hfin
  clear hB1 hK1 hB2 hK2 hfin hW1 hcur hv hV1 h1 hsp hcs hxs
  have hw1 : IntKind.i64.wrap ((i : Int) + 1) = (i : Int) + 1 := by rw [IntKind.wrap_i64]; omega
  have hb1 : (0 : Int) ≤ (i : Int) + 1 := by omega
  have hb2 : (i : Int) + 1 ≤ (n : Int) + 1 := by omega
  have htn : ((i : Int) + 1).toNat = i + 1 := by omega
  have hb3 : (i : Int) ≤ (n : Int) + 1 := by omega
  have hb4 : ¬ (cap = i + 1) := by omega
  have hb5 : ¬ (cap = i) := by omega
  go_enter Tryz.func266, Tryz.ntmps266
  go_wp2_with (simp only [hov])
  go_region_law (refine step_copy_runI rfl _ _ 138 138 rfl _ _ (by simp [Act.eval, Act.put]) (by simp [Act.eval, Act.put]) (hcp1 _ _ _) ?_)
  go_wp2_with (at_builtin; refine wpList_copy_runI _ rfl _ _ 138 138 rfl _ _ rfl rfl (hcp2 _ _) ?_)
  go_ret
  exact ⟨_, rfl, ⟨by simp [hlen]; omega, .inr ⟨g, cap, _, rfl, hbg, HB.out, by omega, hm, by rw [putList_size, putList_size]; omega, by rw [Nat.mul_one]; exact HF.out⟩⟩, HK.out, .inl rfl⟩
theorem ins_list2_N {l : List Value} {n i : Nat} {u : Value} {R : Array Value} (hll : l.length = n) (hR : R.toList.take i = l.take i) (hn : n + 1 ≤ R.size) (hi : i < n) :
    (putList (putList R i [u]) (i + 1) (l.drop i)).toList.take (n + 1) = l.take i ++ [u] ++ l.drop i := by
  have h1 := putList_toList [u] R i (by simp; omega)
  rw [putList_toList (l.drop i) _ (i + 1) (by rw [putList_size]; simp; omega), h1, hR]
  have e0 : ∀ X : List Value, (l.take i ++ [u] ++ X).take (i + 1) = l.take i ++ [u] := fun X => by rw [List.take_append_of_le_length (by simp; omega), List.take_of_length_le (by simp; omega)]
  rw [e0, List.take_append_of_le_length (by simp; omega), List.take_of_length_le (by simp; omega)]
set_option maxHeartbeats 4000000 in
set_option maxRecDepth 100000 in
theorem ins_grow_N (base g cap n i bv : Nat) (u : Value) (cur : Array Value) (xs : List Value) (w : World) (hcur : w.heap[g]? = some (.cells cur 142 (0, 0))) (hxs : cur.toList.take n = xs) (hsz : cur.size = cap)
    (hnc : n ≤ cap) (hroom : cap < n + 1) (hi : i < n) (hv : w.heap[bv]? = some (.cells #[u] 142 (0, 0))) (hu : u.oneCell' = true) (h1 : ∀ x ∈ xs, x.oneCell' = true) (hle : n ≤ 1048576) (hb : base ≤ w.heap.size) :
    Calls Tryz.prog 266 #[.slice (some ⟨g, 0, none⟩) n cap, .int .i64 i, .slice (some ⟨bv, 0, none⟩) 1 1] w (InsN base (.slice (some ⟨g, 0, none⟩) n cap) n i xs u w) := by
  obtain ⟨i0, hi0, hz0, hzs, hzb⟩ := info_parts info_N
  obtain rfl : cap = n := by omega
  have hlen : xs.length = cap := by rw [← hxs]; simp; omega
  have hz1 : (Tryz.prog.info? 142).map (·.size) = some 1 := by kernel_rfl
  have hgl := lt_of_block hcur
  have hvl := lt_of_block hv
  have hcs : ∀ j x, xs[j]? = some x → w.cell? ⟨g, j, none⟩ = some x := fun j x hj => by
    rw [cell_at hcur]
    rw [← hxs, List.getElem?_take] at hj
    split at hj
    · simpa using hj
    · cases hj
  have hold : (Builtin.firstCells i0.size i (.slice (some ⟨g, 0, none⟩) i cap)).run Tryz.prog w.drew = .ok (xs.take i).toArray w.drew := by
    rw [hzs]
    exact run_firstCells_some w.drew 1 i ⟨g, 0, none⟩ i cap (xs.take i) (by rw [List.length_take]; omega) (fun j x hj => by
      rw [addr_add]
      rw [List.getElem?_take] at hj
      split at hj
      · exact hcs j x hj
      · cases hj)
  obtain ⟨G, hG⟩ : ∃ G, G = grownCap w (cap + 1) cap 142 := ⟨_, rfl⟩
  obtain ⟨R, hR⟩ : ∃ R : Array Value, R = (xs.take i).toArray ++ Builtin.zeroCells (.nilIface : Value).cells (cap + 1 - i) ++ Builtin.zeroCells (.nilIface : Value).cells (G - (cap + 1)) := ⟨_, rfl⟩
  obtain ⟨W1, hW1⟩ : ∃ W1, W1 = w.drew.alloc (.cells R 142 (0, 0)) := ⟨_, rfl⟩
  have hrz : ∀ ty, (Builtin.append_ #[138, 3] ty #[.slice (some ⟨g, 0, none⟩) i cap, .int .i64 ((cap : Int) + 1 - (i : Int))]).run Tryz.prog w = .ok (.slice (some ⟨w.heap.size, 0, none⟩) (cap + 1) G) W1 := fun ty => by
    have h := Lib.run_append_grow_zeros w 138 3 ty 142 i0 _ .i64 .i64 Tryz.underlying138 Tryz.underlying3 hi0 hz0 (some ⟨g, 0, none⟩) i cap (xs.take i) hold (cap + 1 - i) (by omega) (by omega) (by omega) (by omega) (by rw [hzb]; omega) (by rw [hzb, show i + (cap + 1 - i) = cap + 1 by omega]; exact growslice_fits (by omega) (by omega))
    rw [show i + (cap + 1 - i) = cap + 1 by omega, ← hG, ← hR, ← hW1] at h
    rw [show (cap : Int) + 1 - (i : Int) = ((cap + 1 - i : Nat) : Int) by omega]
    exact h
  have hGn : cap + 1 ≤ G := by rw [hG]; exact grownCap_ge w _ _ _
  have hGm : G ≤ maxLen := by rw [hG]; exact grownCap_le_maxLen w (cap + 1) cap 142 (by unfold maxLen; omega)
  have hRs : R.size = G := by
    rw [hR]
    simp [Builtin.zeroCells, Value.cells]
    omega
  have hRt : R.toList.take i = xs.take i := by
    rw [hR]
    simp only [Array.toList_append, List.append_assoc]
    rw [List.take_append_of_le_length (by simp; omega), List.take_of_length_le (by simp; omega)]
  have hB1 : W1.heap[w.heap.size]? = some (.cells R 142 (0, 0)) := by rw [hW1]; exact heap_alloc_at w.drew _
  have hK1 : Kept [] w W1 := by rw [hW1]; exact (Kept.refl [] w).drew.alloc _
  have hV1 := hK1.at hv (by simp)
  have hC1 := hK1.at hcur (by simp)
  obtain ⟨W2, hW2⟩ : ∃ W2, W2 = W1.setCells w.heap.size i [u] := ⟨_, rfl⟩
  have hcpA : ∀ ty dc, (Builtin.copy_ #[138, 138] ty #[.slice (some ⟨w.heap.size, i, none⟩) (cap + 1 - i) dc, .slice (some ⟨bv, 0, none⟩) 1 1]).run Tryz.prog W1 = .ok (goInt 1) W2 := fun ty dc => by
    rw [hW2]
    exact run_copy_cells W1 _ _ ty 142 w.heap.size i (cap + 1 - i) dc ⟨bv, 0, none⟩ 1 1 [u] Tryz.underlying138 hz1 (by simp only [Nat.min_def, List.length_cons, List.length_nil]; split <;> omega)
      (fun j x hj => by rw [addr_add, cell_at hV1, ← hj]; simp)
      (fun j hj => by rw [cell_at hB1, Array.getElem?_eq_getElem (by simp at hj; omega)]; rfl) (fun j hj => free_at hB1 _) (fun x hx => by simp at hx; subst hx; exact hu)
  have hB2 : W2.heap[w.heap.size]? = some (.cells (putList R i [u]) 142 (0, 0)) := by rw [hW2]; exact block_setCells [u] W1 _ R _ _ _ hB1
  have hK2 : Kept [] w W2 := by rw [hW2]; exact Kept.setCells (.inr (Nat.le_refl _)) _ _ hK1
  have hC2 := hK2.at hcur (by simp)
  have hcpB : ∀ ty dc sc, (Builtin.copy_ #[138, 138] ty #[.slice (some ⟨w.heap.size, i + 1, none⟩) (cap - i) dc, .slice (some ⟨g, i, none⟩) (cap - i) sc]).run Tryz.prog W2.drew = .ok (goInt (xs.drop i).length) (W2.drew.setCells w.heap.size (i + 1) (xs.drop i)) := fun ty dc sc =>
    run_copy_cells W2.drew _ _ ty 142 w.heap.size (i + 1) (cap - i) dc ⟨g, i, none⟩ (cap - i) sc (xs.drop i) Tryz.underlying138 hz1 (by rw [List.length_drop, hlen]; simp only [Nat.min_def]; split <;> omega)
      (fun j x hj => by
        rw [Addr.add_lit]
        have h3 := hcs (i + j) x (by rwa [List.getElem?_drop] at hj)
        rw [cell_at hcur] at h3
        exact (cell_at hC2 _).trans h3)
      (fun j hj => by show (W2.cell? _).isSome = true; rw [cell_at hB2, Array.getElem?_eq_getElem (by rw [putList_size]; simp at hj; omega)]; rfl) (fun j hj => free_at hB2 _) (fun x hx => h1 x (List.mem_of_mem_drop hx))
  have hB3 := block_setCells (xs.drop i) W2.drew w.heap.size _ _ _ (i + 1) hB2
  have hK3 := Kept.setCells (S := []) (a := w) (b := w.heap.size) (.inr (Nat.le_refl _)) (xs.drop i) (i + 1) hK2.drew
  have hfin := ins_list2_N (u := u) hlen hRt (by omega) hi
  have HB := hide hB3
  have HK := hide hK3
  have HF := hide hfin
  have HRs := hide hRs
  have HGm := hide hGm
  have hz3 : (cap : Int) < (cap : Int) + 1 := by omega
  have hGi : ¬ (G = i) := by omega
  have hGim : ¬ (G = i + 1) := by omega
  have hci : ¬ (cap = i) := by omega
  have hw1 : IntKind.i64.wrap ((i : Int) + 1) = (i : Int) + 1 := by rw [IntKind.wrap_i64]; omega
  have hb1 : (0 : Int) ≤ (i : Int) + 1 := by omega
  have hb2 : (i : Int) + 1 ≤ (cap : Int) + 1 := by omega
  have htn : ((i : Int) + 1).toNat = i + 1 := by omega
  have hb3 : (i : Int) ≤ (cap : Int) := by omega
  clear hB1 hK1 hB2 hK2 hB3 hK3 hfin hW1 hcur hv hV1 hC1 hC2 h1 hcs hxs hold hR hG hRs hRt hW2 hGm
  go_enter Tryz.func266, Tryz.ntmps266
  go_wp2_with (first
    | (at_builtin; refine Lib.wpList_append_run _ rfl _ _ _ _ rfl _ _ rfl rfl _ _ (hrz _) ?_)
    | (at_builtin; refine wpList_copy_runI _ rfl _ _ 138 138 rfl _ _ rfl rfl (hcpA _ _) ?_))
  go_region_law (refine step_copy_runI rfl _ _ 138 138 rfl (.slice (some ⟨w.heap.size, i + 1, none⟩) (cap - i) (G - (i + 1))) (.slice (some ⟨g, i, none⟩) (cap - i) (cap - i)) (by simp [Act.eval, Act.put]) (by simp [Act.eval, Act.put]) (hcpB _ _ _) ?_)
  go_wp2
  go_ret
  refine ⟨_, rfl, ⟨by simp [hlen]; omega, .inr ⟨w.heap.size, G, _, rfl, hb, HB.out, hGn, HGm.out, by rw [putList_size, putList_size, Nat.mul_one]; exact HRs.out, by rw [Nat.mul_one]; exact HF.out⟩⟩, HK.out.mono (by simp), .inr ?_⟩
  intro k hk
  simp [Value.ownBlock] at hk
  omega
theorem ins_N (base n i bv : Nat) (v u : Value) (xs : List Value) (w : World) (ho : w.ownsRow base 142 1 v n xs) (hv : w.heap[bv]? = some (.cells #[u] 142 (0, 0))) (hne : v.ownBlock ≠ some bv) (hu : u.oneCell' = true) (h1 : ∀ x ∈ xs, x.oneCell' = true) (hi : i ≤ n) (hle : n ≤ 1048576) (hb : base ≤ w.heap.size) :
    Calls Tryz.prog 266 #[v, .int .i64 i, .slice (some ⟨bv, 0, none⟩) 1 1] w (InsN base v n i xs u w) := by
  by_cases hin : i = n
  · subst hin
    exact ins_end_N base i bv v u xs w ho hv hu hle hb
  · rcases ho.2 with ⟨_, e0⟩ | ⟨g, cap, cur, rfl, hbg, hcur, hnc, hm, hsz, htake⟩
    · omega
    · have hg : bv ≠ g := fun e => hne (by rw [e]; rfl)
      rw [Nat.mul_one] at hsz htake
      by_cases hr : n + 1 ≤ cap
      · exact ins_shift_N base g cap n i bv u cur xs w hbg hcur htake hsz hm hr (by omega) hv hg hu h1 hle
      · exact ins_grow_N base g cap n i bv u cur xs w hcur htake hsz hnc (by omega) (by omega) hv hu h1 hle hb
end Go.Proofs.YtlhhgenpcjjajaaGreatDoor
namespace Go.Proofs.YtlhhgenpcjjajaaGreatDoor
open Go.RowKit
theorem block_setCell0 {w : World} {b : Nat} {c : Array Value} {t : TypeId} (h : w.heap[b]? = some (.cells c t (0, 0))) (j : Nat) (u : Value) : (w.setCell ⟨b, j, none⟩ u).heap[b]? = some (.cells (c.setIfInBounds j u) t (0, 0)) := block_setCell h j u
theorem Lst.ents {base b j : Nat} {tB : TypeId} {C : Array Value} {v : Value} {xs : List (Option Nat)} {w : World} (h : Lst base b j tB C v xs w) (he : ∀ x ∈ xs, IsEl w x) : Ents v xs w := ents_of h.row he
theorem Lst.own_ne {base b j : Nat} {tB : TypeId} {C : Array Value} {v : Value} {xs : List (Option Nat)} {w : World} (h : Lst base b j tB C v xs w) : v.ownBlock ≠ some b := by
  intro hk
  rcases h.row.2 with ⟨e, _⟩ | ⟨g, cap, cur, e, _, hc, _⟩
  · rw [e] at hk; cases hk
  · rw [e] at hk
    obtain rfl := Option.some.inj hk
    exact block_ne hc h.blk (Ne.symm h.ne) rfl
theorem row_one (xs : List (Option Nat)) : ∀ u ∈ xs.map enc, u.oneCell' = true := by
  intro u hu
  obtain ⟨x, _, rfl⟩ := List.mem_map.1 hu
  rfl
def Turns (base b j : Nat) (tB : TypeId) (C : Array Value) (v : Value) (ys : List (Option Nat)) (w w' : World) : Prop :=
  ∃ v', Lst base b j tB (C.setIfInBounds j v') v' ys w' ∧ Kept (b :: v.ownBlock.toList) w w' ∧ (v'.ownBlock = v.ownBlock ∨ ∀ k, v'.ownBlock = some k → w.heap.size ≤ k)
theorem lt_of_getElem? {C : Array Value} {j : Nat} {v : Value} (h : C[j]? = some v) : j < C.size := (Array.getElem?_eq_some_iff.1 h).1
set_option maxHeartbeats 1000000 in
theorem l_last (base b j : Nat) (tB : TypeId) (C : Array Value) (v : Value) (xs : List (Option Nat)) (w : World) (h : Lst base b j tB C v xs w) :
    Calls Tryz.prog 179 #[.pointer (some ⟨b, j, none⟩)] w fun e w' => e = .returned (enc (getAt xs ((xs.length : Int) - 1))) ∧ w' = w := by
  have c1 := h.at
  have hle := h.le
  obtain ⟨ao, cap, rfl⟩ := owns_shape h.row
  have H := hide (l_at base b j tB C _ xs ((xs.length : Int) - 1) w h)
  clear h
  go_enter Tryz.func179, Tryz.ntmps179
  go_wp2_with fail
  refine H.out.mono ?_
  rintro e w' ⟨rfl, rfl⟩
  go_wp2
  go_ret
  exact ⟨rfl, rfl⟩
set_option maxHeartbeats 1000000 in
theorem l_has (base b j : Nat) (tB : TypeId) (C : Array Value) (v : Value) (xs : List (Option Nat)) (x : Option Nat) (w : World) (h : Lst base b j tB C v xs w) (he : ∀ x ∈ xs, IsEl w x) (hx : IsEl w x) :
    Calls Tryz.prog 322 #[.pointer (some ⟨b, j, none⟩), enc x] w fun e w' => e = .returned (.bool (decide (x ∈ xs))) ∧ w' = w := by
  have c1 := h.at
  have hle := h.le
  have hc : Calls Tryz.prog 349 #[v, enc x] w fun e w' => e = .returned (.bool (decide (x ∈ xs))) ∧ w' = w := by
    have H := hide (idx_ok v xs x w (h.ents he) hx h.le)
    have hd : decide (0 ≤ posOf xs x) = decide (x ∈ xs) := by
      unfold posOf
      by_cases hm : x ∈ xs
      · rw [if_pos (List.idxOf_lt_length_iff.2 hm)]; simp [hm]
      · rw [if_neg (fun hl => hm (List.idxOf_lt_length_iff.1 hl))]; simp [hm]
    have HD := hide hd
    clear h hd c1
    generalize posOf xs x = q at H HD
    generalize decide (x ∈ xs) = r at HD ⊢
    go_enter Tryz.func349, Tryz.ntmps349
    go_wp2_with fail
    refine H.out.mono ?_
    rintro e w' ⟨rfl, rfl⟩
    go_wp2
    go_ret
    exact ⟨by rw [← HD.out]; rfl, rfl⟩
  obtain ⟨ao, cap, rfl⟩ := owns_shape h.row
  have H := hide hc
  clear h hc
  go_enter Tryz.func322, Tryz.ntmps322
  go_wp2_with fail
  refine H.out.mono ?_
  rintro e w' ⟨rfl, rfl⟩
  go_wp2
  go_ret
  exact ⟨rfl, rfl⟩
set_option maxHeartbeats 1000000 in
theorem l_rightAhead (base b j : Nat) (tB : TypeId) (C : Array Value) (v : Value) (xs : List (Option Nat)) (x : Option Nat) (w : World) (h : Lst base b j tB C v xs w) (he : ∀ x ∈ xs, IsEl w x) (hx : IsEl w x) :
    Calls Tryz.prog 246 #[.pointer (some ⟨b, j, none⟩), enc x] w fun e w' => e = .returned (enc (getAt xs (posOf xs x - 1))) ∧ w' = w := by
  have c1 := h.at
  have hle := h.le
  have hp : -1 ≤ posOf xs x ∧ posOf xs x ≤ 4096 := by unfold posOf; split <;> omega
  obtain ⟨hp1, hp2⟩ := hp
  have H1 := hide (idx_ok v xs x w (h.ents he) hx h.le)
  obtain ⟨ao, cap, rfl⟩ := owns_shape h.row
  have H := hide (l_at base b j tB C _ xs (posOf xs x - 1) w h)
  clear h
  generalize posOf xs x = q at H H1 hp1 hp2 ⊢
  go_enter Tryz.func246, Tryz.ntmps246
  go_wp2_with fail
  refine H1.out.mono ?_
  rintro e w' ⟨rfl, rfl⟩
  go_wp2_with fail
  refine H.out.mono ?_
  rintro e w' ⟨rfl, rfl⟩
  go_wp2
  go_ret
  exact ⟨rfl, rfl⟩
set_option maxHeartbeats 2000000 in
set_option maxRecDepth 100000 in
theorem l_push (base b j : Nat) (tB : TypeId) (C : Array Value) (v : Value) (xs : List (Option Nat)) (x : Option Nat) (w : World) (h : Lst base b j tB C v xs w) (hl : xs.length < 4096) (hb : base ≤ w.heap.size) :
    Calls Tryz.prog 271 #[.pointer (some ⟨b, j, none⟩), enc x] w fun e w' => e = .returned (.tuple #[]) ∧ Turns base b j tB C v (xs ++ [x]) w w' := by
  obtain ⟨i0, hi, hz0, hz1, hz2⟩ := info_parts info_E
  have c1 := h.at
  have hon := h.own_ne
  obtain ⟨ao, cap, rfl⟩ := owns_shape h.row
  have H := hide h
  clear h
  have k1 : Kept [] w (w.alloc (.cells #[enc x] 72)) := (Kept.refl _ _).alloc _
  have o1 := hide (k1.ownsRow H.out.row (fun _ _ => by simp))
  have b1 := hide (k1.at H.out.blk (by simp))
  have v1 := heap_alloc_at w (.cells #[enc x] 72 (0, 0))
  have HV1 := hide v1
  have HK1 := hide k1
  clear k1 v1
  go_enter Tryz.func271, Tryz.ntmps271
  go_wp2_with (at_builtin; refine wpList_append_ownF _ rfl _ _ 174 rfl base 72 i0 (.pointer none) 1 8 Tryz.underlying174 hi hz0 hz1 hz2 rfl (by decide) (.slice ao xs.length cap) xs.length (xs.map enc) rfl o1.out ⟨w.heap.size, 0, none⟩ 1 1 [enc x] rfl rfl (fun k u hu => by rw [addr_add, cell_at HV1.out, ← hu]; simp) (fun u hu => by simp at hu; subst hu; rfl) (by unfold maxLen; omega) (by omega) (by simp; omega) ?_)
  intro v' w2 hown' hgrow hfr
  have K2 : Kept (Value.slice ao xs.length cap).ownBlock.toList w w2 := (HK1.out.mono (by simp)).grown hgrow (fun k hk => .inl (by rw [hk]; simp))
  have b2 : w2.heap[b]? = some (.cells C tB (0, 0)) := K2.at H.out.blk (by simpa using hon)
  obtain ⟨ao', cap', hv⟩ := owns_shape hown'
  subst hv
  have d1 : w2.cell? ⟨b, j, none⟩ = some (.slice ao xs.length cap) := by rw [cell_at b2]; exact H.out.cell
  have d2 := free_at b2 j
  have h3 := block_setCell b2 j (.slice ao' (xs.length + 1) cap')
  have hon' : (Value.slice ao' (xs.length + 1) cap').ownBlock ≠ some b := by
    intro hk
    rcases hown'.2 with ⟨e, _⟩ | ⟨g, cap, cur, e, _, hc, _⟩
    · rw [e] at hk; cases hk
    · rw [e] at hk
      obtain rfl := Option.some.inj hk
      exact block_ne hc b2 (Ne.symm H.out.ne) rfl
  have h4 := ownsRow_setCell_other (a := ⟨b, j, none⟩) hown' hon' (.slice ao' (xs.length + 1) cap')
  have h5 : Kept (b :: (Value.slice ao xs.length cap).ownBlock.toList) w (w2.setCell ⟨b, j, none⟩ (.slice ao' (xs.length + 1) cap')) := (K2.mono (fun k hk _ => List.mem_cons_of_mem _ hk)).setCell (.inl (by simp)) _
  have hfr' : (Value.slice ao' (xs.length + 1) cap').ownBlock = (Value.slice ao xs.length cap).ownBlock ∨ ∀ k, (Value.slice ao' (xs.length + 1) cap').ownBlock = some k → w.heap.size ≤ k := by
    rcases hfr with e | e
    · exact .inl e
    · refine .inr fun k hk => ?_
      have h6 := e k hk
      have h7 : (w.alloc (.cells #[enc x] 72 (0, 0))).heap.size = w.heap.size + 1 := by simp
      omega
  have H3 := hide h3
  have H4 := hide h4
  have H5 := hide h5
  have HF := hide hfr'
  clear h3 h4 h5 hfr hfr' b2 hon' hown' hgrow K2 c1
  go_wp2
  go_end0
  refine ⟨rfl, _, ⟨H3.out, ?_, ?_, H.out.ne, by simp; omega⟩, H5.out, HF.out⟩
  · simp [lt_of_getElem? H.out.cell]
  · simpa using H4.out
set_option maxHeartbeats 2000000 in
set_option maxRecDepth 100000 in
theorem l_pop (base b j : Nat) (tB : TypeId) (C : Array Value) (v : Value) (xs : List (Option Nat)) (w : World) (h : Lst base b j tB C v xs w) :
    Calls Tryz.prog 184 #[.pointer (some ⟨b, j, none⟩)] w fun e w' => e = .returned (enc (getAt xs ((xs.length : Int) - 1))) ∧ Turns base b j tB C v xs.dropLast w w' := by
  have H1 := hide (l_last base b j tB C v xs w h)
  have c1 := h.at
  have hle := h.le
  have hon := h.own_ne
  obtain ⟨ao, cap, rfl⟩ := owns_shape h.row
  have hnn : xs.length ≤ cap := by
    rcases h.row.2 with ⟨e, e0⟩ | ⟨g, cap', cur, e, _, _, hnc, _⟩
    · injection e with e1 e2 e3; omega
    · injection e with e1 e2 e3; omega
  obtain ⟨m, hm⟩ : ∃ m : Nat, m = xs.length - 1 := ⟨_, rfl⟩
  have hmx : max (0 : Int) ((xs.length : Int) - 1) = (m : Int) := by omega
  have hf := free_at h.blk j
  have hfin : Turns base b j tB C (.slice ao xs.length cap) xs.dropLast w (w.drew.setCell ⟨b, j, none⟩ (.slice ao m cap)) := by
    have hr : (w.drew.setCell ⟨b, j, none⟩ (.slice ao m cap)).ownsRow base 72 1 (.slice ao m cap) xs.dropLast.length (xs.dropLast.map enc) := by
      have hr0 : w.ownsRow base 72 1 (.slice ao m cap) xs.dropLast.length (xs.dropLast.map enc) := by
        refine ⟨by simp, ?_⟩
        rcases h.row.2 with ⟨e, e0⟩ | ⟨g, cap', cur, e, hbg, hc, hnc, hcm, hcs, ht⟩
        · injection e with e1 e2 e3
          exact .inl ⟨by rw [e1, e3]; congr 1; omega, by simp; omega⟩
        · injection e with e1 e2 e3
          refine .inr ⟨g, cap, cur, by rw [e1]; congr 1; simp; omega, hbg, hc, by simp; omega, by omega, by rw [e3]; exact hcs, ?_⟩
          rw [Nat.mul_one] at ht ⊢
          rw [List.length_dropLast, List.map_dropLast, ← ht, List.dropLast_eq_take, List.take_take]
          congr 1
          simp
          omega
      refine ownsRow_setCell_other (a := ⟨b, j, none⟩) (w := w.drew) hr0 ?_ _
      have : (Value.slice ao m cap).ownBlock = (Value.slice ao xs.length cap).ownBlock := by cases ao <;> rfl
      rw [this]; exact hon
    refine ⟨_, ⟨block_setCell (w := w.drew) h.blk j _, ?_, hr, h.ne, by simp; omega⟩, (Kept.refl _ w).drew.setCell (.inl (by simp)) _, .inl (by cases ao <;> rfl)⟩
    simp [lt_of_getElem? h.cell]
  have HF := hide hfin
  clear h hfin hm
  go_enter Tryz.func184, Tryz.ntmps184
  go_wp2_with fail
  refine H1.out.mono ?_
  rintro e w' ⟨rfl, hw⟩
  subst hw
  go_wp2_with fail
  go_region
  go_wp2
  go_ret
  exact ⟨rfl, HF.out⟩
end Go.Proofs.YtlhhgenpcjjajaaGreatDoor
namespace Go.Proofs.YtlhhgenpcjjajaaGreatDoor
open Go.RowKit
theorem posOf_cases (xs : List (Option Nat)) (x : Option Nat) : (x ∉ xs ∧ posOf xs x = -1) ∨ ∃ n : Nat, posOf xs x = n ∧ n < xs.length ∧ n = xs.idxOf x ∧ xs[n]? = some x := by
  unfold posOf
  by_cases hm : x ∈ xs
  · have hl := List.idxOf_lt_length_iff.2 hm
    rw [if_pos hl]
    exact .inr ⟨_, rfl, hl, rfl, by rw [List.getElem?_eq_getElem hl]; simp⟩
  · rw [if_neg (fun hl => hm (List.idxOf_lt_length_iff.1 hl))]
    exact .inl ⟨hm, rfl⟩
theorem erase_of_idx {xs : List (Option Nat)} {x : Option Nat} {n : Nat} (hn : n = xs.idxOf x) : xs.take n ++ xs.drop (n + 1) = xs.erase x := by
  rw [← List.eraseIdx_eq_take_drop_succ, hn, List.erase_eq_eraseIdx_of_idxOf rfl]
theorem Turns.refl {base b j : Nat} {tB : TypeId} {C : Array Value} {v : Value} {xs : List (Option Nat)} {w : World} (h : Lst base b j tB C v xs w) : Turns base b j tB C v xs w w := by
  have e : C.setIfInBounds j v = C := by
    have := h.cell
    apply Array.ext_getElem?
    intro i
    by_cases hij : j = i
    · subst hij; rw [this]; simp [lt_of_getElem? this]
    · simp [hij]
  exact ⟨v, by rw [e]; exact h, Kept.refl _ _, .inl rfl⟩
set_option maxHeartbeats 2000000 in
set_option maxRecDepth 100000 in
theorem l_remove (base b j : Nat) (tB : TypeId) (C : Array Value) (v : Value) (xs : List (Option Nat)) (x : Option Nat) (w : World) (h : Lst base b j tB C v xs w) (he : ∀ x ∈ xs, IsEl w x) (hx : IsEl w x) :
    Calls Tryz.prog 187 #[.pointer (some ⟨b, j, none⟩), enc x] w fun e w' => e = .returned (.tuple #[]) ∧ Turns base b j tB C v (xs.erase x) w w' := by
  have c1 := h.at
  have H1 := hide (idx_ok v xs x w (h.ents he) hx h.le)
  rcases posOf_cases xs x with ⟨hno, hp⟩ | ⟨n, hp, hlt, hn, _⟩
  · have HF := hide (Turns.refl h)
    rw [List.erase_of_not_mem hno]
    obtain ⟨ao, cap, rfl⟩ := owns_shape h.row
    rw [hp] at H1
    clear h hp
    go_enter Tryz.func187, Tryz.ntmps187
    go_wp2_with fail
    refine H1.out.mono ?_
    rintro e w' ⟨rfl, hw⟩
    subst hw
    go_wp2
    go_end0
    exact ⟨rfl, HF.out⟩
  · have hon := h.own_ne
    have hle := h.le
    rcases h.row.2 with ⟨_, e0⟩ | ⟨g, cap, cur, rfl, hbg, hcur, hnc, hm, hsz, htake⟩
    · omega
    rw [Nat.mul_one] at hsz htake
    have H2 := del_ok g cap n (n + 1) xs.length cur w hcur hnc hsz (by omega) (by omega) hle (by rw [htake]; exact row_one xs)
    rw [show ((n + 1 : Nat) : Int) = (n : Int) + 1 by omega, show xs.length - (n + 1 - n) = xs.length - 1 by omega] at H2
    have HD := hide H2
    have HN := hide hn
    clear hn
    have H := hide h
    have HT := hide htake
    rw [hp] at H1
    clear h hp htake hcur H2
    go_enter Tryz.func187, Tryz.ntmps187
    go_wp2_with fail
    refine H1.out.mono ?_
    rintro e w' ⟨rfl, hw⟩
    subst hw
    go_wp2_with fail
    refine HD.out.mono ?_
    rintro e w2 ⟨rfl, cur', hc2, hs2, ht2, hk2⟩
    have b2 := hk2.at H.out.blk (by intro hmem; exact hon (by simp at hmem; rw [hmem]; rfl))
    have d1 : w2.cell? ⟨b, j, none⟩ = some (.slice (some ⟨g, 0, none⟩) xs.length cap) := by rw [cell_at b2]; exact H.out.cell
    have d2 := free_at b2 j
    have h3 := block_setCell b2 j (.slice (some ⟨g, 0, none⟩) (xs.length - 1) cap)
    have hlen : (xs.erase x).length = xs.length - 1 := by rw [← erase_of_idx HN.out]; simp; omega
    have r2 : w2.ownsRow base 72 1 (.slice (some ⟨g, 0, none⟩) (xs.length - 1) cap) (xs.erase x).length ((xs.erase x).map enc) := by
      refine ⟨by simp, .inr ⟨g, cap, cur', by rw [hlen], hbg, hc2, by rw [hlen]; omega, hm, by rw [Nat.mul_one]; exact hs2, ?_⟩⟩
      rw [Nat.mul_one, hlen, ht2, HT.out, ← erase_of_idx HN.out, List.map_append, List.map_take, List.map_drop]
    have h4 := ownsRow_setCell_other (a := ⟨b, j, none⟩) r2 hon (.slice (some ⟨g, 0, none⟩) (xs.length - 1) cap)
    have h5 : Kept (b :: (Value.slice (some ⟨g, 0, none⟩) xs.length cap).ownBlock.toList) w' (w2.setCell ⟨b, j, none⟩ (.slice (some ⟨g, 0, none⟩) (xs.length - 1) cap)) := (hk2.mono (fun k hk _ => by simp at hk; subst hk; simp [Value.ownBlock])).setCell (.inl (by simp)) _
    have H3 := hide h3
    have H4 := hide h4
    have H5 := hide h5
    have HL := hide hlen
    clear h3 h4 h5 r2 b2 hc2 hs2 ht2 hk2 hlen c1
    go_wp2
    go_end0
    exact ⟨rfl, _, ⟨H3.out, by simp [lt_of_getElem? H.out.cell], H4.out, H.out.ne, by rw [HL.out]; omega⟩, H5.out, .inl rfl⟩
end Go.Proofs.YtlhhgenpcjjajaaGreatDoor
namespace Go.Proofs.YtlhhgenpcjjajaaGreatDoor
open Go.RowKit
def repl (xs : List (Option Nat)) (x y : Option Nat) : List (Option Nat) := if x ∈ xs then xs.set (xs.idxOf x) y else xs
def putBehind (xs : List (Option Nat)) (x y : Option Nat) : List (Option Nat) := if x ∈ xs then xs.take (xs.idxOf x + 1) ++ [y] ++ xs.drop (xs.idxOf x + 1) else xs
def popTo (xs : List (Option Nat)) (x : Option Nat) : List (Option Nat) := ((xs.reverse.dropWhile (· ≠ x)).tail).reverse
theorem Turns.trans {base b j : Nat} {tB : TypeId} {C : Array Value} {v v' : Value} {ys zs : List (Option Nat)} {w w1 w2 : World}
    (h1 : Lst base b j tB (C.setIfInBounds j v') v' ys w1) (hk : Kept (b :: v.ownBlock.toList) w w1) (hf : v'.ownBlock = v.ownBlock ∨ ∀ k, v'.ownBlock = some k → w.heap.size ≤ k)
    (h2 : Turns base b j tB (C.setIfInBounds j v') v' zs w1 w2) : Turns base b j tB C v zs w w2 := by
  obtain ⟨v2, L2, k2, f2⟩ := h2
  refine ⟨v2, by simpa using L2, hk.next k2 ?_, ?_⟩
  · intro x hx
    rcases List.mem_cons.1 hx with rfl | hx
    · exact .inl (by simp)
    · rcases hf with e | e
      · exact .inl (by rw [← e]; exact List.mem_cons_of_mem _ hx)
      · exact .inr (e x (by simpa using hx))
  · rcases f2 with e | e
    · rw [e]; exact hf
    · exact .inr fun k hk' => Nat.le_trans hk.size (e k hk')
set_option maxHeartbeats 2000000 in
set_option maxRecDepth 100000 in
theorem l_replace (base b j : Nat) (tB : TypeId) (C : Array Value) (v : Value) (xs : List (Option Nat)) (x y : Option Nat) (w : World) (h : Lst base b j tB C v xs w) (he : ∀ x ∈ xs, IsEl w x) (hx : IsEl w x) :
    Calls Tryz.prog 276 #[.pointer (some ⟨b, j, none⟩), enc x, enc y] w fun e w' => e = .returned (.tuple #[]) ∧ Turns base b j tB C v (repl xs x y) w w' := by
  have c1 := h.at
  have H1 := hide (idx_ok v xs x w (h.ents he) hx h.le)
  rcases posOf_cases xs x with ⟨hno, hp⟩ | ⟨n, hp, hlt, hn, hxn⟩
  · have HF := hide (Turns.refl h)
    have hr : repl xs x y = xs := by unfold repl; rw [if_neg hno]
    rw [hr]
    obtain ⟨ao, cap, rfl⟩ := owns_shape h.row
    rw [hp] at H1
    clear h hp hr
    go_enter Tryz.func276, Tryz.ntmps276
    go_wp2_with fail
    refine H1.out.mono ?_
    rintro e w' ⟨rfl, hw⟩
    subst hw
    go_wp2
    go_end0
    exact ⟨rfl, HF.out⟩
  · have hon := h.own_ne
    have hle := h.le
    have hr : repl xs x y = xs.set n y := by unfold repl; rw [if_pos (List.mem_of_getElem? hxn), ← hn]
    rw [hr]
    rcases h.row.2 with ⟨_, e0⟩ | ⟨g, cap, cur, rfl, hbg, hcur, hnc, hm, hsz, htake⟩
    · omega
    rw [Nat.mul_one] at hsz htake
    have hgb : g ≠ b := fun e => hon (by rw [e]; rfl)
    have d1 : ∃ u, w.cell? ⟨g, n, none⟩ = some u := ⟨cur[n]'(by omega), by rw [cell_at hcur]; exact Array.getElem?_eq_getElem (by omega)⟩
    obtain ⟨u, d1⟩ := d1
    have d2 := free_at hcur n
    have hfin : Turns base b j tB C (.slice (some ⟨g, 0, none⟩) xs.length cap) (xs.set n y) w (w.setCell ⟨g, n, none⟩ (enc y)) := by
      have hb2 : (w.setCell ⟨g, n, none⟩ (enc y)).heap[b]? = some (.cells C tB (0, 0)) := by rw [Below.heap_setCell w ⟨g, n, none⟩ _ b (Ne.symm hgb)]; exact h.blk
      have L2 : Lst base b j tB C (.slice (some ⟨g, 0, none⟩) xs.length cap) (xs.set n y) (w.setCell ⟨g, n, none⟩ (enc y)) := by
        refine ⟨hb2, h.cell, ⟨by simp, .inr ⟨g, cap, _, by simp, hbg, block_setCell hcur n (enc y), by simpa using hnc, hm, by simpa using hsz, ?_⟩⟩, h.ne, by simpa using hle⟩
        have : (cur.setIfInBounds n (enc y)).toList = cur.toList.set n (enc y) := by simp
        rw [this, List.length_set, Nat.mul_one, List.take_set, htake, List.map_set]
      obtain ⟨v', L', k', f'⟩ := Turns.refl L2
      exact ⟨v', L', (((Kept.refl _ w).setCell (p := ⟨g, n, none⟩) (.inl (by simp [Value.ownBlock])) _).trans k'), by simpa using f'⟩
    have HF := hide hfin
    have HX := hide hxn
    have HN := hide hn
    rw [hp] at H1
    clear h hp htake hcur hfin hn hxn hr
    go_enter Tryz.func276, Tryz.ntmps276
    go_wp2_with fail
    refine H1.out.mono ?_
    rintro e w' ⟨rfl, hw⟩
    subst hw
    go_wp2
    go_end0
    exact ⟨rfl, HF.out⟩
set_option maxHeartbeats 2000000 in
set_option maxRecDepth 100000 in
theorem l_putBehind (base b j : Nat) (tB : TypeId) (C : Array Value) (v : Value) (xs : List (Option Nat)) (x y : Option Nat) (w : World) (h : Lst base b j tB C v xs w) (he : ∀ x ∈ xs, IsEl w x) (hx : IsEl w x) (hl : xs.length < 4096) (hb : base ≤ w.heap.size) :
    Calls Tryz.prog 376 #[.pointer (some ⟨b, j, none⟩), enc x, enc y] w fun e w' => e = .returned (.tuple #[]) ∧ Turns base b j tB C v (putBehind xs x y) w w' := by
  have c1 := h.at
  have H1 := hide (idx_ok v xs x w (h.ents he) hx h.le)
  rcases posOf_cases xs x with ⟨hno, hp⟩ | ⟨n, hp, hlt, hn, hxn⟩
  · have HF := hide (Turns.refl h)
    have hr : putBehind xs x y = xs := by unfold putBehind; rw [if_neg hno]
    rw [hr]
    obtain ⟨ao, cap, rfl⟩ := owns_shape h.row
    rw [hp] at H1
    clear h hp hr
    go_enter Tryz.func376, Tryz.ntmps376
    go_wp2_with fail
    refine H1.out.mono ?_
    rintro e w' ⟨rfl, hw⟩
    subst hw
    go_wp2
    go_end0
    exact ⟨rfl, HF.out⟩
  · have hon := h.own_ne
    have hle := h.le
    have hr : putBehind xs x y = xs.take (n + 1) ++ [y] ++ xs.drop (n + 1) := by unfold putBehind; rw [if_pos (List.mem_of_getElem? hxn), ← hn]
    rw [hr]
    have k1 : Kept [] w (w.alloc (.cells #[enc y] 72)) := (Kept.refl _ _).alloc _
    have v1 := heap_alloc_at w (.cells #[enc y] 72 (0, 0))
    have hsz : (w.alloc (.cells #[enc y] 72 (0, 0))).heap.size = w.heap.size + 1 := by simp
    have hol := h.row.lt
    have H2 := ins_E base xs.length (n + 1) w.heap.size v (enc y) (xs.map enc) (w.alloc (.cells #[enc y] 72 (0, 0))) (k1.ownsRow h.row (fun _ _ => by simp)) v1 (fun e => by have := (hol _ e).2; omega) rfl (row_one xs) (by omega) hle (by omega)
    rw [show ((n + 1 : Nat) : Int) = (n : Int) + 1 by omega] at H2
    have b1 := k1.at h.blk (by simp)
    obtain ⟨ao, cap, rfl⟩ := owns_shape h.row
    have HD := hide H2
    have H := hide h
    have HX := hide hxn
    have HN := hide hn
    have HK1 := hide k1
    have HB1 := hide b1
    rw [hp] at H1
    clear h hp hn hxn hr H2 v1 k1 b1 hol
    have HSZ := hide hsz
    clear hsz
    go_enter Tryz.func376, Tryz.ntmps376
    go_wp2_with fail
    refine H1.out.mono ?_
    rintro e w' ⟨rfl, hw⟩
    subst hw
    go_wp2_with fail
    refine HD.out.mono ?_
    rintro e w2 ⟨v', rfl, ho2, hk2, hf2⟩
    obtain ⟨ao', cap', hv⟩ := owns_shape ho2
    subst hv
    have K2 : Kept (Value.slice ao xs.length cap).ownBlock.toList w' w2 := (HK1.out.mono (by simp)).trans (S := (Value.slice ao xs.length cap).ownBlock.toList) hk2
    have b2 : w2.heap[b]? = some (.cells C tB (0, 0)) := K2.at H.out.blk (by simpa using hon)
    have d1 : w2.cell? ⟨b, j, none⟩ = some (.slice ao xs.length cap) := by rw [cell_at b2]; exact H.out.cell
    have d2 := free_at b2 j
    have h3 := block_setCell b2 j (.slice ao' (xs.length + 1) cap')
    have hon' : (Value.slice ao' (xs.length + 1) cap').ownBlock ≠ some b := by
      intro hk
      rcases ho2.2 with ⟨e, _⟩ | ⟨g, cap, cur, e, _, hc, _⟩
      · rw [e] at hk; cases hk
      · rw [e] at hk
        obtain rfl := Option.some.inj hk
        exact block_ne hc b2 (Ne.symm H.out.ne) rfl
    have h4 := ownsRow_setCell_other (a := ⟨b, j, none⟩) ho2 hon' (.slice ao' (xs.length + 1) cap')
    have h5 : Kept (b :: (Value.slice ao xs.length cap).ownBlock.toList) w' (w2.setCell ⟨b, j, none⟩ (.slice ao' (xs.length + 1) cap')) := (K2.mono (fun k hk _ => List.mem_cons_of_mem _ hk)).setCell (.inl (by simp)) _
    have hfr' : (Value.slice ao' (xs.length + 1) cap').ownBlock = (Value.slice ao xs.length cap).ownBlock ∨ ∀ k, (Value.slice ao' (xs.length + 1) cap').ownBlock = some k → w'.heap.size ≤ k := by
      rcases hf2 with e | e
      · exact .inl e
      · refine .inr fun k hk => ?_
        have h6 := e k hk
        have h7 := HSZ.out
        omega
    have H3 := hide h3
    have H4 := hide h4
    have H5 := hide h5
    have HF := hide hfr'
    clear h3 h4 h5 hf2 hfr' b2 hon' ho2 hk2 K2 c1
    go_wp2
    go_end0
    refine ⟨rfl, _, ⟨H3.out, by simp [lt_of_getElem? H.out.cell], ?_, H.out.ne, by simp; omega⟩, H5.out, HF.out⟩
    have e1 : (xs.take (n + 1) ++ [y] ++ xs.drop (n + 1)).length = xs.length + 1 := by simp; omega
    rw [e1]
    simpa using H4.out
end Go.Proofs.YtlhhgenpcjjajaaGreatDoor
namespace Go.Proofs.YtlhhgenpcjjajaaGreatDoor
open Go.RowKit
theorem popTo_nil (x : Option Nat) : popTo [] x = [] := rfl
theorem popTo_snoc (xs : List (Option Nat)) (y x : Option Nat) : popTo (xs ++ [y]) x = if y = x then xs else popTo xs x := by
  unfold popTo
  rw [List.reverse_append]
  by_cases h : y = x
  · simp [h]
  · simp [h]
theorem getAt_last (xs : List (Option Nat)) (y : Option Nat) : getAt (xs ++ [y]) (((xs ++ [y]).length : Int) - 1) = y := by
  unfold getAt
  rw [if_pos (by simp; omega)]
  have : (((xs ++ [y]).length : Int) - 1).toNat = xs.length := by simp
  rw [this]
  simp
def lenAt (a : Addr) (w : World) : Nat := match w.cell? a with
  | some (.slice _ n _) => n
  | _ => 0
theorem Lst.lenAt {base b j : Nat} {tB : TypeId} {C : Array Value} {v : Value} {xs : List (Option Nat)} {w : World} (h : Lst base b j tB C v xs w) : lenAt ⟨b, j, none⟩ w = xs.length := by
  obtain ⟨ao, cap, rfl⟩ := owns_shape h.row
  unfold YtlhhgenpcjjajaaGreatDoor.lenAt
  rw [h.at]
theorem IsEl.kept {S : List Nat} {w w' : World} {x : Option Nat} (h : IsEl w x) (hk : Kept S w w') (hS : ∀ k, x = some k → k ∉ S) : IsEl w' x := by
  intro k hx
  obtain ⟨c, hc⟩ := h k hx
  exact ⟨c, hk.at hc (hS k hx)⟩
theorem el_not_own {base b j : Nat} {tB : TypeId} {C : Array Value} {v : Value} {xs : List (Option Nat)} {w : World} (h : Lst base b j tB C v xs w) (hB : tB ≠ 140) {x : Option Nat} (hx : IsEl w x) : ∀ k, x = some k → k ∉ b :: v.ownBlock.toList := by
  intro k hk hm
  obtain ⟨c, hc⟩ := hx k hk
  rcases List.mem_cons.1 hm with rfl | hm
  · exact block_ne h.blk hc hB rfl
  · rcases h.row.2 with ⟨e, _⟩ | ⟨g, cap, cur, e, _, hcur, _⟩
    · rw [e] at hm; simp [Value.ownBlock] at hm
    · rw [e] at hm
      simp [Value.ownBlock] at hm
      subst hm
      exact block_ne hcur hc (by decide) rfl
set_option maxHeartbeats 2000000 in
set_option maxRecDepth 100000 in
theorem l_popTo (base b j : Nat) (tB : TypeId) (C : Array Value) (v : Value) (xs : List (Option Nat)) (x : Option Nat) (w : World) (h : Lst base b j tB C v xs w) (hB : tB ≠ 140) (he : ∀ x ∈ xs, IsEl w x) (hx : IsEl w x) :
    Calls Tryz.prog 328 #[.pointer (some ⟨b, j, none⟩), enc x] w fun e w' => e = .returned (.tuple #[]) ∧ Turns base b j tB C v (popTo xs x) w w' := by
  have h0 := hide (Turns.refl h)
  have hE := hide he
  have hX := hide hx
  have hO := hide (fun y hy => el_not_own h hB (he y hy))
  have hOx := hide (el_not_own h hB hx)
  clear h he hx
  go_enter Tryz.func328, Tryz.ntmps328
  go_wp2
  go_loopw [9] (fun _ wr => ∃ ys, (∀ y ∈ ys, y ∈ xs) ∧ popTo ys x = popTo xs x ∧ Turns base b j tB C v ys w wr) (fun _ wr => lenAt ⟨b, j, none⟩ wr)
  case atStart => exact ⟨xs, fun _ h => h, rfl, h0.out⟩
  case round =>
    obtain ⟨ys, hsub, hpt, v', L1, k1, f1⟩ := hrel
    have hz := L1.lenAt
    have c1 := L1.at
    obtain ⟨ao, cap, hv⟩ := owns_shape L1.row
    have hcc : ys = [] ∨ ∃ zs y, ys = zs ++ [y] := by
      rcases List.eq_nil_or_concat ys with h | ⟨zs, y, h⟩
      · exact .inl h
      · exact .inr ⟨zs, y, by rw [h, List.concat_eq_append]⟩
    rcases hcc with rfl | ⟨zs, y, rfl⟩
    · rw [hv] at c1
      have HF := hide (show Turns base b j tB C v (popTo xs x) w wr from ⟨v', by rw [← hpt, popTo_nil]; exact L1, k1, f1⟩)
      clear L1 k1 f1 hv hz hpt
      go_wp2
      go_end0
      exact ⟨rfl, HF.out⟩
    · rw [hv] at c1
      have hlen : 0 < (zs ++ [y]).length := by simp
      have hP := l_pop base b j tB _ v' _ wr L1
      rw [getAt_last] at hP
      have HP := hide hP
      have hyel : IsEl w y := hE.out y (hsub y (by simp))
      have hyno := hO.out y (hsub y (by simp))
      have HT := hide (fun (w2 : World) (h2 : Turns base b j tB (C.setIfInBounds j v') v' (zs ++ [y]).dropLast wr w2) => Turns.trans L1 k1 f1 h2)
      have HL := hide L1
      have hq := hide (show popTo xs x = if y = x then zs else popTo zs x by rw [← hpt, popTo_snoc])
      have hzl := hide hz
      have hS := hide hsub
      obtain ⟨m, hm⟩ : ∃ m, m = (zs ++ [y]).length := ⟨_, rfl⟩
      rw [← hm] at c1 hlen hzl
      have HY := hide hyel
      have HYN := hide hyno
      have HM := hide hm
      have hlm : m ≤ 4096 := by rw [hm]; exact L1.le
      clear L1 k1 f1 hv hz hpt hP hsub hm hyel hyno
      go_wp2_with fail
      refine HP.out.mono ?_
      rintro e w2 ⟨rfl, ht2⟩
      have T2 := HT.out w2 ht2
      rw [List.dropLast_concat] at T2
      obtain ⟨v2, L2, k2, f2⟩ := T2
      have heq := eql_el (HY.out.kept k2 HYN.out) (hX.out.kept k2 hOx.out)
      have hz2 := hide L2.lenAt
      by_cases hyx : y = x
      · rw [decide_eq_true hyx] at heq
        have HF := hide (show Turns base b j tB C v (popTo xs x) w w2 from ⟨v2, by rw [hq.out, if_pos hyx]; exact L2, k2, f2⟩)
        clear L2 k2 f2 ht2 hyx
        go_wp2
        (try simp only [Exit.inBlock, Exit.then])
        refine bodyPost_ret (results_none rfl _ _ _) rfl ?_
        exact ⟨rfl, HF.out⟩
      · rw [decide_eq_false hyx] at heq
        have HF := hide (show Turns base b j tB C v zs w w2 from ⟨v2, L2, k2, f2⟩)
        have HYX := hide hyx
        clear L2 k2 f2 ht2 hyx
        go_wp2
        go_roundw
        case rel => exact ⟨zs, fun z hz => hS.out z (by simp [hz]), by rw [hq.out, if_neg HYX.out], HF.out⟩
        case measure => rw [hz2.out, hzl.out, HM.out]; simp
end Go.Proofs.YtlhhgenpcjjajaaGreatDoor
