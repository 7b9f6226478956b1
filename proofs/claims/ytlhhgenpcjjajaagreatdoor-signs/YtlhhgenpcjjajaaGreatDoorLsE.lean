import Derived.Test.YtlhhgenpcjjajaaGreatDoorKept
import Derived.RangeFuncNested
import Derived.RangeFuncBound
import Derived.RangeFuncCalls
import Derived.RangeFuncLeaves
import Derived.Shelf.Abstract
import Derived.Shelf.RegionOpen
import Derived.OwnWalkIn
import Derived.TacticsInMore
import Derived.LoopNIn
import Derived.LoopIn
import Derived.Maps.RangeRun
import Derived.Deep.RegionHeld3
set_option linter.unusedSimpArgs false
set_option linter.unusedVariables false
namespace Go.Proofs.YtlhhgenpcjjajaaGreatDoor
open Go.RowKit
theorem Lst.ents {base b j : Nat} {tB : TypeId} {C : Array Value} {v : Value} {xs : List (Option Nat)} {w : World} (h : Lst base b j tB C v xs w) (he : ∀ x ∈ xs, IsEl w x) : Ents v xs w := ents_of h.row he
theorem Lst.own_ne {base b j : Nat} {tB : TypeId} {C : Array Value} {v : Value} {xs : List (Option Nat)} {w : World} (h : Lst base b j tB C v xs w) : v.ownBlock ≠ some b := by
  intro hk
  rcases h.row.2 with ⟨e, _⟩ | ⟨g, cap, cur, e, _, hc, _⟩
  · rw [e] at hk; cases hk
  · rw [e] at hk
    obtain rfl := Option.some.inj hk
    exact block_ne hc h.blk (Ne.symm h.ne) rfl
def Turns (base b j : Nat) (tB : TypeId) (C : Array Value) (v : Value) (ys : List (Option Nat)) (w w' : World) : Prop :=
  ∃ v', Lst base b j tB (C.setIfInBounds j v') v' ys w' ∧ Kept (b :: v.ownBlock.toList) w w' ∧ (v'.ownBlock = v.ownBlock ∨ ∀ k, v'.ownBlock = some k → w.heap.size ≤ k)
theorem lt_of_getElem? {C : Array Value} {j : Nat} {v : Value} (h : C[j]? = some v) : j < C.size := (Array.getElem?_eq_some_iff.1 h).1
set_option maxHeartbeats 1000000 in
theorem l_last (base b j : Nat) (tB : TypeId) (C : Array Value) (v : Value) (xs : List (Option Nat)) (w : World) (h : Lst base b j tB C v xs w) :
    Calls Tryz.prog 179 #[.pointer (some ⟨b, j, none⟩)] w fun e w' => e = .returned (enc (getAt xs ((xs.length : Int) - 1))) ∧ w' = w := by
  have c1 := h.at
  have hle := h.le
  obtain ⟨ao, cap, rfl⟩ := owns_shape h.row
  have H := hide (l_at base b j tB C _ xs ((xs.length : Int) - 1) w h)
  clear h
  go_enter Tryz.func179, Tryz.ntmps179
  go_wp2_with fail
  refine H.out.mono ?_
  rintro e w' ⟨rfl, rfl⟩
  go_wp2
  go_ret
  exact ⟨rfl, rfl⟩
set_option maxHeartbeats 1000000 in
theorem l_has (base b j : Nat) (tB : TypeId) (C : Array Value) (v : Value) (xs : List (Option Nat)) (x : Option Nat) (w : World) (h : Lst base b j tB C v xs w) (he : ∀ x ∈ xs, IsEl w x) (hx : IsEl w x) :
    Calls Tryz.prog 322 #[.pointer (some ⟨b, j, none⟩), enc x] w fun e w' => e = .returned (.bool (decide (x ∈ xs))) ∧ w' = w := by
  have c1 := h.at
  have hle := h.le
  have hc : Calls Tryz.prog 349 #[v, enc x] w fun e w' => e = .returned (.bool (decide (x ∈ xs))) ∧ w' = w := by
    have H := hide (idx_ok v xs x w (h.ents he) hx h.le)
    have hd : decide (0 ≤ posOf xs x) = decide (x ∈ xs) := by
      unfold posOf
      by_cases hm : x ∈ xs
      · rw [if_pos (List.idxOf_lt_length_iff.2 hm)]; simp [hm]
      · rw [if_neg (fun hl => hm (List.idxOf_lt_length_iff.1 hl))]; simp [hm]
    have HD := hide hd
    clear h hd c1
    generalize posOf xs x = q at H HD
    generalize decide (x ∈ xs) = r at HD ⊢
    go_enter Tryz.func349, Tryz.ntmps349
    go_wp2_with fail
    refine H.out.mono ?_
    rintro e w' ⟨rfl, rfl⟩
    go_wp2
    go_ret
    exact ⟨by rw [← HD.out]; rfl, rfl⟩
  obtain ⟨ao, cap, rfl⟩ := owns_shape h.row
  have H := hide hc
  clear h hc
  go_enter Tryz.func322, Tryz.ntmps322
  go_wp2_with fail
  refine H.out.mono ?_
  rintro e w' ⟨rfl, rfl⟩
  go_wp2
  go_ret
  exact ⟨rfl, rfl⟩
set_option maxHeartbeats 1000000 in
theorem l_rightAhead (base b j : Nat) (tB : TypeId) (C : Array Value) (v : Value) (xs : List (Option Nat)) (x : Option Nat) (w : World) (h : Lst base b j tB C v xs w) (he : ∀ x ∈ xs, IsEl w x) (hx : IsEl w x) :
    Calls Tryz.prog 246 #[.pointer (some ⟨b, j, none⟩), enc x] w fun e w' => e = .returned (enc (getAt xs (posOf xs x - 1))) ∧ w' = w := by
  have c1 := h.at
  have hle := h.le
  have hp : -1 ≤ posOf xs x ∧ posOf xs x ≤ 4096 := by unfold posOf; split <;> omega
  obtain ⟨hp1, hp2⟩ := hp
  have H1 := hide (idx_ok v xs x w (h.ents he) hx h.le)
  obtain ⟨ao, cap, rfl⟩ := owns_shape h.row
  have H := hide (l_at base b j tB C _ xs (posOf xs x - 1) w h)
  clear h
  generalize posOf xs x = q at H H1 hp1 hp2 ⊢
  go_enter Tryz.func246, Tryz.ntmps246
  go_wp2_with fail
  refine H1.out.mono ?_
  rintro e w' ⟨rfl, rfl⟩
  go_wp2_with fail
  refine H.out.mono ?_
  rintro e w' ⟨rfl, rfl⟩
  go_wp2
  go_ret
  exact ⟨rfl, rfl⟩
set_option maxHeartbeats 2000000 in
set_option maxRecDepth 100000 in
theorem l_push (base b j : Nat) (tB : TypeId) (C : Array Value) (v : Value) (xs : List (Option Nat)) (x : Option Nat) (w : World) (h : Lst base b j tB C v xs w) (hl : xs.length < 4096) (hb : base ≤ w.heap.size) :
    Calls Tryz.prog 271 #[.pointer (some ⟨b, j, none⟩), enc x] w fun e w' => e = .returned (.tuple #[]) ∧ Turns base b j tB C v (xs ++ [x]) w w' := by
  obtain ⟨i0, hi, hz0, hz1, hz2⟩ := info_parts info_E
  have c1 := h.at
  have hon := h.own_ne
  obtain ⟨ao, cap, rfl⟩ := owns_shape h.row
  have H := hide h
  clear h
  have k1 : Kept [] w (w.alloc (.cells #[enc x] 72)) := (Kept.refl _ _).alloc _
  have o1 := hide (k1.ownsRow H.out.row (fun _ _ => by simp))
  have b1 := hide (k1.at H.out.blk (by simp))
  have v1 := heap_alloc_at w (.cells #[enc x] 72 (0, 0))
  have HV1 := hide v1
  have HK1 := hide k1
  clear k1 v1
  go_enter Tryz.func271, Tryz.ntmps271
  go_wp2_with (at_builtin; refine wpList_append_ownF _ rfl _ _ 174 rfl base 72 i0 (.pointer none) 1 8 Tryz.underlying174 hi hz0 hz1 hz2 rfl (by decide) (.slice ao xs.length cap) xs.length (xs.map enc) rfl o1.out ⟨w.heap.size, 0, none⟩ 1 1 [enc x] rfl rfl (fun k u hu => by rw [addr_add, cell_at HV1.out, ← hu]; simp) (fun u hu => by simp at hu; subst hu; rfl) (by unfold maxLen; omega) (by omega) (by simp; omega) ?_)
  intro v' w2 hown' hgrow hfr
  have K2 : Kept (Value.slice ao xs.length cap).ownBlock.toList w w2 := (HK1.out.mono (by simp)).grown hgrow (fun k hk => .inl (by rw [hk]; simp))
  have b2 : w2.heap[b]? = some (.cells C tB (0, 0)) := K2.at H.out.blk (by simpa using hon)
  obtain ⟨ao', cap', hv⟩ := owns_shape hown'
  subst hv
  have d1 : w2.cell? ⟨b, j, none⟩ = some (.slice ao xs.length cap) := by rw [cell_at b2]; exact H.out.cell
  have d2 := free_at b2 j
  have h3 := block_setCell b2 j (.slice ao' (xs.length + 1) cap')
  have hon' : (Value.slice ao' (xs.length + 1) cap').ownBlock ≠ some b := by
    intro hk
    rcases hown'.2 with ⟨e, _⟩ | ⟨g, cap, cur, e, _, hc, _⟩
    · rw [e] at hk; cases hk
    · rw [e] at hk
      obtain rfl := Option.some.inj hk
      exact block_ne hc b2 (Ne.symm H.out.ne) rfl
  have h4 := ownsRow_setCell_other (a := ⟨b, j, none⟩) hown' hon' (.slice ao' (xs.length + 1) cap')
  have h5 : Kept (b :: (Value.slice ao xs.length cap).ownBlock.toList) w (w2.setCell ⟨b, j, none⟩ (.slice ao' (xs.length + 1) cap')) := (K2.mono (fun k hk _ => List.mem_cons_of_mem _ hk)).setCell (.inl (by simp)) _
  have hfr' : (Value.slice ao' (xs.length + 1) cap').ownBlock = (Value.slice ao xs.length cap).ownBlock ∨ ∀ k, (Value.slice ao' (xs.length + 1) cap').ownBlock = some k → w.heap.size ≤ k := by
    rcases hfr with e | e
    · exact .inl e
    · refine .inr fun k hk => ?_
      have h6 := e k hk
      have h7 : (w.alloc (.cells #[enc x] 72 (0, 0))).heap.size = w.heap.size + 1 := by simp
      omega
  have H3 := hide h3
  have H4 := hide h4
  have H5 := hide h5
  have HF := hide hfr'
  clear h3 h4 h5 hfr hfr' b2 hon' hown' hgrow K2 c1
  go_wp2
  go_end0
  refine ⟨rfl, _, ⟨H3.out, ?_, ?_, H.out.ne, by simp; omega⟩, H5.out, HF.out⟩
  · simp [lt_of_getElem? H.out.cell]
  · simpa using H4.out
set_option maxHeartbeats 2000000 in
set_option maxRecDepth 100000 in
theorem l_pop (base b j : Nat) (tB : TypeId) (C : Array Value) (v : Value) (xs : List (Option Nat)) (w : World) (h : Lst base b j tB C v xs w) :
    Calls Tryz.prog 184 #[.pointer (some ⟨b, j, none⟩)] w fun e w' => e = .returned (enc (getAt xs ((xs.length : Int) - 1))) ∧ Turns base b j tB C v xs.dropLast w w' := by
  have H1 := hide (l_last base b j tB C v xs w h)
  have c1 := h.at
  have hle := h.le
  have hon := h.own_ne
  obtain ⟨ao, cap, rfl⟩ := owns_shape h.row
  have hnn : xs.length ≤ cap := by
    rcases h.row.2 with ⟨e, e0⟩ | ⟨g, cap', cur, e, _, _, hnc, _⟩
    · injection e with e1 e2 e3; omega
    · injection e with e1 e2 e3; omega
  obtain ⟨m, hm⟩ : ∃ m : Nat, m = xs.length - 1 := ⟨_, rfl⟩
  have hmx : max (0 : Int) ((xs.length : Int) - 1) = (m : Int) := by omega
  have hf := free_at h.blk j
  have hfin : Turns base b j tB C (.slice ao xs.length cap) xs.dropLast w (w.drew.setCell ⟨b, j, none⟩ (.slice ao m cap)) := by
    have hr : (w.drew.setCell ⟨b, j, none⟩ (.slice ao m cap)).ownsRow base 72 1 (.slice ao m cap) xs.dropLast.length (xs.dropLast.map enc) := by
      have hr0 : w.ownsRow base 72 1 (.slice ao m cap) xs.dropLast.length (xs.dropLast.map enc) := by
        refine ⟨by simp, ?_⟩
        rcases h.row.2 with ⟨e, e0⟩ | ⟨g, cap', cur, e, hbg, hc, hnc, hcm, hcs, ht⟩
        · injection e with e1 e2 e3
          exact .inl ⟨by rw [e1, e3]; congr 1; omega, by simp; omega⟩
        · injection e with e1 e2 e3
          refine .inr ⟨g, cap, cur, by rw [e1]; congr 1; simp; omega, hbg, hc, by simp; omega, by omega, by rw [e3]; exact hcs, ?_⟩
          rw [Nat.mul_one] at ht ⊢
          rw [List.length_dropLast, List.map_dropLast, ← ht, List.dropLast_eq_take, List.take_take]
          congr 1
          simp
          omega
      refine ownsRow_setCell_other (a := ⟨b, j, none⟩) (w := w.drew) hr0 ?_ _
      have : (Value.slice ao m cap).ownBlock = (Value.slice ao xs.length cap).ownBlock := by cases ao <;> rfl
      rw [this]; exact hon
    refine ⟨_, ⟨block_setCell (w := w.drew) h.blk j _, ?_, hr, h.ne, by simp; omega⟩, (Kept.refl _ w).drew.setCell (.inl (by simp)) _, .inl (by cases ao <;> rfl)⟩
    simp [lt_of_getElem? h.cell]
  have HF := hide hfin
  clear h hfin hm
  go_enter Tryz.func184, Tryz.ntmps184
  go_wp2_with fail
  refine H1.out.mono ?_
  rintro e w' ⟨rfl, hw⟩
  subst hw
  go_wp2_with fail
  go_region
  go_wp2
  go_ret
  exact ⟨rfl, HF.out⟩
end Go.Proofs.YtlhhgenpcjjajaaGreatDoor
namespace Go.Proofs.YtlhhgenpcjjajaaGreatDoor
open Go.RowKit
theorem posOf_cases (xs : List (Option Nat)) (x : Option Nat) : (x ∉ xs ∧ posOf xs x = -1) ∨ ∃ n : Nat, posOf xs x = n ∧ n < xs.length ∧ n = xs.idxOf x ∧ xs[n]? = some x := by
  unfold posOf
  by_cases hm : x ∈ xs
  · have hl := List.idxOf_lt_length_iff.2 hm
    rw [if_pos hl]
    exact .inr ⟨_, rfl, hl, rfl, by rw [List.getElem?_eq_getElem hl]; simp⟩
  · rw [if_neg (fun hl => hm (List.idxOf_lt_length_iff.1 hl))]
    exact .inl ⟨hm, rfl⟩
theorem Turns.refl {base b j : Nat} {tB : TypeId} {C : Array Value} {v : Value} {xs : List (Option Nat)} {w : World} (h : Lst base b j tB C v xs w) : Turns base b j tB C v xs w w := by
  have e : C.setIfInBounds j v = C := by
    have := h.cell
    apply Array.ext_getElem?
    intro i
    by_cases hij : j = i
    · subst hij; rw [this]; simp [lt_of_getElem? this]
    · simp [hij]
  exact ⟨v, by rw [e]; exact h, Kept.refl _ _, .inl rfl⟩
end Go.Proofs.YtlhhgenpcjjajaaGreatDoor
namespace Go.Proofs.YtlhhgenpcjjajaaGreatDoor
open Go.RowKit
def repl (xs : List (Option Nat)) (x y : Option Nat) : List (Option Nat) := if x ∈ xs then xs.set (xs.idxOf x) y else xs
theorem Turns.trans {base b j : Nat} {tB : TypeId} {C : Array Value} {v v' : Value} {ys zs : List (Option Nat)} {w w1 w2 : World}
    (h1 : Lst base b j tB (C.setIfInBounds j v') v' ys w1) (hk : Kept (b :: v.ownBlock.toList) w w1) (hf : v'.ownBlock = v.ownBlock ∨ ∀ k, v'.ownBlock = some k → w.heap.size ≤ k)
    (h2 : Turns base b j tB (C.setIfInBounds j v') v' zs w1 w2) : Turns base b j tB C v zs w w2 := by
  obtain ⟨v2, L2, k2, f2⟩ := h2
  refine ⟨v2, by simpa using L2, hk.next k2 ?_, ?_⟩
  · intro x hx
    rcases List.mem_cons.1 hx with rfl | hx
    · exact .inl (by simp)
    · rcases hf with e | e
      · exact .inl (by rw [← e]; exact List.mem_cons_of_mem _ hx)
      · exact .inr (e x (by simpa using hx))
  · rcases f2 with e | e
    · rw [e]; exact hf
    · exact .inr fun k hk' => Nat.le_trans hk.size (e k hk')
set_option maxHeartbeats 2000000 in
set_option maxRecDepth 100000 in
theorem l_replace (base b j : Nat) (tB : TypeId) (C : Array Value) (v : Value) (xs : List (Option Nat)) (x y : Option Nat) (w : World) (h : Lst base b j tB C v xs w) (he : ∀ x ∈ xs, IsEl w x) (hx : IsEl w x) :
    Calls Tryz.prog 276 #[.pointer (some ⟨b, j, none⟩), enc x, enc y] w fun e w' => e = .returned (.tuple #[]) ∧ Turns base b j tB C v (repl xs x y) w w' := by
  have c1 := h.at
  have H1 := hide (idx_ok v xs x w (h.ents he) hx h.le)
  rcases posOf_cases xs x with ⟨hno, hp⟩ | ⟨n, hp, hlt, hn, hxn⟩
  · have HF := hide (Turns.refl h)
    have hr : repl xs x y = xs := by unfold repl; rw [if_neg hno]
    rw [hr]
    obtain ⟨ao, cap, rfl⟩ := owns_shape h.row
    rw [hp] at H1
    clear h hp hr
    go_enter Tryz.func276, Tryz.ntmps276
    go_wp2_with fail
    refine H1.out.mono ?_
    rintro e w' ⟨rfl, hw⟩
    subst hw
    go_wp2
    go_end0
    exact ⟨rfl, HF.out⟩
  · have hon := h.own_ne
    have hle := h.le
    have hr : repl xs x y = xs.set n y := by unfold repl; rw [if_pos (List.mem_of_getElem? hxn), ← hn]
    rw [hr]
    rcases h.row.2 with ⟨_, e0⟩ | ⟨g, cap, cur, rfl, hbg, hcur, hnc, hm, hsz, htake⟩
    · omega
    rw [Nat.mul_one] at hsz htake
    have hgb : g ≠ b := fun e => hon (by rw [e]; rfl)
    have d1 : ∃ u, w.cell? ⟨g, n, none⟩ = some u := ⟨cur[n]'(by omega), by rw [cell_at hcur]; exact Array.getElem?_eq_getElem (by omega)⟩
    obtain ⟨u, d1⟩ := d1
    have d2 := free_at hcur n
    have hfin : Turns base b j tB C (.slice (some ⟨g, 0, none⟩) xs.length cap) (xs.set n y) w (w.setCell ⟨g, n, none⟩ (enc y)) := by
      have hb2 : (w.setCell ⟨g, n, none⟩ (enc y)).heap[b]? = some (.cells C tB (0, 0)) := by rw [Below.heap_setCell w ⟨g, n, none⟩ _ b (Ne.symm hgb)]; exact h.blk
      have L2 : Lst base b j tB C (.slice (some ⟨g, 0, none⟩) xs.length cap) (xs.set n y) (w.setCell ⟨g, n, none⟩ (enc y)) := by
        refine ⟨hb2, h.cell, ⟨by simp, .inr ⟨g, cap, _, by simp, hbg, block_setCell hcur n (enc y), by simpa using hnc, hm, by simpa using hsz, ?_⟩⟩, h.ne, by simpa using hle⟩
        have : (cur.setIfInBounds n (enc y)).toList = cur.toList.set n (enc y) := by simp
        rw [this, List.length_set, Nat.mul_one, List.take_set, htake, List.map_set]
      obtain ⟨v', L', k', f'⟩ := Turns.refl L2
      exact ⟨v', L', (((Kept.refl _ w).setCell (p := ⟨g, n, none⟩) (.inl (by simp [Value.ownBlock])) _).trans k'), by simpa using f'⟩
    have HF := hide hfin
    have HX := hide hxn
    have HN := hide hn
    rw [hp] at H1
    clear h hp htake hcur hfin hn hxn hr
    go_enter Tryz.func276, Tryz.ntmps276
    go_wp2_with fail
    refine H1.out.mono ?_
    rintro e w' ⟨rfl, hw⟩
    subst hw
    go_wp2
    go_end0
    exact ⟨rfl, HF.out⟩
end Go.Proofs.YtlhhgenpcjjajaaGreatDoor
namespace Go.Proofs.YtlhhgenpcjjajaaGreatDoor
open Go.RowKit
theorem IsEl.kept {S : List Nat} {w w' : World} {x : Option Nat} (h : IsEl w x) (hk : Kept S w w') (hS : ∀ k, x = some k → k ∉ S) : IsEl w' x := by
  intro k hx
  obtain ⟨c, hc⟩ := h k hx
  exact ⟨c, hk.at hc (hS k hx)⟩
end Go.Proofs.YtlhhgenpcjjajaaGreatDoor
namespace Go.Proofs.YtlhhgenpcjjajaaGreatDoor
open Go.RowKit
attribute [local go_sem] Oper.semAt_some
def KeepsB (K : List Nat) (W W' : World) : Prop := ∀ k ∈ K, W'.heap[k]? = W.heap[k]?
theorem KeepsB.refl (K : List Nat) (W : World) : KeepsB K W W := fun _ _ => rfl
theorem KeepsB.trans {K : List Nat} {A B C : World} (h : KeepsB K A B) (k : KeepsB K B C) : KeepsB K A C := fun x hx => (k x hx).trans (h x hx)
theorem KeepsB.of_kept {K S : List Nat} {W W' : World} (h : Kept S W W') (hK : ∀ k ∈ K, k < W.heap.size ∧ k ∉ S) : KeepsB K W W' := fun k hk => h.block k (hK k hk).1 (hK k hk).2
theorem KeepsB.put {K : List Nat} {w : World} (hK : ∀ k ∈ K, k < w.heap.size) (W : World) (l : Nat) (o o' : Obj) (hl : w.heap.size ≤ l) (_ : W.heap[l]? = some o) (_ : o.isCells = false) (_ : o.isWalk = false) : KeepsB K W (W.putObj l o') :=
  fun k hk => World.putObj_heap_other (by have := hK k hk; omega)
theorem Lst.keepsB {base b j : Nat} {tB : TypeId} {C : Array Value} {v : Value} {xs : List (Option Nat)} {w w' : World} (h : Lst base b j tB C v xs w) {K : List Nat} (hk : KeepsB K w w') (hb : b ∈ K) (hv : ∀ k, v.ownBlock = some k → k ∈ K) : Lst base b j tB C v xs w' := by
  refine ⟨(hk b hb).trans h.blk, h.cell, ⟨h.row.1, ?_⟩, h.ne, h.le⟩
  rcases h.row.2 with e | ⟨g, cap, cur, e, hbg, hc, r⟩
  · exact .inl e
  · exact .inr ⟨g, cap, cur, e, hbg, (hk g (hv g (by rw [e]; rfl))).trans hc, r⟩
set_option maxHeartbeats 2000000 in
set_option maxRecDepth 100000 in
theorem up1_in (m : Nat) (hm1 : 1 ≤ m) (base b j : Nat) (tB : TypeId) (C : Array Value) (v : Value) (xs : List (Option Nat)) (n bN bL l : Nat) (K : List Nat) (J Jx : List { x : Option Nat // x ∈ xs } → World → Prop)
    (hn : n ≤ xs.length) (hKb : b ∈ K) (hKL : bL ∈ K) (hKv : ∀ k, v.ownBlock = some k → k ∈ K)
    (hY : ∀ pre x W, J pre W → pre.length < n → YieldAt Fence.wide (m - 1) Tryz.prog l #[enc x.1] W fun e W' =>
      (e = .returned (.bool true) ∧ J (pre ++ [x]) W' ∧ KeepsB K W W') ∨ (e = .returned (.bool false) ∧ Jx (pre ++ [x]) W'))
    (W : World) (h : Lst base b j tB C v xs W) (hN : W.cell? ⟨bN, 0, none⟩ = some (.int .i64 n)) (hL : W.cell? ⟨bL, 0, none⟩ = some (.pointer (some ⟨b, j, none⟩))) (h0 : J [] W) :
    CallsIn Fence.wide m Tryz.prog 357 #[.func (.yield l) #[] #[], .pointer (some ⟨bN, 0, none⟩), .pointer (some ⟨bL, 0, none⟩)] W fun e W' => (∃ r, e = .returned r) ∧
      ((∃ ys, ys.map (·.1) = (xs.take n).reverse ∧ J ys W') ∨ (∃ pre, pre.map (·.1) <+: (xs.take n).reverse ∧ Jx pre W')) := by
  refine callsIn_of_wp Tryz.func357 rfl trivial ?_ rfl
  simp only [Tryz.ntmps357, List.size_toArray, List.length_cons, List.length_nil, Nat.reduceAdd, Nat.reduceSub, Array.replicate_succ, Array.replicate_zero, List.push_toArray, List.append_toArray, List.nil_append, List.cons_append]
  have hle := h.le
  have HL := hide h
  clear h
  have HY := hide hY
  clear hY
  gi_wp2
  gi_loopw [4] (fun i wr => ∃ (k : Nat) (pre : List { x : Option Nat // x ∈ xs }), k ≤ n ∧ pre.length = k ∧ i = .int .i64 ((n : Int) - 1 - k) ∧ pre.map (·.1) = (xs.take n).reverse.take k ∧ KeepsB K W wr ∧ J pre wr)
    (fun i _ => ((intOf i) + 1).toNat)
  case atStart => exact ⟨0, [], Nat.zero_le _, rfl, by simp, by simp, KeepsB.refl _ _, h0⟩
  case round =>
    obtain ⟨k, pre, hk, hpl, rfl, hpre, hkb, hJ⟩ := hrel
    have L1 := HL.out.keepsB hkb hKb hKv
    have cL : wr.cell? ⟨bL, 0, none⟩ = some (.pointer (some ⟨b, j, none⟩)) := (World.cell?_of_block (w := W) (hkb bL hKL)).trans hL
    have HP := hide hpre
    have HKB := hide hkb
    clear hpre hkb
    by_cases hlt : k < n
    · obtain ⟨q, hq⟩ : ∃ q : Nat, q = n - 1 - k := ⟨_, rfl⟩
      have hqi : (n : Int) - 1 - k = (q : Int) := by omega
      have hql : q < xs.length := by omega
      rw [hqi]
      have hA := l_at base b j tB C v xs (q : Int) wr L1
      have hg : getAt xs (q : Int) = xs[q] := by unfold getAt; rw [if_pos (by omega)]; simp [hql]
      rw [hg] at hA
      have HA := hide hA
      obtain ⟨fn, tmps, assign, body, hy, hR⟩ := HY.out pre ⟨xs[q], List.getElem_mem hql⟩ wr hJ (by omega)
      dsimp only at hy
      have hstep : (pre ++ [(⟨xs[q], List.getElem_mem hql⟩ : { x : Option Nat // x ∈ xs })]).map (·.1) = (xs.take n).reverse.take (k + 1) := by
        have hlen : (xs.take n).length = n := by simp; omega
        have e1 : (xs.take n).reverse[k]? = some xs[q] := by
          rw [List.getElem?_reverse (by omega), hlen, List.getElem?_take, if_pos (by omega), show n - 1 - k = q from hq.symm, List.getElem?_eq_getElem hql]
        rw [List.map_append, HP.out, List.take_add_one, e1]
        rfl
      have HS := hide hstep
      have HR := hide hR
      have HQ := hide hq
      clear hA hg hstep hR L1 hq hqi
      gi_wp2_with (refine ⟨trivial, ?_⟩; gi_at_call 248; refine (callsIn_wide.2 HA.out).mono ?_; rintro e w' ⟨rfl, rfl⟩)
      refine HR.out.mono ?_
      rintro e W3 (⟨rfl, hJ3, hk3⟩ | ⟨rfl, hJx3⟩)
      · have HK3 := hide (HKB.out.trans hk3)
        clear hk3
        gi_wp2
        go_roundw
        case rel => exact ⟨k + 1, _, by omega, by simp [hpl], by have := HQ.out; congr 1; omega, HS.out, HK3.out, hJ3⟩
        case measure => simp [intOf]
      · gi_wp2
        refine bodyPost_ret (results_none rfl _ _ _) rfl ?_
        refine ⟨⟨_, rfl⟩, .inr ⟨_, ?_, hJx3⟩⟩
        rw [HS.out]
        exact List.take_prefix _ _
    · have hkn : k = n := by omega
      have hys : pre.map (·.1) = (xs.take n).reverse := by
        rw [HP.out, List.take_of_length_le (by simp; omega)]
      have HYS := hide hys
      have hneg : (n : Int) - 1 - k = -1 := by omega
      rw [hneg]
      clear hys hkn hneg
      gi_wp2
      go_end0
      exact ⟨⟨_, rfl⟩, .inl ⟨pre, HYS.out, hJ⟩⟩
end Go.Proofs.YtlhhgenpcjjajaaGreatDoor
namespace Go.Proofs.YtlhhgenpcjjajaaGreatDoor
open Go.RowKit
abbrev upWorld (b j : Nat) (n : Int) (w : World) : World := (w.alloc (.cells #[.pointer (some ⟨b, j, none⟩)] 280 (0, 0))).alloc (.cells #[.int .i64 n] 3 (0, 0))
abbrev upVal (s : Nat) : Value := .func (.func 357) #[] #[.pointer (some ⟨s + 1, 0, none⟩), .pointer (some ⟨s, 0, none⟩)]
theorem upFrom_ok (b j : Nat) (n : Int) (w : World) :
    Calls Tryz.prog 330 #[.pointer (some ⟨b, j, none⟩), .int .i64 n] w fun e w' => e = .returned (upVal w.heap.size) ∧ w' = upWorld b j n w := by
  go_enter Tryz.func330, Tryz.ntmps330
  go_wp2
  go_ret
  exact ⟨by simp, rfl⟩
set_option maxHeartbeats 1000000 in
theorem l_up (base b j : Nat) (tB : TypeId) (C : Array Value) (v : Value) (xs : List (Option Nat)) (w : World) (h : Lst base b j tB C v xs w) :
    Calls Tryz.prog 294 #[.pointer (some ⟨b, j, none⟩)] w fun e w' => e = .returned (upVal w.heap.size) ∧ w' = upWorld b j xs.length w := by
  have c1 := h.at
  obtain ⟨ao, cap, rfl⟩ := owns_shape h.row
  clear h
  have H := hide (upFrom_ok b j xs.length w)
  go_enter Tryz.func294, Tryz.ntmps294
  go_wp2_with fail
  refine H.out.mono ?_
  rintro e w' ⟨rfl, hw⟩
  have HW := hide hw
  clear hw
  go_wp2
  go_ret
  exact ⟨rfl, HW.out⟩
theorem up_stops (m : Nat) (hm1 : 1 ≤ m) (base b j : Nat) (tB : TypeId) (C : Array Value) (v : Value) (xs : List (Option Nat)) (n s : Nat) (K : List Nat) (w : World)
    (h : Lst base b j tB C v xs w) (hn : n ≤ xs.length) (hKb : b ∈ K) (hKL : s ∈ K) (hKv : ∀ k, v.ownBlock = some k → k ∈ K) (hlt : s + 1 < w.heap.size)
    (hN : w.heap[s + 1]? = some (.cells #[.int .i64 n] 3 (0, 0))) (hL : w.heap[s]? = some (.cells #[.pointer (some ⟨b, j, none⟩)] 280 (0, 0))) :
    SeqStopsK Fence.wide m Tryz.prog 357 #[.pointer (some ⟨s + 1, 0, none⟩), .pointer (some ⟨s, 0, none⟩)] (fun x : { x : Option Nat // x ∈ xs } => #[enc x.1]) (KeepsB K)
      (fun ys => ys.map (·.1) = (xs.take n).reverse) (fun pre => pre.map (·.1) <+: (xs.take n).reverse) n w := by
  intro l J Jx W hB _ _ hY h0
  have hbl := lt_of_block h.blk
  have L1 : Lst base b j tB C v xs W := by
    refine h.keepsB (K := b :: v.ownBlock.toList) (fun k hk => hB.block k ?_) (by simp) (fun k hk => by simp [hk])
    rcases List.mem_cons.1 hk with rfl | hk
    · exact hbl
    · exact (h.row.lt k (by simpa using hk)).2
  exact up1_in m hm1 base b j tB C v xs n (s + 1) s l K J Jx hn hKb hKL hKv hY W L1 (by rw [cell_at ((hB.block _ hlt).trans hN)]; rfl) (by rw [cell_at ((hB.block _ (by omega)).trans hL)]; rfl) h0
end Go.Proofs.YtlhhgenpcjjajaaGreatDoor
namespace Go.Proofs.YtlhhgenpcjjajaaGreatDoor
open Go.RowKit
def eqS (a b : ByteArray) : Bool := a.toList == b.toList
theorem eqS_iff {a b : ByteArray} : eqS a b = true ↔ a = b := by
  unfold eqS
  rw [ByteArray.toList_eq, ByteArray.toList_eq, beq_iff_eq]
  exact ⟨fun h => WideShapes.bytes_inj h, fun h => by rw [h]⟩
theorem eqS_ne {a b : ByteArray} : eqS a b = false ↔ a ≠ b := by rw [Ne, ← eqS_iff]; simp
def hasS (ss : List ByteArray) (x : ByteArray) : Bool := ss.any (eqS x)
def posS (ss : List ByteArray) (s : ByteArray) : Int := if ss.findIdx (eqS s) < ss.length then (ss.findIdx (eqS s) : Int) else -1
theorem posS_at {xs : List ByteArray} {x : ByteArray} {k : Nat} (hk : k < xs.length) (hx : xs[k] = x) (hno : ∀ j, j < k → xs[j]? ≠ some x) : posS xs x = k := by
  have h1 : xs.findIdx (eqS x) = k := by
    have hlt : xs.findIdx (eqS x) < xs.length := List.findIdx_lt_length_of_exists ⟨x, hx ▸ List.getElem_mem hk, eqS_iff.2 rfl⟩
    have hge : ¬ xs.findIdx (eqS x) < k := fun hlt' => hno _ hlt' (by
      rw [List.getElem?_eq_getElem hlt]
      exact congrArg some (eqS_iff.1 (List.findIdx_getElem (w := hlt))).symm)
    have hle : ¬ k < xs.findIdx (eqS x) := fun hlt' => by
      have := List.not_of_lt_findIdx hlt'
      rw [hx] at this
      exact absurd (eqS_iff.2 rfl) (by simpa using this)
    omega
  unfold posS
  rw [h1, if_pos hk]
theorem posS_no {xs : List ByteArray} {x : ByteArray} (hno : ∀ j, j < xs.length → xs[j]? ≠ some x) : posS xs x = -1 := by
  unfold posS
  rw [if_neg]
  intro h
  exact hno _ h (by rw [List.getElem?_eq_getElem h]; exact congrArg some (eqS_iff.1 (List.findIdx_getElem (w := h))).symm)
theorem posS_mem (xs : List ByteArray) (x : ByteArray) : decide (0 ≤ posS xs x) = hasS xs x := by
  unfold posS hasS
  by_cases hm : xs.findIdx (eqS x) < xs.length
  · rw [if_pos hm]
    have : xs.any (eqS x) = true := List.any_eq_true.2 ⟨_, List.getElem_mem hm, List.findIdx_getElem (w := hm)⟩
    simp [this]
  · rw [if_neg hm]
    have : xs.any (eqS x) = false := by
      rw [List.any_eq_false]
      intro y hy hq
      exact hm (List.findIdx_lt_length_of_exists ⟨y, hy, hq⟩)
    simp [this]
set_option maxHeartbeats 1000000 in
set_option maxRecDepth 100000 in
theorem idxS_ok (g cap : Nat) (ss : List ByteArray) (x : ByteArray) (w : World) (hc : ∀ k, (hk : k < ss.length) → w.cell? ⟨g, k, none⟩ = some (.string ss[k])) (hle : ss.length ≤ 4096) :
    Calls Tryz.prog 329 #[.slice (some ⟨g, 0, none⟩) ss.length cap, .string x] w fun e w' => e = .returned (.int .i64 (posS ss x)) ∧ w' = w := by
  have HC := hide hc
  clear hc
  go_enter Tryz.func329, Tryz.ntmps329
  go_wp2
  go_loopw [8] (fun i wr => ∃ k : Nat, k ≤ ss.length ∧ i = .int .i64 k ∧ wr = w ∧ ∀ j, j < k → ss[j]? ≠ some x) (fun i _ => ss.length - (intOf i).toNat)
  case atStart => exact ⟨0, Nat.zero_le _, rfl, rfl, fun j hj => absurd hj (Nat.not_lt_zero j)⟩
  case round =>
    obtain ⟨k, hk, rfl, rfl, hno⟩ := hrel
    have HN := hide hno
    clear hno
    by_cases hlt : k < ss.length
    · have c2 := HC.out k hlt
      obtain ⟨y, hy⟩ : ∃ y, y = ss[k] := ⟨_, rfl⟩
      rw [← hy] at c2
      have HY := hide hy
      clear hy
      by_cases hx : x = y
      · have hp := hide (posS_at hlt (HY.out.symm.trans hx.symm) HN.out)
        subst hx
        go_wp2
        go_ret
        exact ⟨by rw [hp.out]; rfl, rfl⟩
      · have HXK := hide hx
        have hq : (x.toList == y.toList) = false := eqS_ne.2 hx
        clear hx
        go_wp2
        go_roundw
        case rel =>
          refine ⟨k + 1, by omega, by go_num, by first | rfl | trivial, fun j hj => ?_⟩
          by_cases e : j = k
          · subst e; rw [List.getElem?_eq_getElem hlt]; exact fun h => HXK.out ((Option.some.inj h).symm.trans HY.out.symm)
          · exact HN.out j (by omega)
        case measure => simp [intOf]; omega
    · have hp := hide (posS_no (xs := ss) (x := x) (fun j hj => HN.out j (by omega)))
      go_wp2
      go_ret
      exact ⟨by rw [hp.out]; rfl, rfl⟩
set_option maxHeartbeats 1000000 in
theorem containsS_ok (g cap : Nat) (ss : List ByteArray) (x : ByteArray) (w : World) (hc : ∀ k, (hk : k < ss.length) → w.cell? ⟨g, k, none⟩ = some (.string ss[k])) (hle : ss.length ≤ 4096) :
    Calls Tryz.prog 292 #[.slice (some ⟨g, 0, none⟩) ss.length cap, .string x] w fun e w' => e = .returned (.bool (hasS ss x)) ∧ w' = w := by
  have H := hide (idxS_ok g cap ss x w hc hle)
  have HD := hide (posS_mem ss x)
  clear hc
  generalize posS ss x = q at H HD
  generalize hasS ss x = r at HD ⊢
  go_enter Tryz.func292, Tryz.ntmps292
  go_wp2_with fail
  refine H.out.mono ?_
  rintro e w' ⟨rfl, rfl⟩
  go_wp2
  go_ret
  exact ⟨by rw [← HD.out]; rfl, rfl⟩
structure AskAt (E : List Nat) (v : Value) (p : ByteArray → Bool) (w : World) : Prop where
  ex : ∃ k lb, v = .func (.func k) #[] lb ∧ Enters Tryz.prog k ∧ ∀ W, KeepsB E w W → ∀ s, Calls Tryz.prog k (#[.string s] ++ lb) W fun e W' => e = .returned (.bool (p s)) ∧ W' = W
  lt : ∀ e ∈ E, e < w.heap.size
theorem AskAt.keeps {E : List Nat} {v : Value} {p : ByteArray → Bool} {w w' : World} (h : AskAt E v p w) (hk : KeepsB E w w') (hs : w.heap.size ≤ w'.heap.size) : AskAt E v p w' := by
  obtain ⟨⟨k, lb, rfl, he, ha⟩, hl⟩ := h
  exact ⟨⟨k, lb, rfl, he, fun W hW s => ha W (hk.trans hW) s⟩, fun e hE => Nat.lt_of_lt_of_le (hl e hE) hs⟩
theorem AskAt.kept {E S : List Nat} {v : Value} {p : ByteArray → Bool} {w w' : World} (h : AskAt E v p w) (hk : Kept S w w') (hS : ∀ e ∈ E, e ∉ S) : AskAt E v p w' :=
  h.keeps (KeepsB.of_kept hk fun k hE => ⟨h.lt k hE, hS k hE⟩) hk.size
theorem AskAt.kept0 {E : List Nat} {v : Value} {p : ByteArray → Bool} {w w' : World} (h : AskAt E v p w) (hk : Kept [] w w') : AskAt E v p w' := h.kept hk (fun _ _ => by simp)
theorem keepsB_cell {E : List Nat} {w W : World} (h : KeepsB E w W) {b : Nat} (hb : b ∈ E) {c : Array Value} {t : TypeId} (hc : w.heap[b]? = some (.cells c t (0, 0))) : W.heap[b]? = some (.cells c t (0, 0)) := (h b hb).trans hc
set_option maxHeartbeats 1000000 in
theorem is1_ok (bs g cap : Nat) (ss : List ByteArray) (w : World) (h1 : w.heap[bs]? = some (.cells #[.slice (some ⟨g, 0, none⟩) ss.length cap] 204 (0, 0))) (h2 : w.heap[g]? = some (.cells (ss.map Value.string).toArray 9 (0, 0))) (hle : ss.length ≤ 4096) :
    AskAt [bs, g] (.func (.func 291) #[] #[.pointer (some ⟨bs, 0, none⟩)]) (hasS ss) w := by
  refine ⟨⟨_, _, rfl, enters_of Tryz.func291 (by kernel_rfl) rfl, fun W hW s => ?_⟩, fun e he => ?_⟩
  · have c1 : W.cell? ⟨bs, 0, none⟩ = some (.slice (some ⟨g, 0, none⟩) ss.length cap) := by rw [cell_at (keepsB_cell hW (by simp) h1)]; rfl
    have H := hide (containsS_ok g cap ss s W (fun k hk => by rw [cell_at (keepsB_cell hW (by simp) h2)]; simp [hk]) hle)
    clear h1 h2 hW
    show Calls Tryz.prog 291 #[.string s, .pointer (some ⟨bs, 0, none⟩)] W _
    generalize hasS ss s = r at H ⊢
    go_enter Tryz.func291, Tryz.ntmps291
    go_wp2_with fail
    refine H.out.mono ?_
    rintro e w' ⟨rfl, rfl⟩
    go_wp2
    go_ret
    exact ⟨rfl, rfl⟩
  · simp at he
    rcases he with rfl | rfl
    · exact lt_of_block h1
    · exact lt_of_block h2
theorem is_ok (g cap : Nat) (n : Nat) (w : World) :
    Calls Tryz.prog 225 #[.slice (some ⟨g, 0, none⟩) n cap] w fun e w' => e = .returned (.func (.func 291) #[] #[.pointer (some ⟨w.heap.size, 0, none⟩)]) ∧ w' = w.alloc (.cells #[.slice (some ⟨g, 0, none⟩) n cap] 204 (0, 0)) := by
  go_enter Tryz.func225, Tryz.ntmps225
  go_wp2
  go_ret
  exact ⟨rfl, rfl⟩
end Go.Proofs.YtlhhgenpcjjajaaGreatDoor
namespace Go.Proofs.YtlhhgenpcjjajaaGreatDoor
open Go.RowKit
theorem KeepsB.sub {K K' : List Nat} {A B : World} (h : KeepsB K A B) (hs : ∀ k ∈ K', k ∈ K) : KeepsB K' A B := fun k hk => h k (hs k hk)
set_option maxHeartbeats 1000000 in
theorem but1_ok (b1 b2 : Nat) (E1 E2 : List Nat) (v1 v2 : Value) (p q : ByteArray → Bool) (w : World) (h1 : w.heap[b1]? = some (.cells #[v1] 89 (0, 0))) (h2 : w.heap[b2]? = some (.cells #[v2] 89 (0, 0))) (hp : AskAt E1 v1 p w) (hq : AskAt E2 v2 q w) :
    AskAt (b1 :: b2 :: (E1 ++ E2)) (.func (.func 324) #[] #[.pointer (some ⟨b1, 0, none⟩), .pointer (some ⟨b2, 0, none⟩)]) (fun s => p s && !q s) w := by
  refine ⟨⟨_, _, rfl, enters_of Tryz.func324 (by kernel_rfl) rfl, fun W hW s => ?_⟩, fun e he => ?_⟩
  · have c1 : W.cell? ⟨b1, 0, none⟩ = some v1 := by rw [cell_at (keepsB_cell hW (by simp) h1)]; rfl
    have c2 : W.cell? ⟨b2, 0, none⟩ = some v2 := by rw [cell_at (keepsB_cell hW (by simp) h2)]; rfl
    obtain ⟨k1, lb1, rfl, e1, a1⟩ := hp.ex
    obtain ⟨k2, lb2, rfl, e2, a2⟩ := hq.ex
    have A1 := hide (a1 W (hW.sub (fun k hk => by simp [hk])) s)
    have A2 := hide (a2 W (hW.sub (fun k hk => by simp [hk])) s)
    have f1 : ∀ args w, (callFunc k1 args).run Tryz.prog w = .ok (.enter k1 args) w := e1
    have f2 : ∀ args w, (callFunc k2 args).run Tryz.prog w = .ok (.enter k2 args) w := e2
    clear h1 h2 hp hq hW a1 a2 e1 e2
    show Calls Tryz.prog 324 #[.string s, .pointer (some ⟨b1, 0, none⟩), .pointer (some ⟨b2, 0, none⟩)] W _
    cases hps : p s with
    | true =>
      rw [hps] at A1
      generalize q s = r at A2 ⊢
      go_enter Tryz.func324, Tryz.ntmps324
      go_wp2_with fail
      refine A1.out.mono ?_
      rintro e w' ⟨rfl, rfl⟩
      go_wp2_with fail
      refine A2.out.mono ?_
      rintro e w' ⟨rfl, rfl⟩
      go_wp2
      go_ret
      exact ⟨rfl, rfl⟩
    | false =>
      rw [hps] at A1
      go_enter Tryz.func324, Tryz.ntmps324
      go_wp2_with fail
      refine A1.out.mono ?_
      rintro e w' ⟨rfl, rfl⟩
      go_wp2
      go_ret
      exact ⟨rfl, rfl⟩
  · simp at he
    rcases he with rfl | rfl | he | he
    · exact lt_of_block h1
    · exact lt_of_block h2
    · exact hp.lt e he
    · exact hq.lt e he
theorem but_ask2 (E1 E2 : List Nat) (v1 v2 : Value) (p q : ByteArray → Bool) (w : World) (hp : AskAt E1 v1 p w) (hq : AskAt E2 v2 q w) :
    Calls Tryz.prog 280 #[v1, v2] w fun e w' => (∃ v, e = .returned v ∧ AskAt (w.heap.size :: (w.heap.size + 1) :: (E1 ++ E2)) v (fun s => p s && !q s) w' ∧ w'.heap[w.heap.size]? = some (.cells #[v1] 89 (0, 0)) ∧ w'.heap[w.heap.size + 1]? = some (.cells #[v2] 89 (0, 0))) ∧ Kept [] w w' := by
  have h : Calls Tryz.prog 280 #[v1, v2] w fun e w' => e = .returned (.func (.func 324) #[] #[.pointer (some ⟨w.heap.size, 0, none⟩), .pointer (some ⟨w.heap.size + 1, 0, none⟩)]) ∧ w' = (w.alloc (.cells #[v1] 89 (0, 0))).alloc (.cells #[v2] 89 (0, 0)) := by
    obtain ⟨k1, lb1, rfl, _, _⟩ := hp.ex
    obtain ⟨k2, lb2, rfl, _, _⟩ := hq.ex
    clear hp hq
    go_enter Tryz.func280, Tryz.ntmps280
    go_wp2
    go_ret
    exact ⟨by simp, rfl⟩
  refine h.mono ?_
  rintro e w' ⟨rfl, rfl⟩
  have k1 : Kept [] w (w.alloc (.cells #[v1] 89 (0, 0))) := (Kept.refl _ _).alloc _
  have k2 := k1.alloc (.cells #[v2] 89 (0, 0))
  have g2 := heap_alloc_at (w.alloc (.cells #[v1] 89 (0, 0))) (.cells #[v2] 89 (0, 0))
  rw [World.size_alloc] at g2
  exact ⟨⟨_, rfl, but1_ok _ _ E1 E2 v1 v2 p q _ ((Below.heap_alloc _ _ _ (by simp)).trans (heap_alloc_at w _)) g2 (hp.kept0 k2) (hq.kept0 k2), (Below.heap_alloc _ _ _ (by simp)).trans (heap_alloc_at w _), g2⟩, k2⟩
end Go.Proofs.YtlhhgenpcjjajaaGreatDoor
namespace Go.Proofs.YtlhhgenpcjjajaaGreatDoor
open Go.RowKit
open Go.ChangeMaps (setBlock)
theorem beq_eqS (a b : ByteArray) : (a == b) = eqS a b := by
  have h : (a == b) = (a.data == b.data) := rfl
  rw [h]
  by_cases e : a = b
  · subst e; rw [eqS_iff.2 rfl]; simp
  · rw [eqS_ne.2 e]
    have : a.data ≠ b.data := fun hd => e (by cases a; cases b; simpa using hd)
    simpa using this
def kvE (e : MapEntry) : Value × Value := (e.key, e.val)
def kvP (p : ByteArray × Value) : Value × Value := (.string p.1, p.2)
def fnd : List (ByteArray × Value) → ByteArray → Nat → Option (Nat × Value)
  | [], _, _ => none
  | p :: L, k, i => if eqS k p.1 then some (i, p.2) else fnd L k (i + 1)
def getL : List (ByteArray × Value) → ByteArray → Option Value
  | [], _ => none
  | p :: L, k => if eqS k p.1 then some p.2 else getL L k
def putL : List (ByteArray × Value) → ByteArray → Value → List (ByteArray × Value)
  | [], k, v => [(k, v)]
  | p :: L, k, v => if eqS k p.1 then (k, v) :: L else p :: putL L k v
theorem fnd_getL : ∀ (L : List (ByteArray × Value)) (k : ByteArray) (i : Nat), (fnd L k i).map (·.2) = getL L k
  | [], _, _ => rfl
  | p :: L, k, i => by
    unfold fnd getL
    split
    · rfl
    · exact fnd_getL L k (i + 1)
theorem fnd_none : ∀ (L : List (ByteArray × Value)) (k : ByteArray) (i : Nat) (v : Value), fnd L k i = none → putL L k v = L ++ [(k, v)]
  | [], _, _, _, _ => rfl
  | p :: L, k, i, v, h => by
    unfold fnd at h
    split at h
    · cases h
    · rename_i hk
      unfold putL
      rw [if_neg hk, fnd_none L k (i + 1) v h]
      rfl
theorem fnd_some : ∀ (L : List (ByteArray × Value)) (k : ByteArray) (i j : Nat) (u v : Value), fnd L k i = some (j, u) → ∃ n, j = i + n ∧ n < L.length ∧ (L[n]?).map (·.1) = some k ∧ putL L k v = L.set n (k, v)
  | [], _, _, _, _, _, h => by cases h
  | p :: L, k, i, j, u, v, h => by
    unfold fnd at h
    split at h
    · rename_i hk
      cases h
      refine ⟨0, rfl, by simp, ?_, ?_⟩
      · simp [(eqS_iff.1 hk)]
      · unfold putL; rw [if_pos hk]; rfl
    · rename_i hk
      obtain ⟨n, e1, e2, e3, e4⟩ := fnd_some L k (i + 1) j u v h
      refine ⟨n + 1, by omega, by simpa using e2, by simpa using e3, ?_⟩
      unfold putL
      rw [if_neg hk, e4]
      rfl
theorem find_ok (k : ByteArray) : ∀ (es : List MapEntry) (L : List (ByteArray × Value)) (i : Nat), es.map kvE = L.map kvP → Instr.findNow .string (.string k) es i = some (fnd L k i)
  | [], [], _, _ => rfl
  | [], _ :: _, _, h => by simp at h
  | _ :: _, [], _, h => by simp at h
  | e :: es, p :: L, i, h => by
    simp only [List.map_cons, List.cons.injEq] at h
    have hk : e.key = .string p.1 := congrArg Prod.fst h.1
    have hv : e.val = p.2 := congrArg Prod.snd h.1
    unfold Instr.findNow fnd
    simp only [hk, Instr.sameNow, beq_eqS]
    cases hf : eqS k p.1
    · exact find_ok k es L (i + 1) h.2
    · simp [hv]
def MapS (w : World) (b : Nat) (L : List (ByteArray × Value)) : Prop := ∃ es clock, w.heap[b]? = some (.map es clock) ∧ es.toList.map kvE = L.map kvP
theorem MapS.keeps {w w' : World} {b : Nat} {L : List (ByteArray × Value)} (h : MapS w b L) (e : w'.heap[b]? = w.heap[b]?) : MapS w' b L := by
  obtain ⟨es, clock, ha, hl⟩ := h
  exact ⟨es, clock, e.trans ha, hl⟩
theorem MapS.lt {w : World} {b : Nat} {L : List (ByteArray × Value)} (h : MapS w b L) : b < w.heap.size := by
  obtain ⟨es, clock, ha, _⟩ := h
  exact (Array.getElem?_eq_some_iff.1 ha).1
theorem MapS.kept {w w' : World} {b : Nat} {L : List (ByteArray × Value)} {S : List Nat} (h : MapS w b L) (hk : Kept S w w') (hb : b ∉ S) : MapS w' b L := h.keeps (hk.block b h.lt hb)
theorem MapS.new (w : World) : MapS (w.alloc (.map #[] 0)) w.heap.size [] := ⟨#[], 0, heap_alloc_at w _, rfl⟩
theorem kept_setBlock' {S : List Nat} {a w : World} (h : Kept S a w) {b : Nat} (hb : b ∈ S ∨ a.heap.size ≤ b) (o : Obj) : Kept S a (setBlock w b o) :=
  ⟨h.os, h.tape, h.output, by show a.heap.size ≤ (w.heap.setIfInBounds b o).size; rw [Array.size_setIfInBounds]; exact h.size, fun k hk hs => by
    show (w.heap.setIfInBounds b o)[k]? = _
    rw [Array.getElem?_setIfInBounds_ne (by rintro rfl; rcases hb with hb | hb; exact hs hb; omega)]
    exact h.block k hk hs⟩
theorem setBlock_at' {w : World} {b : Nat} (h : b < w.heap.size) (o : Obj) : (setBlock w b o).heap[b]? = some o := by
  show (w.heap.setIfInBounds b o)[b]? = _
  rw [Array.getElem?_setIfInBounds]; simp [h]
theorem run_lookS {w : World} {b : Nat} {L : List (ByteArray × Value)} {T E : TypeId} {z : Value} (hT : Tryz.prog.underlying T = some (.map 9 E)) (hz : ∀ w, (zeroValue E).run Tryz.prog w = .ok z w) (h : MapS w b L) (k : ByteArray) :
    (Instr.lookup T (.map (some b)) (.string k) false).run Tryz.prog w = .ok ((getL L k).getD z) w := by
  obtain ⟨es, clock, ha, hl⟩ := h
  have hu : (underlying 9).run Tryz.prog w = .ok .string w := run_underlying Tryz.underlying9 _
  have hc : ∀ x, (Instr.checkKey x 10000 9 (.string k)).run Tryz.prog w = .ok () w := fun x => by
    unfold Instr.checkKey
    simp [hu]
  have hf := find_ok k es.toList L 0 hl
  have hg := fnd_getL L k 0
  cases hq : fnd L k 0 with
  | none =>
    rw [hq] at hf hg
    rw [← hg]
    simp [Instr.lookup, run_underlying hT, MapKept.run_getObj_map ha, hc, Instr.findKey, hu, hf, hz, Result.andThen]
  | some p =>
    rw [hq] at hf hg
    rw [← hg]
    simp [Instr.lookup, run_underlying hT, MapKept.run_getObj_map ha, hc, Instr.findKey, hu, hf, Result.andThen]
theorem run_putS {w : World} {b : Nat} {L : List (ByteArray × Value)} {T E : TypeId} (hT : Tryz.prog.underlying T = some (.map 9 E)) (h : MapS w b L) (k : ByteArray) (v : Value) :
    ∃ w', (Instr.mapUpdate T (.map (some b)) (.string k) v).run Tryz.prog w = .ok () w' ∧ MapS w' b (putL L k v) ∧ Kept [b] w w' ∧ w'.heap.size = w.heap.size := by
  have hlt := h.lt
  obtain ⟨es, clock, ha, hl⟩ := h
  have hu : (underlying 9).run Tryz.prog w = .ok .string w := run_underlying Tryz.underlying9 _
  have hc : ∀ x, (Instr.checkKey x 10000 9 (.string k)).run Tryz.prog w = .ok () w := fun x => by
    unfold Instr.checkKey
    simp [hu]
  have hf := find_ok k es.toList L 0 hl
  cases hq : fnd L k 0 with
  | none =>
    rw [hq] at hf
    refine ⟨setBlock w b (.map (es.push { key := .string k, val := v, born := clock }) (clock + 1)), ?_, ⟨_, _, setBlock_at' hlt _, ?_⟩, kept_setBlock' (Kept.refl _ _) (.inl (by simp)) _, ?_⟩
    · simp [Instr.mapUpdate, run_underlying hT, MapKept.run_getObj_map ha, hc, Instr.findKey, hu, hf, setObj, Sem.run, ha, setBlock, Result.andThen]
    · rw [fnd_none L k 0 v hq]
      simp [hl, kvE, kvP]
    · show (w.heap.setIfInBounds b _).size = _; simp
  | some p =>
    obtain ⟨j, u⟩ := p
    rw [hq] at hf
    obtain ⟨n, hj, hn, hkey, hput⟩ := fnd_some L k 0 j u v hq
    have hj' : j = n := by omega
    subst hj'
    have hlen : es.size = L.length := by have := congrArg List.length hl; simpa using this
    have hes : (es[j]?).map (·.key) = some (.string k) := by
      have h1 : (es.toList.map kvE)[j]? = (L.map kvP)[j]? := by rw [hl]
      rw [List.getElem?_map, List.getElem?_map] at h1
      rw [Array.getElem?_toList] at h1
      rw [List.getElem?_eq_getElem hn] at hkey h1
      rw [Array.getElem?_eq_getElem (by omega)] at h1 ⊢
      simp [kvE, kvP] at h1 hkey ⊢
      rw [h1.1, hkey]
    refine ⟨setBlock w b (.map (es.modify j fun e => { e with key := .string k, val := v }) clock), ?_, ⟨_, _, setBlock_at' hlt _, ?_⟩, kept_setBlock' (Kept.refl _ _) (.inl (by simp)) _, ?_⟩
    · have hs : (Instr.keyThatStays (((es[j]?).map (·.key)).getD (.string k)) (.string k)).run Tryz.prog w = .ok (.string k) w := by
        rw [hes]
        have hkk : (k == k) = true := by rw [beq_eqS]; exact eqS_iff.2 rfl
        simp [Instr.keyThatStays, Instr.sameBits, hkk]
      simp [Instr.mapUpdate, run_underlying hT, MapKept.run_getObj_map ha, hc, Instr.findKey, hu, hf, hs, setObj, Sem.run, ha, setBlock, Result.andThen]
    · rw [hput]
      apply List.ext_getElem?
      intro i
      have h1 : (es.toList.map kvE)[i]? = (L.map kvP)[i]? := by rw [hl]
      simp only [List.getElem?_map, Array.getElem?_toList, Array.getElem?_modify, List.getElem?_set] at h1 ⊢
      by_cases e : j = i
      · subst e
        rw [if_pos rfl, if_pos rfl, if_pos hn, Array.getElem?_eq_getElem (by omega)]
        simp [kvE, kvP]
      · rw [if_neg e, if_neg e]
        exact h1
    · show (w.heap.setIfInBounds b _).size = _; simp
end Go.Proofs.YtlhhgenpcjjajaaGreatDoor
namespace Go.Proofs.YtlhhgenpcjjajaaGreatDoor
open Go.RowKit
section
variable {P : Program} {ops : Array Oper} {Q : Exit → Act → World → Prop} {md : Region.Mode}
theorem wpAny_inv {I : Array Bool → Act → World → Prop}
    (hstep : ∀ listed a w i, I listed a w → i ∈ Region.ready md ops listed → wpOp P ops Q i (I (listed.setIfInBounds i true)) a w)
    (hdone : ∀ listed a w, I listed a w → Region.ready md ops listed = [] → Q .normal a w) :
    ∀ fuel listed a w, ((List.range ops.size).filter (fun i => !listed.getD i true)).length ≤ fuel → I listed a w → wpAny P md ops Q fuel listed a w := by
  intro fuel
  induction fuel with
  | zero =>
    intro listed a w hn hI
    have h0 : (List.range ops.size).filter (fun i => !listed.getD i true) = [] := List.eq_nil_of_length_eq_zero (by omega)
    have hr : Region.ready md ops listed = [] := by
      unfold Region.ready
      rw [List.filter_eq_nil_iff] at h0 ⊢
      intro i hi hc
      apply h0 i hi
      rw [Bool.and_eq_true] at hc
      exact hc.1
    exact ⟨hr, hdone _ _ _ hI hr⟩
  | succ n ih =>
    intro listed a w hn hI
    refine ⟨hdone _ _ _ hI, fun i hi => wpOp_mono (fun a' w' h' => ih _ a' w' ?_ h') (hstep _ _ _ i hI hi)⟩
    have hi' : i ∈ (List.range ops.size).filter (fun i => !listed.getD i true) := by
      unfold Region.ready at hi
      rw [List.mem_filter, Bool.and_eq_true] at hi
      exact List.mem_filter.2 ⟨hi.1, hi.2.1⟩
    have hl : listed.getD i true = false := by
      have := (List.mem_filter.1 hi').2
      simpa using this
    have hlt : i < listed.size := by
      apply Decidable.byContradiction
      intro h
      rw [Array.getD_eq_getD_getElem?, Array.getElem?_eq_none (by omega)] at hl
      simp at hl
    have e : (List.range ops.size).filter (fun j => !(listed.setIfInBounds i true).getD j true) = ((List.range ops.size).filter (fun j => !listed.getD j true)).filter (fun j => j != i) := by
      rw [List.filter_filter]
      refine List.filter_congr fun j _ => ?_
      by_cases hj : j = i
      · subst hj
        simp [Array.getD_eq_getD_getElem?, hlt]
      · have : i ≠ j := fun h => hj h.symm
        simp [Array.getD_eq_getD_getElem?, this, hj]
    rw [e]
    have : (((List.range ops.size).filter (fun j => !listed.getD j true)).filter (fun j => j != i)).length < ((List.range ops.size).filter (fun j => !listed.getD j true)).length := by
      rw [List.length_filter_lt_length_iff_exists]
      exact ⟨i, hi', by simp⟩
    omega
end
end Go.Proofs.YtlhhgenpcjjajaaGreatDoor
