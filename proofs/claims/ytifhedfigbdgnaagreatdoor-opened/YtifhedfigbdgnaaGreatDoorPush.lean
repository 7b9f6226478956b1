import Derived.Test.YtifhedfigbdgnaaGreatDoorInv
namespace Go.Proofs.YtifhedfigbdgnaaGreatDoor
open Go.RowKit

/-- One element more in a list of the World's, and it is stored. -/
theorem pushed {u u2 : World} {bW j base size n m : Nat} {e : TypeId} {C : Array Value} {v v' : Value} {xs ys : List Value} (hW : u.heap[bW]? = some (.cells C 49 (0, 0))) (ho : u.ownsRow base e size v n xs) (he : e ≠ 49) (o : Obj)
    (h2 : u2.ownsRow base e size v' m ys) (hg : (u.alloc o).grownBy u2 v.ownBlock) :
    u2.heap[bW]? = some (.cells C 49 (0, 0)) ∧ (u2.setCell ⟨bW, j, none⟩ v').heap[bW]? = some (.cells (C.setIfInBounds j v') 49 (0, 0)) ∧
      (u2.setCell ⟨bW, j, none⟩ v').ownsRow base e size v' m ys ∧ Kept (bW :: v.ownBlock.toList) u (u2.setCell ⟨bW, j, none⟩ v') := by
  have hK : Kept v.ownBlock.toList u u2 := ((Kept.refl _ u).alloc o).grown hg (fun k hk => .inl (by simp [hk]))
  have hW2 : u2.heap[bW]? = some (.cells C 49 (0, 0)) := (TypesIn.row (T := [e]) ho (by simp)).block_kept hK hW (by simp; exact fun h => he h.symm)
  refine ⟨hW2, block_setCell hW2 j v', ownsRow_setCell_other h2 ?_ _, (hK.mono (fun k hk _ => List.mem_cons_of_mem _ hk)).setCell (.inl (by simp)) _⟩
  intro hk
  obtain ⟨c, t, mm, hc, hte⟩ := (TypesIn.row (T := [e]) h2 (by simp)) bW (by simp [hk])
  simp at hte; subst hte
  rw [hW2] at hc
  simp at hc
  exact he hc.2.1.symm

theorem Inv.made {base bW n nI nS : Nat} {P : Nat → PState} {vI vX vM vS vX' vM' : Value} {w w' : World} (h : Inv base bW n nI nS P vI vX vM vS w) (p' : PState)
    (hk : Kept (bW :: (vX.ownBlock.toList ++ vM.ownBlock.toList)) w w') (hW : w'.heap[bW]? = some (.cells #[vI, vX', vM', vS] 49 (0, 0)))
    (hX : w'.ownsRow base 67 1 vX' (n + 1) (xptrs P n ++ [.pointer (some ⟨p'.bx, 0, none⟩)])) (hM : w'.ownsRow base 62 1 vM' (n + 1) (mptrs P n ++ [.pointer (some ⟨p'.bm, 0, none⟩)]))
    (hp : Has base w' p') (hx : w.heap.size ≤ p'.bx) (hm : w.heap.size ≤ p'.bm) (ht : p'.tv = .slice none 0 0) :
    Inv base bW (n + 1) nI nS (fun j => if j = n then p' else P j) vI vX' vM' vS w' := by
  have hS : TypesIn w (bW :: (vX.ownBlock.toList ++ vM.ownBlock.toList)) [49, 67, 62] := by
    refine TypesIn.block ?_ h.W (by simp)
    intro k hk
    rcases List.mem_append.1 hk with hk | hk
    · exact TypesIn.row h.X (by simp) k hk
    · exact TypesIn.row h.M (by simp) k hk
  have e1 : ∀ (g : PState → Nat), ((List.range (n + 1)).map fun i => (.pointer (some ⟨g (if i = n then p' else P i), 0, none⟩) : Value)) = ((List.range n).map fun i => .pointer (some ⟨g (P i), 0, none⟩)) ++ [.pointer (some ⟨g p', 0, none⟩)] := by
    intro g
    rw [List.range_succ, List.map_append]
    congr 1
    · refine List.map_congr_left fun i hi => ?_
      have : i ≠ n := by have := List.mem_range.1 hi; omega
      simp [this]
    · simp
  refine ⟨hW, h.bW, hS.row_kept hk h.I (by decide), ?_, ?_, hS.row_kept hk h.S (by decide), ?_, ?_, Nat.le_trans h.base hk.size⟩
  · show w'.ownsRow _ _ _ _ _ _
    have := e1 PState.bx
    rw [show xptrs (fun j => if j = n then p' else P j) (n + 1) = _ from this]
    exact hX
  · have := e1 PState.bm
    rw [show mptrs (fun j => if j = n then p' else P j) (n + 1) = _ from this]
    exact hM
  · intro i hi
    by_cases e : i = n
    · simp only [e, if_true]; exact hp
    · simp only [e, if_false]; exact (h.has i (by omega)).kept hS hk (by decide) (by decide) (by decide)
  · have key : ∀ j, j < n → Apart p' (P j) := by
      intro j hj
      have hJ := h.has j hj
      refine ⟨?_, ?_, ?_⟩
      · have := lt_of_block hJ.x; omega
      · have := lt_of_block hJ.m; omega
      · intro k hk1; rw [ht] at hk1; cases hk1
    intro j l hj hl hne
    by_cases e : j = n
    · by_cases e' : l = n
      · exact absurd (e.trans e'.symm) hne
      · simp only [e, e', if_true, if_false]; exact key l (by omega)
    · by_cases e' : l = n
      · simp only [e, e', if_true, if_false]; exact (key j (by omega)).symm
      · simp only [e, e', if_false]; exact h.apart j l (by omega) (by omega) hne

theorem nils_succ (n : Nat) : nils (n + 1) = nils n ++ [.slice none 0 0, .slice none 0 0] := by
  have : (n + 1) * 2 = n * 2 + 2 := by omega
  rw [nils, this, ← List.replicate_append_replicate]; rfl

/-- A list of items more is kept. -/
theorem Inv.listed {base bW n nI nS : Nat} {P : Nat → PState} {vI vX vM vS vI' : Value} {w w' : World} (h : Inv base bW n nI nS P vI vX vM vS w)
    (hk : Kept (bW :: vI.ownBlock.toList) w w') (hW : w'.heap[bW]? = some (.cells #[vI', vX, vM, vS] 49 (0, 0)))
    (hI : w'.ownsRow base 87 2 vI' (nI + 1) (nils nI ++ [.slice none 0 0, .slice none 0 0])) : Inv base bW n (nI + 1) nS P vI' vX vM vS w' := by
  have hS : TypesIn w (bW :: vI.ownBlock.toList) [49, 87] := (TypesIn.row h.I (by simp)).block h.W (by simp)
  exact ⟨hW, h.bW, by rw [nils_succ]; exact hI, hS.row_kept hk h.X (by decide), hS.row_kept hk h.M (by decide), hS.row_kept hk h.S (by decide),
    fun i hi => (h.has i hi).kept hS hk (by decide) (by decide) (by decide), h.apart, Nat.le_trans h.base hk.size⟩
theorem Inv.trailed {base bW n nI nS : Nat} {P : Nat → PState} {vI vX vM vS vS' : Value} {w w' : World} (h : Inv base bW n nI nS P vI vX vM vS w)
    (hk : Kept (bW :: vS.ownBlock.toList) w w') (hW : w'.heap[bW]? = some (.cells #[vI, vX, vM, vS'] 49 (0, 0)))
    (hS' : w'.ownsRow base 85 2 vS' (nS + 1) (nils nS ++ [.slice none 0 0, .slice none 0 0])) : Inv base bW n nI (nS + 1) P vI vX vM vS' w' := by
  have hS : TypesIn w (bW :: vS.ownBlock.toList) [49, 85] := (TypesIn.row h.S (by simp)).block h.W (by simp)
  exact ⟨hW, h.bW, hS.row_kept hk h.I (by decide), hS.row_kept hk h.X (by decide), hS.row_kept hk h.M (by decide), by rw [nils_succ]; exact hS',
    fun i hi => (h.has i hi).kept hS hk (by decide) (by decide) (by decide), h.apart, Nat.le_trans h.base hk.size⟩
end Go.Proofs.YtifhedfigbdgnaaGreatDoor
