import Derived.Test.YtifhedfigbdgnaaGreatDoorMod
namespace Go.Proofs.YtifhedfigbdgnaaGreatDoor
open Go.RowKit

/-! ### What the script has made, as it lies in memory -/
def TypesIn (w : World) (S : List Nat) (T : List Nat) : Prop := ∀ k ∈ S, ∃ c t m, w.heap[k]? = some (.cells c t m) ∧ t ∈ T
theorem TypesIn.nil (w : World) (T : List Nat) : TypesIn w [] T := fun _ h => by cases h
theorem TypesIn.block {w : World} {S T : List Nat} {b : Nat} {c : Array Value} {t : TypeId} {m : Nat × Nat} (hS : TypesIn w S T) (h : w.heap[b]? = some (.cells c t m)) (ht : t ∈ T) : TypesIn w (b :: S) T := by
  intro k hk
  rcases List.mem_cons.1 hk with rfl | hk
  · exact ⟨c, t, m, h, ht⟩
  · exact hS k hk
theorem TypesIn.row {w : World} {T : List Nat} {base : Nat} {e : TypeId} {size : Nat} {v : Value} {n : Nat} {xs : List Value} (h : w.ownsRow base e size v n xs) (ht : e ∈ T) : TypesIn w v.ownBlock.toList T := by
  intro k hk
  rcases h.2 with ⟨rfl, _⟩ | ⟨g, cap, cur, rfl, _, hc, _⟩
  · simp [Value.ownBlock] at hk
  · simp [Value.ownBlock] at hk
    subst hk
    exact ⟨cur, e, (0, 0), hc, ht⟩
theorem TypesIn.not_mem {w : World} {S T : List Nat} (hS : TypesIn w S T) {b : Nat} {c : Array Value} {t : TypeId} {m : Nat × Nat} (h : w.heap[b]? = some (.cells c t m)) (ht : t ∉ T) : b ∉ S := by
  intro hb
  obtain ⟨c', t', m', h', ht'⟩ := hS b hb
  rw [h] at h'
  simp at h'
  rw [h'.2.1] at ht
  exact ht ht'
theorem TypesIn.block_kept {w w' : World} {S T : List Nat} (hS : TypesIn w S T) (hk : Kept S w w') {b : Nat} {c : Array Value} {t : TypeId} {m : Nat × Nat} (h : w.heap[b]? = some (.cells c t m)) (ht : t ∉ T) : w'.heap[b]? = some (.cells c t m) :=
  hk.at h (hS.not_mem h ht)
theorem TypesIn.row_kept {w w' : World} {S T : List Nat} (hS : TypesIn w S T) (hk : Kept S w w') {base : Nat} {e : TypeId} {size : Nat} {v : Value} {n : Nat} {xs : List Value} (h : w.ownsRow base e size v n xs) (ht : e ∉ T) : w'.ownsRow base e size v n xs := by
  refine hk.ownsRow h fun k hkk => ?_
  obtain ⟨c, t, m, hc, hte⟩ := (TypesIn.row (T := [e]) h (by simp)) k (by simp [hkk])
  simp at hte
  subst hte
  exact hS.not_mem hc ht

structure PState where
  bx : Nat
  bm : Nat
  d : Int
  f : Int
  a : Int
  tv : Value
  s : ByteArray

/-- Parser p lies in memory, the program's and the model's, both open, both of the text s. -/
structure Has (base : Nat) (w : World) (p : PState) : Prop where
  x : w.heap[p.bx]? = some (.cells (xcells p.a p.tv) 121 (0, 0))
  t : w.ownsRow base 5 1 p.tv p.s.size (bcells p.s)
  m : w.heap[p.bm]? = some (.cells (mcells p.s p.d p.f p.a) 97 (0, 0))
  le : p.s.size ≤ 1024
  bx : base ≤ p.bx
  bm : base ≤ p.bm

structure Apart (p q : PState) : Prop where
  x : p.bx ≠ q.bx
  m : p.bm ≠ q.bm
  t : ∀ k, p.tv.ownBlock = some k → q.tv.ownBlock ≠ some k

theorem Apart.symm {p q : PState} (h : Apart p q) : Apart q p := ⟨fun e => h.x e.symm, fun e => h.m e.symm, fun k h1 h2 => h.t k h2 h1⟩

abbrev xptrs (P : Nat → PState) (n : Nat) : List Value := (List.range n).map fun i => .pointer (some ⟨(P i).bx, 0, none⟩)
abbrev mptrs (P : Nat → PState) (n : Nat) : List Value := (List.range n).map fun i => .pointer (some ⟨(P i).bm, 0, none⟩)
abbrev nils (n : Nat) : List Value := List.replicate (n * 2) (.slice none 0 0)

structure Inv (base bW n nI nS : Nat) (P : Nat → PState) (vI vX vM vS : Value) (w : World) : Prop where
  W : w.heap[bW]? = some (.cells #[vI, vX, vM, vS] 49 (0, 0))
  bW : base ≤ bW
  I : w.ownsRow base 87 2 vI nI (nils nI)
  X : w.ownsRow base 67 1 vX n (xptrs P n)
  M : w.ownsRow base 62 1 vM n (mptrs P n)
  S : w.ownsRow base 85 2 vS nS (nils nS)
  has : ∀ i, i < n → Has base w (P i)
  apart : ∀ i j, i < n → j < n → i ≠ j → Apart (P i) (P j)
  base : base ≤ w.heap.size

theorem Has.kept {base : Nat} {w w' : World} {p : PState} {S T : List Nat} (h : Has base w p) (hS : TypesIn w S T) (hk : Kept S w w') (h1 : 121 ∉ T) (h2 : 5 ∉ T) (h3 : 97 ∉ T) : Has base w' p :=
  ⟨hS.block_kept hk h.x h1, hS.row_kept hk h.t h2, hS.block_kept hk h.m h3, h.le, h.bx, h.bm⟩

/-- Nothing old was written. -/
theorem Inv.kept0 {base bW n nI nS : Nat} {P : Nat → PState} {vI vX vM vS : Value} {w w' : World} (h : Inv base bW n nI nS P vI vX vM vS w) (hk : Kept [] w w') : Inv base bW n nI nS P vI vX vM vS w' :=
  have hS := TypesIn.nil w []
  ⟨hS.block_kept hk h.W (by simp), h.bW, hS.row_kept hk h.I (by simp), hS.row_kept hk h.X (by simp), hS.row_kept hk h.M (by simp), hS.row_kept hk h.S (by simp),
    fun i hi => (h.has i hi).kept hS hk (by simp) (by simp) (by simp), h.apart, Nat.le_trans h.base hk.size⟩

/-- Parser i was written into. -/
theorem Inv.wrote {base bW n nI nS : Nat} {P : Nat → PState} {vI vX vM vS : Value} {w w' : World} (h : Inv base bW n nI nS P vI vX vM vS w) (i : Nat) (hi : i < n) (p' : PState) (hp : Has base w' p')
    (hx : p'.bx = (P i).bx) (hm : p'.bm = (P i).bm) (ht : p'.tv.ownBlock = (P i).tv.ownBlock ∨ ∀ k, p'.tv.ownBlock = some k → w.heap.size ≤ k)
    (hk : Kept ((P i).bm :: (P i).bx :: (P i).tv.ownBlock.toList) w w') : Inv base bW n nI nS (fun j => if j = i then p' else P j) vI vX vM vS w' := by
  have hI := h.has i hi
  have hS : TypesIn w ((P i).bm :: (P i).bx :: (P i).tv.ownBlock.toList) [97, 121, 5] :=
    ((TypesIn.row hI.t (by simp)).block hI.x (by simp)).block hI.m (by simp)
  have hrow : ∀ j, (if j = i then p' else P j).bx = (P j).bx ∧ (if j = i then p' else P j).bm = (P j).bm := by
    intro j; split
    · rename_i e; subst e; exact ⟨hx, hm⟩
    · exact ⟨rfl, rfl⟩
  have hother : ∀ j, j < n → j ≠ i → Has base w' (P j) := by
    intro j hj hne
    have hJ := h.has j hj
    have hA := h.apart j i hj hi hne
    refine ⟨hk.at hJ.x ?_, hk.ownsRow hJ.t ?_, hk.at hJ.m ?_, hJ.le, hJ.bx, hJ.bm⟩
    · intro hmem
      rcases List.mem_cons.1 hmem with e | hmem
      · exact block_ne hJ.x hI.m (by decide) e
      rcases List.mem_cons.1 hmem with e | hmem
      · exact hA.x e
      · obtain ⟨c, t, m, hc, hte⟩ := (TypesIn.row (T := [5]) hI.t (by simp)) _ hmem
        simp at hte; subst hte
        exact block_ne hJ.x hc (by decide) rfl
    · intro k hkk hmem
      obtain ⟨c, t, m, hc, hte⟩ := (TypesIn.row (T := [5]) hJ.t (by simp)) k (by simp [hkk])
      simp at hte; subst hte
      rcases List.mem_cons.1 hmem with e | hmem
      · exact block_ne hc hI.m (by decide) e
      rcases List.mem_cons.1 hmem with e | hmem
      · exact block_ne hc hI.x (by decide) e
      · exact hA.t k hkk (by simpa using hmem)
    · intro hmem
      rcases List.mem_cons.1 hmem with e | hmem
      · exact hA.m e
      rcases List.mem_cons.1 hmem with e | hmem
      · exact block_ne hJ.m hI.x (by decide) e
      · obtain ⟨c, t, m, hc, hte⟩ := (TypesIn.row (T := [5]) hI.t (by simp)) _ hmem
        simp at hte; subst hte
        exact block_ne hJ.m hc (by decide) rfl
  refine ⟨hS.block_kept hk h.W (by decide), h.bW, hS.row_kept hk h.I (by decide), ?_, ?_, hS.row_kept hk h.S (by decide), ?_, ?_, Nat.le_trans h.base hk.size⟩
  · have : xptrs (fun j => if j = i then p' else P j) n = xptrs P n := List.map_congr_left fun j _ => by simp only [(hrow j).1]
    rw [this]; exact hS.row_kept hk h.X (by decide)
  · have : mptrs (fun j => if j = i then p' else P j) n = mptrs P n := List.map_congr_left fun j _ => by simp only [(hrow j).2]
    rw [this]; exact hS.row_kept hk h.M (by decide)
  · intro j hj
    by_cases e : j = i
    · simp only [e, if_true]; exact hp
    · simp only [e, if_false]; exact hother j hj e
  · have key : ∀ j, j < n → j ≠ i → Apart p' (P j) := by
      intro j hj hne
      have hA := h.apart i j hi hj (Ne.symm hne)
      refine ⟨by rw [hx]; exact hA.x, by rw [hm]; exact hA.m, fun k hk1 hk2 => ?_⟩
      rcases ht with e | e
      · rw [e] at hk1; exact hA.t k hk1 hk2
      · have := e k hk1
        have := ((h.has j hj).t.lt k hk2).2
        omega
    intro j l hj hl hne
    by_cases e : j = i
    · by_cases e' : l = i
      · exact absurd (e.trans e'.symm) hne
      · simp only [e, e', if_true, if_false]; exact key l hl e'
    · by_cases e' : l = i
      · simp only [e, e', if_true, if_false]; exact (key j hj e).symm
      · simp only [e, e', if_false]; exact h.apart j l hj hl hne
end Go.Proofs.YtifhedfigbdgnaaGreatDoor
