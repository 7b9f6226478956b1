import Derived.Test.YtifhedfigbdgnaaGreatDoorNews
import Derived.Test.YtifhedfigbdgnaaGreatDoorApp
import Derived.Laws.IdiomStrings
import Derived.Laws.Concat
namespace Go.Proofs.YtifhedfigbdgnaaGreatDoor
open Go.RowKit Go.Extern.Stop Go.Stop Go.Extern

theorem info_u8 : (Tryz.prog.info? 5).map (fun i => (i.zero, i.size, i.bytes)) = some (some (.int .u8 0), 1, 1) := by kernel_rfl

theorem cell_at {w : World} {b : Nat} {c : Array Value} {t : TypeId} (h : w.heap[b]? = some (.cells c t (0, 0))) (j : Nat) : w.cell? ⟨b, j, none⟩ = c[j]? := by simp [World.cell?, h]
theorem free_at {w : World} {b : Nat} {c : Array Value} {t : TypeId} (h : w.heap[b]? = some (.cells c t (0, 0))) (j : Nat) : w.frozen? ⟨b, j, none⟩ = false := by simp [World.frozen?, h]
theorem block_setCell {w : World} {b : Nat} {c : Array Value} {t : TypeId} (h : w.heap[b]? = some (.cells c t (0, 0))) (j : Nat) (u : Value) : (w.setCell ⟨b, j, none⟩ u).heap[b]? = some (.cells (c.setIfInBounds j u) t (0, 0)) := by
  have hl := lt_of_block h
  simp only [World.setCell]
  rw [Array.getElem?_eq_getElem hl] at h
  have h' := Option.some.inj h
  simp [hl, Array.getElem_modify_self, h']

theorem owns_shape {w : World} {base : Nat} {e : TypeId} {size : Nat} {v : Value} {n : Nat} {xs : List Value} (ho : w.ownsRow base e size v n xs) : ∃ ao cap, v = .slice ao n cap := by
  rcases ho.2 with ⟨rfl, h0⟩ | ⟨g, cap, cur, rfl, _⟩
  · exact ⟨_, _, by rw [h0]⟩
  · exact ⟨_, _, rfl⟩

theorem addr_add (g j : Nat) : (⟨g, 0, none⟩ : Addr).add j = ⟨g, j, none⟩ := by unfold Addr.add; split <;> simp_all

set_option maxHeartbeats 400000 in
theorem isClosed_no (bx : Nat) (a : Int) (tv : Value) (w : World) (hx : w.heap[bx]? = some (.cells (xcells a tv) 121 (0, 0))) :
    Calls Tryz.prog 78 #[.pointer (some ⟨bx, 0, none⟩)] w fun e w' => e = .returned (.bool false) ∧ w' = w := by
  have c2 : w.cell? ⟨bx, 2, none⟩ = some (.bool false) := by rw [cell_at hx]; rfl
  clear hx
  go_enter Tryz.func78, Tryz.ntmps78
  go_wp2
  go_ret
  exact ⟨rfl, rfl⟩

set_option maxHeartbeats 400000 in
theorem xwrite_long (bx g m c : Nat) (a : Int) (tv : Value) (s : ByteArray) (base : Nat) (w : World) (hx : w.heap[bx]? = some (.cells (xcells a tv) 121 (0, 0)))
    (ho : w.ownsRow base 5 1 tv s.size (bcells s)) (hs : s.size ≤ 1024) (_hm : m ≤ 1048576) (hl : 1024 < s.size + m) :
    Calls Tryz.prog 57 #[.pointer (some ⟨bx, 0, none⟩), .slice (some ⟨g, 0, none⟩) m c] w fun e w' => e = .returned (.tuple #[.int .i64 0, .iface 31 (.int .i64 2)]) ∧ w' = w := by
  have c1 : w.cell? ⟨bx, 1, none⟩ = some tv := by rw [cell_at hx]; rfl
  have ht : ∃ ao cap, tv = .slice ao s.size cap := by
    rcases ho.2 with ⟨rfl, h0⟩ | ⟨g, cap, cur, rfl, _⟩
    · exact ⟨_, _, by rw [h0]⟩
    · exact ⟨_, _, rfl⟩
  obtain ⟨ao, cap, rfl⟩ := ht
  have H0 : Hid _ := hx
  clear hx ho
  go_enter Tryz.func57, Tryz.ntmps57
  go_wp2_with fail
  refine (isClosed_no bx a _ _ H0.out).mono ?_
  rintro e w1 ⟨rfl, rfl⟩
  go_wp2
  go_ret2
  exact ⟨rfl, rfl⟩

set_option maxHeartbeats 1000000 in
set_option maxRecDepth 100000 in
theorem xwrite_ok (bx g c : Nat) (a : Int) (tv : Value) (s t : ByteArray) (base : Nat) (w : World) (hx : w.heap[bx]? = some (.cells (xcells a tv) 121 (0, 0)))
    (ho : w.ownsRow base 5 1 tv s.size (bcells s)) (ht : ∀ j u, (bcells t)[j]? = some u → w.cell? ⟨g, j, none⟩ = some u) (hl : s.size + t.size ≤ 1024) (hb : base ≤ w.heap.size) :
    Calls Tryz.prog 57 #[.pointer (some ⟨bx, 0, none⟩), .slice (some ⟨g, 0, none⟩) t.size c] w fun e w' => e = .returned (.tuple #[.int .i64 t.size, .nilIface]) ∧
      ∃ tv', w'.heap[bx]? = some (.cells (xcells a tv') 121 (0, 0)) ∧ w'.ownsRow base 5 1 tv' (s ++ t).size (bcells (s ++ t)) ∧ Kept (bx :: tv.ownBlock.toList) w w' ∧ (tv'.ownBlock = tv.ownBlock ∨ ∀ k, tv'.ownBlock = some k → w.heap.size ≤ k) := by
  obtain ⟨i0, hi, hz0, hz1, hz2⟩ := info_parts info_u8
  have c1 : w.cell? ⟨bx, 1, none⟩ = some tv := by rw [cell_at hx]; rfl
  have hsh : ∃ ao cap, tv = .slice ao s.size cap := by
    rcases ho.2 with ⟨rfl, h0⟩ | ⟨g, cap, cur, rfl, _⟩
    · exact ⟨_, _, by rw [h0]⟩
    · exact ⟨_, _, rfl⟩
  obtain ⟨ao, cap, rfl⟩ := hsh
  have H0 : Hid _ := hx
  have HO : Hid _ := ho
  have HT : Hid _ := ht
  clear hx ho ht
  go_enter Tryz.func57, Tryz.ntmps57
  go_wp2_with fail
  refine (isClosed_no bx a _ _ H0.out).mono ?_
  rintro e w1 ⟨rfl, rfl⟩
  go_wp2_with (at_builtin; refine wpList_append_ownF _ rfl _ _ 114 rfl base 5 i0 (.int .u8 0) 1 1 Tryz.underlying114 hi hz0 hz1 hz2 rfl (by decide) _ _ _ rfl HO.out ⟨g, 0, none⟩ t.size c (bcells t) rfl ?c1 ?c2 ?c3 ?c4 ?c5 hb ?_)
  case c1 => rw [bcells_length, Nat.mul_one]
  case c2 => exact fun j u h => by rw [addr_add]; exact HT.out j u h
  case c3 => exact bcells_one t
  case c4 => unfold maxLen; omega
  case c5 => omega
  intro v' w2 hown' hgrow hfr
  obtain ⟨ao', cap', hv⟩ := owns_shape hown'
  subst hv
  have hne : ∀ k, (Value.slice ao s.size cap).ownBlock = some k → k ≠ bx := by
    intro k hk
    rcases HO.out.2 with ⟨h, _⟩ | ⟨g', cap', cur, h, _, hc, _⟩
    · rw [h] at hk; cases hk
    · rw [h] at hk
      obtain rfl := Option.some.inj hk
      exact block_ne hc H0.out (by decide)
  have h2 : w2.heap[bx]? = some (.cells (xcells a (.slice ao s.size cap)) 121 (0, 0)) := by
    rw [hgrow.block bx (lt_of_block H0.out) (fun h => hne bx h.symm rfl)]; exact H0.out
  have d1 : w2.cell? ⟨bx, 1, none⟩ = some (.slice ao s.size cap) := by rw [cell_at h2]; rfl
  have d2 := free_at h2 1
  have h3 := block_setCell h2 1 (.slice ao' (s.size + t.size) cap')
  have h4 : (w2.setCell ⟨bx, 1, none⟩ (.slice ao' (s.size + t.size) cap')).ownsRow base 5 1 (.slice ao' (s.size + t.size) cap') (s ++ t).size (bcells (s ++ t)) := by
    have hsz : (s ++ t).size = s.size + t.size := ByteArray.size_append
    rw [hsz, bcells_append]
    refine ownsRow_setCell_other hown' ?_ _
    intro hk
    rcases hown'.2 with ⟨h, _⟩ | ⟨g', cap', cur, h, _, hc, _⟩
    · rw [h] at hk; cases hk
    · rw [h] at hk
      obtain rfl := Option.some.inj hk
      exact block_ne hc h2 (by decide) rfl
  have h5 : Kept (bx :: (Value.slice ao s.size cap).ownBlock.toList) w1 (w2.setCell ⟨bx, 1, none⟩ (.slice ao' (s.size + t.size) cap')) :=
    ((Kept.refl _ _).grown hgrow (fun k hk => .inl (by simp [hk]))).setCell (.inl (by simp)) _
  have H3 : Hid _ := h3
  have H4 : Hid _ := h4
  have HF : Hid _ := hfr
  clear h3 h4 h2 hown' hgrow hfr hne c1
  go_wp2
  go_ret2
  exact ⟨rfl, _, H3.out, H4.out, h5, HF.out⟩
end Go.Proofs.YtifhedfigbdgnaaGreatDoor
