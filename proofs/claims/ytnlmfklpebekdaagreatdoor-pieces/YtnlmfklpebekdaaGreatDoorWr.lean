import Derived.Test.YtnlmfklpebekdaaGreatDoorApp
import Derived.Laws.IdiomStrings
import Derived.Laws.Concat
import Derived.Handy
set_option linter.unusedSimpArgs false
set_option linter.unusedVariables false
namespace Go.Proofs.YtnlmfklpebekdaaGreatDoor
open Go.RowKit Go.Extern.Stop Go.Stop Go.Extern

theorem info_u8 : (Tryz.prog.info? 5).map (fun i => (i.zero, i.size, i.bytes)) = some (some (.int .u8 0), 1, 1) := by kernel_rfl

theorem cell_at {w : World} {b : Nat} {c : Array Value} {t : TypeId} (h : w.heap[b]? = some (.cells c t (0, 0))) (j : Nat) : w.cell? ⟨b, j, none⟩ = c[j]? := by simp [World.cell?, h]
theorem free_at {w : World} {b : Nat} {c : Array Value} {t : TypeId} (h : w.heap[b]? = some (.cells c t (0, 0))) (j : Nat) : w.frozen? ⟨b, j, none⟩ = false := by simp [World.frozen?, h]
theorem block_setCell {w : World} {b : Nat} {c : Array Value} {t : TypeId} (h : w.heap[b]? = some (.cells c t (0, 0))) (j : Nat) (u : Value) : (w.setCell ⟨b, j, none⟩ u).heap[b]? = some (.cells (c.setIfInBounds j u) t (0, 0)) := by
  have hl := lt_of_block h
  simp only [World.setCell]
  rw [Array.getElem?_eq_getElem hl] at h
  have h' := Option.some.inj h
  simp [hl, Array.getElem_modify_self, h']

theorem owns_shape {w : World} {base : Nat} {e : TypeId} {size : Nat} {v : Value} {n : Nat} {xs : List Value} (ho : w.ownsRow base e size v n xs) : ∃ ao cap, v = .slice ao n cap := by
  rcases ho.2 with ⟨rfl, h0⟩ | ⟨g, cap, cur, rfl, _⟩
  · exact ⟨_, _, by rw [h0]⟩
  · exact ⟨_, _, rfl⟩

theorem addr_add (g j : Nat) : (⟨g, 0, none⟩ : Addr).add j = ⟨g, j, none⟩ := by unfold Addr.add; split <;> simp_all

set_option maxHeartbeats 400000 in
theorem isClosed_no (bx : Nat) (a : Int) (tv : Value) (w : World) (hx : w.heap[bx]? = some (.cells (xcells a tv) 65 (0, 0))) :
    Calls Tryz.prog 28 #[.pointer (some ⟨bx, 0, none⟩)] w fun e w' => e = .returned (.bool false) ∧ w' = w := by
  have c2 : w.cell? ⟨bx, 2, none⟩ = some (.bool false) := by rw [cell_at hx]; rfl
  clear hx
  go_enter Tryz.func28, Tryz.ntmps28
  go_wp2
  go_ret
  exact ⟨rfl, rfl⟩

set_option maxHeartbeats 400000 in
theorem xwrite_long (bx g m c : Nat) (a : Int) (tv : Value) (s : ByteArray) (base : Nat) (w : World) (hx : w.heap[bx]? = some (.cells (xcells a tv) 65 (0, 0)))
    (ho : w.ownsRow base 5 1 tv s.size (bcells s)) (hs : s.size ≤ 1024) (_hm : m ≤ 1048576) (hl : 1024 < s.size + m) :
    Calls Tryz.prog 21 #[.pointer (some ⟨bx, 0, none⟩), .slice (some ⟨g, 0, none⟩) m c] w fun e w' => e = .returned (.tuple #[.int .i64 0, .iface 24 (.int .i64 2)]) ∧ w' = w := by
  have c1 : w.cell? ⟨bx, 1, none⟩ = some tv := by rw [cell_at hx]; rfl
  have ht : ∃ ao cap, tv = .slice ao s.size cap := by
    rcases ho.2 with ⟨rfl, h0⟩ | ⟨g, cap, cur, rfl, _⟩
    · exact ⟨_, _, by rw [h0]⟩
    · exact ⟨_, _, rfl⟩
  obtain ⟨ao, cap, rfl⟩ := ht
  have H0 : Hid _ := hx
  clear hx ho
  go_enter Tryz.func21, Tryz.ntmps21
  go_wp2_with fail
  refine (isClosed_no bx a _ _ H0.out).mono ?_
  rintro e w1 ⟨rfl, rfl⟩
  go_wp2
  go_ret2
  exact ⟨rfl, rfl⟩

set_option maxHeartbeats 1000000 in
set_option maxRecDepth 100000 in
theorem xwrite_ok (bx g c : Nat) (a : Int) (tv : Value) (s t : ByteArray) (base : Nat) (w : World) (hx : w.heap[bx]? = some (.cells (xcells a tv) 65 (0, 0)))
    (ho : w.ownsRow base 5 1 tv s.size (bcells s)) (ht : ∀ j u, (bcells t)[j]? = some u → w.cell? ⟨g, j, none⟩ = some u) (hl : s.size + t.size ≤ 1024) (hb : base ≤ w.heap.size) :
    Calls Tryz.prog 21 #[.pointer (some ⟨bx, 0, none⟩), .slice (some ⟨g, 0, none⟩) t.size c] w fun e w' => e = .returned (.tuple #[.int .i64 t.size, .nilIface]) ∧
      ∃ tv', w'.heap[bx]? = some (.cells (xcells a tv') 65 (0, 0)) ∧ w'.ownsRow base 5 1 tv' (s ++ t).size (bcells (s ++ t)) ∧ Kept (bx :: tv.ownBlock.toList) w w' ∧ (tv'.ownBlock = tv.ownBlock ∨ ∀ k, tv'.ownBlock = some k → w.heap.size ≤ k) := by
  obtain ⟨i0, hi, hz0, hz1, hz2⟩ := info_parts info_u8
  have c1 : w.cell? ⟨bx, 1, none⟩ = some tv := by rw [cell_at hx]; rfl
  have hsh : ∃ ao cap, tv = .slice ao s.size cap := by
    rcases ho.2 with ⟨rfl, h0⟩ | ⟨g, cap, cur, rfl, _⟩
    · exact ⟨_, _, by rw [h0]⟩
    · exact ⟨_, _, rfl⟩
  obtain ⟨ao, cap, rfl⟩ := hsh
  have H0 : Hid _ := hx
  have HO : Hid _ := ho
  have HT : Hid _ := ht
  clear hx ho ht
  go_enter Tryz.func21, Tryz.ntmps21
  go_wp2_with fail
  refine (isClosed_no bx a _ _ H0.out).mono ?_
  rintro e w1 ⟨rfl, rfl⟩
  go_wp2_with (at_builtin; refine wpList_append_ownF _ rfl _ _ 58 rfl base 5 i0 (.int .u8 0) 1 1 Tryz.underlying58 hi hz0 hz1 hz2 rfl (by decide) _ _ _ rfl HO.out ⟨g, 0, none⟩ t.size c (bcells t) rfl ?c1 ?c2 ?c3 ?c4 ?c5 hb ?_)
  case c1 => rw [bcells_length, Nat.mul_one]
  case c2 => exact fun j u h => by rw [addr_add]; exact HT.out j u h
  case c3 => exact bcells_one t
  case c4 => unfold maxLen; omega
  case c5 => omega
  intro v' w2 hown' hgrow hfr
  obtain ⟨ao', cap', hv⟩ := owns_shape hown'
  subst hv
  have hne : ∀ k, (Value.slice ao s.size cap).ownBlock = some k → k ≠ bx := by
    intro k hk
    rcases HO.out.2 with ⟨h, _⟩ | ⟨g', cap', cur, h, _, hc, _⟩
    · rw [h] at hk; cases hk
    · rw [h] at hk
      obtain rfl := Option.some.inj hk
      exact block_ne hc H0.out (by decide)
  have h2 : w2.heap[bx]? = some (.cells (xcells a (.slice ao s.size cap)) 65 (0, 0)) := by
    rw [hgrow.block bx (lt_of_block H0.out) (fun h => hne bx h.symm rfl)]; exact H0.out
  have d1 : w2.cell? ⟨bx, 1, none⟩ = some (.slice ao s.size cap) := by rw [cell_at h2]; rfl
  have d2 := free_at h2 1
  have h3 := block_setCell h2 1 (.slice ao' (s.size + t.size) cap')
  have h4 : (w2.setCell ⟨bx, 1, none⟩ (.slice ao' (s.size + t.size) cap')).ownsRow base 5 1 (.slice ao' (s.size + t.size) cap') (s ++ t).size (bcells (s ++ t)) := by
    have hsz : (s ++ t).size = s.size + t.size := ByteArray.size_append
    rw [hsz, bcells_append]
    refine ownsRow_setCell_other hown' ?_ _
    intro hk
    rcases hown'.2 with ⟨h, _⟩ | ⟨g', cap', cur, h, _, hc, _⟩
    · rw [h] at hk; cases hk
    · rw [h] at hk
      obtain rfl := Option.some.inj hk
      exact block_ne hc h2 (by decide) rfl
  have h5 : Kept (bx :: (Value.slice ao s.size cap).ownBlock.toList) w1 (w2.setCell ⟨bx, 1, none⟩ (.slice ao' (s.size + t.size) cap')) :=
    ((Kept.refl _ _).grown hgrow (fun k hk => .inl (by simp [hk]))).setCell (.inl (by simp)) _
  have H3 : Hid _ := h3
  have H4 : Hid _ := h4
  have HF : Hid _ := hfr
  clear h3 h4 h2 hown' hgrow hfr hne c1
  go_wp2
  go_ret2
  exact ⟨rfl, _, H3.out, H4.out, h5, HF.out⟩
end Go.Proofs.YtnlmfklpebekdaaGreatDoor

namespace Go.Proofs.YtnlmfklpebekdaaGreatDoor
open Go.RowKit Go.Extern.Stop Go.Stop Go.Extern

theorem bcells_at (t : ByteArray) (j : Nat) (u : Value) (h : (bcells t)[j]? = some u) : ∃ hj : j < t.data.size, u = .int .u8 (t.data[j].toNat : Int) := by
  unfold bcells at h
  rw [List.getElem?_map] at h
  obtain ⟨b, hb, rfl⟩ := Option.map_eq_some_iff.1 h
  obtain ⟨hj, rfl⟩ := List.getElem?_eq_some_iff.1 hb
  exact ⟨by simpa using hj, by simp⟩
theorem bytesRow_cells (t : ByteArray) (cap j : Nat) (u : Value) (h : (bcells t)[j]? = some u) : (bytesRow t cap)[j]? = some u := by
  obtain ⟨hj, rfl⟩ := bcells_at t j u h
  exact bytesRow_at t cap j hj
theorem bytesRow_size (t : ByteArray) (cap : Nat) : t.size ≤ (bytesRow t cap).size := by
  have : t.data.size = t.size := rfl
  simp [bytesRow, this]
theorem cell_mark {w : World} {b : Nat} {c : Array Value} {t : TypeId} {m : Nat × Nat} (h : w.heap[b]? = some (.cells c t m)) (j : Nat) : w.cell? ⟨b, j, none⟩ = c[j]? := by simp [World.cell?, h]
theorem free_mark {w : World} {b : Nat} {c : Array Value} {t : TypeId} {n : Nat} (h : w.heap[b]? = some (.cells c t (n, n + 1))) (j : Nat) (hj : j < n) : w.frozen? ⟨b, j, none⟩ = false := by
  simp [World.frozen?, h]; omega
theorem mark_setCell {w : World} {b : Nat} {c : Array Value} {t : TypeId} {m : Nat × Nat} (h : w.heap[b]? = some (.cells c t m)) (j : Nat) (u : Value) : (w.setCell ⟨b, j, none⟩ u).heap[b]? = some (.cells (c.setIfInBounds j u) t m) := by
  have hlt := lt_of_block h
  have h' : w.heap[b] = .cells c t m := by simpa [Array.getElem?_eq_getElem hlt] using h
  show (w.heap.modify b _)[b]? = _
  rw [Array.getElem?_eq_getElem (by simpa using hlt), Array.getElem_modify_self, h']
  rfl

/-- What the loop of '!' keeps. -/
def Turned (g sz bx : Nat) (xc : Array Value) (base n : Nat) (tv : Value) (xs : List Value) (S : List Nat) (w wr : World) : Prop :=
  (∃ C : Array Value, wr.heap[g]? = some (.cells C 5 (sz, sz + 1)) ∧ C.size = sz) ∧ wr.heap[bx]? = some (.cells xc 65 (0, 0)) ∧ wr.ownsRow base 5 1 tv n xs ∧ Kept S w wr
theorem Turned.store {g sz bx : Nat} {xc : Array Value} {base n : Nat} {tv : Value} {xs : List Value} {S : List Nat} {w wr : World} (h : Turned g sz bx xc base n tv xs S w wr) (hg : w.heap.size ≤ g) (hb : bx ≠ g) (ht : tv.ownBlock ≠ some g) (j : Nat) (u : Value) :
    Turned g sz bx xc base n tv xs S w (wr.setCell ⟨g, j, none⟩ u) := by
  obtain ⟨⟨C, hC, hs⟩, hx, ho, hk⟩ := h
  refine ⟨⟨_, mark_setCell hC j u, by simpa using hs⟩, ?_, ownsRow_setCell_other ho ht u, hk.setCell (.inr hg) u⟩
  rw [Below.heap_setCell wr ⟨g, j, none⟩ u bx hb]; exact hx
theorem Turned.cell {g sz bx : Nat} {xc : Array Value} {base n : Nat} {tv : Value} {xs : List Value} {S : List Nat} {w wr : World} (h : Turned g sz bx xc base n tv xs S w wr) (j : Nat) (hj : j < sz) : (∃ v, wr.cell? ⟨g, j, none⟩ = some v) ∧ wr.frozen? ⟨g, j, none⟩ = false := by
  obtain ⟨⟨C, hC, hs⟩, _⟩ := h
  refine ⟨⟨C[j]'(by omega), ?_⟩, free_mark hC j hj⟩
  rw [cell_mark hC]; exact Array.getElem?_eq_getElem (by omega)

set_option maxRecDepth 100000 in
set_option maxHeartbeats 1000000 in
theorem pwrite_ok (bx : Nat) (a : Int) (tv : Value) (s t : ByteArray) (base : Nat) (w : World) (hx : w.heap[bx]? = some (.cells (xcells a tv) 65 (0, 0)))
    (ho : w.ownsRow base 5 1 tv s.size (bcells s)) (hl : s.size + t.size ≤ 1024) (hb : base ≤ w.heap.size) :
    Calls Tryz.prog 11 #[.pointer (some ⟨bx, 0, none⟩), .string t] w fun e w' => e = .returned (.tuple #[.int .i64 t.size, .int .i64 0, .bool true]) ∧
      ∃ tv', w'.heap[bx]? = some (.cells (xcells a tv') 65 (0, 0)) ∧ w'.ownsRow base 5 1 tv' (s ++ t).size (bcells (s ++ t)) ∧ Kept (bx :: tv.ownBlock.toList) w w' ∧ (tv'.ownBlock = tv.ownBlock ∨ ∀ k, tv'.ownBlock = some k → w.heap.size ≤ k) := by
  have hcv := run_bytes_of_string (P := Tryz.prog) w 9 58 5 t Tryz.underlying9 Tryz.underlying58 Tryz.underlying5
  obtain ⟨cp, hcp⟩ : ∃ cp, cp = grownCap w t.size 0 5 := ⟨_, rfl⟩
  rw [← hcp] at hcv
  clear hcp
  have hrz := bytesRow_size t cp
  have hrc := bytesRow_cells t cp
  generalize bytesRow t cp = R at hcv hrz hrc
  obtain ⟨W1, hW1⟩ : ∃ W1, W1 = w.drew.alloc (.cells R 5 (R.size, R.size + 1)) := ⟨_, rfl⟩
  rw [← hW1] at hcv
  have hB : W1.heap[w.heap.size]? = some (.cells R 5 (R.size, R.size + 1)) := by rw [hW1]; exact heap_alloc_at w.drew _
  have K1 : Kept [] w W1 := by rw [hW1]; exact (Kept.refl [] w).drew.alloc _
  have z1 : W1.heap.size = w.heap.size + 1 := by rw [hW1]; show (w.heap.push _).size = _; simp
  clear hW1
  have hbx := lt_of_block hx
  have hol := ho.lt
  have x1 := K1.at hx (by simp)
  have o1 := K1.ownsRow ho (fun _ _ => by simp)
  have C1 := xwrite_ok bx w.heap.size cp a tv s t base W1 x1 o1 (fun j u h => by rw [cell_mark hB]; exact hrc j u h) hl (by omega)
  have HC1 := hide C1
  have HB := hide hB
  have HR := hide hrc
  have HX := hide hol
  have HZ : Hid (W1.heap.size = w.heap.size + 1) := z1
  clear C1 hB hrc hol z1 x1 o1 hx ho
  go_enter Tryz.func11, Tryz.ntmps11
  go_wp2_with fail
  refine HC1.out.mono ?_
  rintro e w2 ⟨rfl, tv', hx2, ho2, hk2, hf2⟩
  clear hcv HC1
  go_wp2_with fail
  refine (told_nil _).mono ?_
  rintro e w3 ⟨rfl, hk3⟩
  have hS : w.heap.size ∉ bx :: tv.ownBlock.toList := by
    simp only [List.mem_cons, Option.mem_toList, not_or]
    exact ⟨by omega, fun h => by have := (HX.out _ h).2; omega⟩
  have hB3 : w3.heap[w.heap.size]? = some (.cells R 5 (R.size, R.size + 1)) := hk3.at (hk2.at HB.out hS) (by simp)
  have hT : Turned w.heap.size R.size bx (xcells a tv') base (s ++ t).size tv' (bcells (s ++ t)) (bx :: tv.ownBlock.toList) w w3 :=
    ⟨⟨R, hB3, rfl⟩, hk3.at hx2 (by simp), hk3.ownsRow ho2 (fun _ _ => by simp), ((K1.mono (by simp)).trans hk2).trans (hk3.mono (by simp))⟩
  have hne : tv'.ownBlock ≠ some w.heap.size := by
    rcases hf2 with h | h
    · rw [h]; intro h'; have := (HX.out _ h').2; omega
    · intro h'; have := h _ h'; have := HZ.out; omega
  have hfin : tv'.ownBlock = tv.ownBlock ∨ ∀ k, tv'.ownBlock = some k → w.heap.size ≤ k := by
    rcases hf2 with h | h
    · exact .inl h
    · exact .inr fun k hk => by have := h k hk; have := HZ.out; omega
  have hback : (convert 58 9 (.slice (some ⟨w.heap.size, 0, none⟩) t.size cp)).run Tryz.prog w3 = .ok (.string t) w3 := by
    have := run_convert_bytes_back (P := Tryz.prog) w3 58 9 5 ⟨w.heap.size, 0, none⟩ cp t.data.toList Tryz.underlying58 Tryz.underlying5 Tryz.underlying9 (fun j hj => by
      rw [addr_add, cell_mark hB3]
      exact HR.out j _ (by unfold bcells; rw [List.getElem?_map, List.getElem?_eq_getElem hj]; rfl))
    simpa using this
  have HT := hide hT
  have HN := hide hne
  have HF := hide hfin
  have HZR := hide hrz
  clear hT hne hfin hf2 hk2 hk3 hx2 ho2 hB3 hS K1 hrz
  go_wp2_with fail
  clear hback
  go_loopw [33] (fun i wr => ∃ k : Nat, k ≤ t.size ∧ i = .int .i64 k ∧ Turned w.heap.size R.size bx (xcells a tv') base (s ++ t).size tv' (bcells (s ++ t)) (bx :: tv.ownBlock.toList) w wr) (fun i _ => t.size - (intOf i).toNat)
  case atStart => exact ⟨0, Nat.zero_le _, rfl, HT.out⟩
  case round =>
    obtain ⟨k, hk, rfl, hT⟩ := hrel
    have HT2 := hide hT
    clear hT
    by_cases hlt : k < t.size
    · obtain ⟨⟨v, hv⟩, hfz⟩ := HT2.out.cell k (by have := HZR.out; omega)
      have HS := hide (HT2.out.store (Nat.le_refl _) (by omega) HN.out k (.int .u8 33))
      go_wp2
      go_roundw
      case rel => exact ⟨k + 1, by omega, by go_num, HS.out⟩
      case measure => simp [intOf]; omega
    · go_wp2
      go_ret3
      exact ⟨rfl, tv', HT2.out.2.1, HT2.out.2.2.1, HT2.out.2.2.2, HF.out⟩
end Go.Proofs.YtnlmfklpebekdaaGreatDoor
