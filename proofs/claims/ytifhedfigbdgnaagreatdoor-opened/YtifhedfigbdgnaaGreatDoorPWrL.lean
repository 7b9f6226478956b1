import Derived.Test.YtifhedfigbdgnaaGreatDoorPWr
namespace Go.Proofs.YtifhedfigbdgnaaGreatDoor
open Go.RowKit Go.Extern.Stop Go.Stop Go.Extern

set_option maxRecDepth 100000 in
set_option maxHeartbeats 1000000 in
theorem pwrite_long (bx : Nat) (a : Int) (tv : Value) (s t : ByteArray) (base : Nat) (w : World) (hx : w.heap[bx]? = some (.cells (xcells a tv) 121 (0, 0)))
    (ho : w.ownsRow base 5 1 tv s.size (bcells s)) (hs : s.size ≤ 1024) (ht : t.size ≤ 1048576) (hl : 1024 < s.size + t.size) (hg : errorType w) :
    Calls Tryz.prog 26 #[.pointer (some ⟨bx, 0, none⟩), .string t] w fun e w' => e = .returned (.tuple #[.int .i64 0, .int .i64 2, .bool true]) ∧ Kept [] w w' := by
  have hcv := run_bytes_of_string (P := Tryz.prog) w 9 114 5 t Tryz.underlying9 Tryz.underlying114 Tryz.underlying5
  obtain ⟨cp, hcp⟩ : ∃ cp, cp = grownCap w t.size 0 5 := ⟨_, rfl⟩
  rw [← hcp] at hcv
  clear hcp
  have hrz := bytesRow_size t cp
  have hrc := bytesRow_cells t cp
  generalize bytesRow t cp = R at hcv hrz hrc
  obtain ⟨W1, hW1⟩ : ∃ W1, W1 = w.drew.alloc (.cells R 5 (R.size, R.size + 1)) := ⟨_, rfl⟩
  rw [← hW1] at hcv
  have hB : W1.heap[w.heap.size]? = some (.cells R 5 (R.size, R.size + 1)) := by rw [hW1]; exact heap_alloc_at w.drew _
  have K1 : Kept [] w W1 := by rw [hW1]; exact (Kept.refl [] w).drew.alloc _
  clear hW1
  have hbx := lt_of_block hx
  have hol := ho.lt
  have x1 := K1.at hx (by simp)
  have o1 := K1.ownsRow ho (fun _ _ => by simp)
  have C1 := xwrite_long bx w.heap.size t.size cp a tv s base W1 x1 o1 hs ht hl
  have HC1 := hide C1
  have HB := hide hB
  have HR := hide hrc
  have HX := hide hol
  have HX1 := hide x1
  have HO1 := hide o1
  have hg1 := errorType_kept hg K1 (by simp)
  clear C1 hB hrc hol x1 o1 hx ho hg
  go_enter Tryz.func26, Tryz.ntmps26
  go_wp2_with fail
  refine HC1.out.mono ?_
  rintro e w2 ⟨rfl, hw2⟩
  subst hw2
  clear hcv HC1
  go_wp2_with fail
  refine (told_errno 2 _ hg1).mono ?_
  rintro e w3 ⟨rfl, hk3⟩
  have hB3 : w3.heap[w.heap.size]? = some (.cells R 5 (R.size, R.size + 1)) := hk3.at HB.out (by simp)
  have hT : Turned w.heap.size R.size bx (xcells a tv) base s.size tv (bcells s) [] w w3 :=
    ⟨⟨R, hB3, rfl⟩, hk3.at HX1.out (by simp), hk3.ownsRow HO1.out (fun _ _ => by simp), K1.trans hk3⟩
  have hne : tv.ownBlock ≠ some w.heap.size := by
    intro h'; have := (HX.out _ h').2; omega
  have hback : (convert 114 9 (.slice (some ⟨w.heap.size, 0, none⟩) t.size cp)).run Tryz.prog w3 = .ok (.string t) w3 := by
    have := run_convert_bytes_back (P := Tryz.prog) w3 114 9 5 ⟨w.heap.size, 0, none⟩ cp t.data.toList Tryz.underlying114 Tryz.underlying5 Tryz.underlying9 (fun j hj => by
      rw [addr_add, cell_mark hB3]
      exact HR.out j _ (by unfold bcells; rw [List.getElem?_map, List.getElem?_eq_getElem hj]; rfl))
    simpa using this
  have HT := hide hT
  have HN := hide hne
  have HZR := hide hrz
  clear hT hne hk3 hB3 K1 hrz hg1
  go_wp2_with fail
  clear hback
  go_loopw [33] (fun i wr => ∃ k : Nat, k ≤ t.size ∧ i = .int .i64 k ∧ Turned w.heap.size R.size bx (xcells a tv) base s.size tv (bcells s) [] w wr) (fun i _ => t.size - (intOf i).toNat)
  case atStart => exact ⟨0, Nat.zero_le _, rfl, HT.out⟩
  case round =>
    obtain ⟨k, hk, rfl, hT⟩ := hrel
    have HT2 := hide hT
    clear hT
    by_cases hlt : k < t.size
    · obtain ⟨⟨v, hv⟩, hfz⟩ := HT2.out.cell k (by have := HZR.out; omega)
      have HS := hide (HT2.out.store (Nat.le_refl _) (by omega) HN.out k (.int .u8 33))
      go_wp2
      go_roundw
      case rel => exact ⟨k + 1, by omega, by go_num, HS.out⟩
      case measure => simp [intOf]; omega
    · go_wp2
      go_ret3
      exact ⟨rfl, HT2.out.2.2.2⟩
end Go.Proofs.YtifhedfigbdgnaaGreatDoor
