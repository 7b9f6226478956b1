import Derived.Test.YtifhedfigbdgnaaGreatDoorPWrL
import Derived.Lib.SliceRun
namespace Go.Proofs.YtifhedfigbdgnaaGreatDoor
open Go.RowKit Go.Extern.Stop Go.Stop Go.Extern

set_option maxRecDepth 100000 in
set_option maxHeartbeats 400000 in
theorem mwrite_long (bm : Nat) (d f a : Int) (s t : ByteArray) (w : World) (hx : w.heap[bm]? = some (.cells (mcells s d f a) 97 (0, 0)))
    (hs : s.size ≤ 1024) (_ht : t.size ≤ 1048576) (hl : 1024 < s.size + t.size) :
    Calls Tryz.prog 23 #[.pointer (some ⟨bm, 0, none⟩), .string t] w fun e w' => e = .returned (.int .i64 2) ∧ w' = w := by
  have c0 : w.cell? ⟨bm, 0, none⟩ = some (.string s) := by rw [cell_at hx]; rfl
  have c1 : w.cell? ⟨bm, 1, none⟩ = some (.bool false) := by rw [cell_at hx]; rfl
  clear hx
  go_enter Tryz.func23, Tryz.ntmps23
  go_wp2
  go_ret
  exact ⟨rfl, rfl⟩

set_option maxRecDepth 100000 in
set_option maxHeartbeats 400000 in
theorem mwrite_ok (bm : Nat) (d f a : Int) (s t : ByteArray) (w : World) (hx : w.heap[bm]? = some (.cells (mcells s d f a) 97 (0, 0)))
    (hl : s.size + t.size ≤ 1024) :
    Calls Tryz.prog 23 #[.pointer (some ⟨bm, 0, none⟩), .string t] w fun e w' => e = .returned (.int .i64 0) ∧ w'.heap[bm]? = some (.cells (mcells (s ++ t) d f a) 97 (0, 0)) ∧ Kept [bm] w w' := by
  have c0 : w.cell? ⟨bm, 0, none⟩ = some (.string s) := by rw [cell_at hx]; rfl
  have c1 : w.cell? ⟨bm, 1, none⟩ = some (.bool false) := by rw [cell_at hx]; rfl
  have f0 := free_at hx 0
  have hadd := run_string_add_sum (P := Tryz.prog) w s t (by omega)
  have H := hide (block_setCell hx 0 (.string (s ++ t)))
  have K := hide ((Kept.refl [bm] w).setCell (p := ⟨bm, 0, none⟩) (.inl (by simp)) (.string (s ++ t)))
  clear hx
  go_enter Tryz.func23, Tryz.ntmps23
  go_wp2
  go_ret
  exact ⟨rfl, H.out, K.out⟩

set_option maxHeartbeats 400000 in
theorem mstop (bm : Nat) (d f a : Int) (s : ByteArray) (w : World) (hx : w.heap[bm]? = some (.cells (mcells s d f a) 97 (0, 0))) :
    Calls Tryz.prog 61 #[.pointer (some ⟨bm, 0, none⟩)] w fun e w' => e = .returned (.tuple #[.int .i64 4, .int .i64 0]) ∧ w' = w := by
  have c1 : w.cell? ⟨bm, 1, none⟩ = some (.bool false) := by rw [cell_at hx]; rfl
  clear hx
  go_enter Tryz.func61, Tryz.ntmps61
  go_wp2
  go_ret2
  exact ⟨rfl, rfl⟩

set_option maxHeartbeats 400000 in
theorem mgood (bm : Nat) (d f a : Int) (s : ByteArray) (w : World) (hx : w.heap[bm]? = some (.cells (mcells s d f a) 97 (0, 0))) :
    Calls Tryz.prog 64 #[.pointer (some ⟨bm, 0, none⟩)] w fun e w' => e = .returned (.bool false) ∧ w' = w := by
  have c1 : w.cell? ⟨bm, 1, none⟩ = some (.bool false) := by rw [cell_at hx]; rfl
  clear hx
  go_enter Tryz.func64, Tryz.ntmps64
  go_wp2
  go_ret
  exact ⟨rfl, rfl⟩

set_option maxHeartbeats 400000 in
theorem mitems (bm : Nat) (d f a : Int) (s : ByteArray) (w : World) (hx : w.heap[bm]? = some (.cells (mcells s d f a) 97 (0, 0))) :
    Calls Tryz.prog 62 #[.pointer (some ⟨bm, 0, none⟩)] w fun e w' => e = .returned (.slice none 0 0) ∧ w' = w := by
  have H := hide (mgood bm d f a s w hx)
  clear hx
  go_enter Tryz.func62, Tryz.ntmps62
  go_wp2_with fail
  refine H.out.mono ?_
  rintro e w' ⟨rfl, rfl⟩
  go_wp2
  go_ret
  exact ⟨rfl, rfl⟩

set_option maxHeartbeats 400000 in
theorem mtrail (bm : Nat) (d f a : Int) (s : ByteArray) (w : World) (hx : w.heap[bm]? = some (.cells (mcells s d f a) 97 (0, 0))) :
    Calls Tryz.prog 66 #[.pointer (some ⟨bm, 0, none⟩)] w fun e w' => e = .returned (.slice none 0 0) ∧ w' = w := by
  have H := hide (mgood bm d f a s w hx)
  clear hx
  go_enter Tryz.func66, Tryz.ntmps66
  go_wp2_with fail
  refine H.out.mono ?_
  rintro e w' ⟨rfl, rfl⟩
  go_wp2
  go_ret
  exact ⟨rfl, rfl⟩

set_option maxHeartbeats 400000 in
theorem mtext (bm : Nat) (d f a : Int) (s : ByteArray) (w : World) (hx : w.heap[bm]? = some (.cells (mcells s d f a) 97 (0, 0))) :
    Calls Tryz.prog 41 #[.pointer (some ⟨bm, 0, none⟩)] w fun e w' => e = .returned (.string ⟨#[]⟩) ∧ w' = w := by
  have H := hide (mgood bm d f a s w hx)
  clear hx
  go_enter Tryz.func41, Tryz.ntmps41
  go_wp2_with fail
  refine H.out.mono ?_
  rintro e w' ⟨rfl, rfl⟩
  go_wp2
  go_ret
  exact ⟨rfl, rfl⟩

theorem xlist (p : Value) (w : World) : Calls Tryz.prog 29 #[p] w fun e w' => e = .returned (.slice none 0 0) ∧ w' = w := by
  go_enter Tryz.func29, Tryz.ntmps29
  go_wp2
  go_ret
  exact ⟨rfl, rfl⟩
theorem xtext (p : Value) (w : World) : Calls Tryz.prog 30 #[p] w fun e w' => e = .returned (.string ⟨#[]⟩) ∧ w' = w := by
  go_enter Tryz.func30, Tryz.ntmps30
  go_wp2
  go_ret
  exact ⟨rfl, rfl⟩
set_option maxRecDepth 100000 in
theorem clone_nil (w : World) : Calls Tryz.prog 60 #[.slice none 0 0] w fun e w' => e = .returned (.slice none 0 0) ∧ w' = w := by
  have hn := fun w => Lib.run_eql_slice_nil (P := Tryz.prog) w 33 82 none 0 0 0 0 Tryz.underlying33
  go_enter Tryz.func60, Tryz.ntmps60
  go_wp2
  go_ret
  exact ⟨rfl, rfl⟩
set_option maxHeartbeats 400000 in
theorem xtrail (bx : Nat) (a : Int) (tv : Value) (w : World) (hx : w.heap[bx]? = some (.cells (xcells a tv) 121 (0, 0))) :
    Calls Tryz.prog 31 #[.pointer (some ⟨bx, 0, none⟩)] w fun e w' => e = .returned (.slice none 0 0) ∧ w' = w := by
  have c5 : w.cell? ⟨bx, 5, none⟩ = some (.slice none 0 0) := by rw [cell_at hx]; rfl
  clear hx
  go_enter Tryz.func31, Tryz.ntmps31
  go_wp2_with fail
  refine (clone_nil _).mono ?_
  rintro e w' ⟨rfl, rfl⟩
  go_wp2
  go_ret
  exact ⟨rfl, rfl⟩
set_option maxHeartbeats 400000 in
theorem xstop (bx : Nat) (a : Int) (tv : Value) (w : World) (hx : w.heap[bx]? = some (.cells (xcells a tv) 121 (0, 0))) :
    Calls Tryz.prog 59 #[.pointer (some ⟨bx, 0, none⟩)] w fun e w' => e = .returned (.tuple #[.int .i64 0, .iface 31 (.int .i64 4)]) ∧ w' = w := by
  have c2 : w.cell? ⟨bx, 2, none⟩ = some (.bool false) := by rw [cell_at hx]; rfl
  clear hx
  go_enter Tryz.func59, Tryz.ntmps59
  go_wp2
  go_ret2
  exact ⟨rfl, rfl⟩
set_option maxHeartbeats 400000 in
theorem pstop (bx : Nat) (a : Int) (tv : Value) (w : World) (hx : w.heap[bx]? = some (.cells (xcells a tv) 121 (0, 0))) (hg : errorType w) :
    Calls Tryz.prog 28 #[.pointer (some ⟨bx, 0, none⟩)] w fun e w' => e = .returned (.tuple #[.int .i64 0, .int .i64 4, .int .i64 0]) ∧ Kept [] w w' := by
  have H := hide (xstop bx a tv w hx)
  clear hx
  go_enter Tryz.func28, Tryz.ntmps28
  go_wp2_with fail
  refine H.out.mono ?_
  rintro e w' ⟨rfl, rfl⟩
  go_wp2_with fail
  refine (told_errno 4 _ hg).mono ?_
  rintro e w' ⟨rfl, hk⟩
  go_wp2
  go_ret3
  exact ⟨rfl, hk⟩
theorem same_items_nil (w : World) : Calls Tryz.prog 46 #[.slice none 0 0, .slice none 0 0] w fun e w' => e = .returned (.bool true) ∧ w' = w := by
  go_enter Tryz.func46, Tryz.ntmps46
  go_wp2
  refine wp_loop_rounds 1 ?_
  rw [rounds_succ]
  go_wp2
  go_ret
  exact ⟨rfl, rfl⟩
theorem same_spans_nil (w : World) : Calls Tryz.prog 47 #[.slice none 0 0, .slice none 0 0] w fun e w' => e = .returned (.bool true) ∧ w' = w := by
  go_enter Tryz.func47, Tryz.ntmps47
  go_wp2
  refine wp_loop_rounds 1 ?_
  rw [rounds_succ]
  go_wp2
  go_ret
  exact ⟨rfl, rfl⟩
end Go.Proofs.YtifhedfigbdgnaaGreatDoor
