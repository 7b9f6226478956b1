import Derived.Test.YtifhedfigbdgnaaGreatDoorTold
namespace Go.Proofs.YtifhedfigbdgnaaGreatDoor
open Go.RowKit Go.Extern.Stop Go.Stop Go.Extern

/-- The program's parser that is open; the model's. -/
def xcells (a : Int) (tv : Value) : Array Value := #[.int .i64 a, tv, .bool false, .int .i64 0, .nilIface, .slice none 0 0]
def mcells (s : ByteArray) (d f a : Int) : Array Value := #[.string s, .bool false, .int .i64 0, .int .i64 0, .int .i64 d, .int .i64 f, .int .i64 a, .pointer none, .slice none 0 0]
/-- The limits are within their bounds. -/
def limits (d f a : Int) : Prop := 4 ≤ d ∧ d ≤ 64 ∧ 1 ≤ f ∧ f ≤ 32 ∧ 1 ≤ a ∧ a ≤ 16

set_option maxHeartbeats 400000 in
theorem new_ok (d f a : Int) (w : World) (h : limits d f a) :
    Calls Tryz.prog 55 #[.int .i64 d, .int .i64 f, .int .i64 a] w fun e w' => e = .returned (.tuple #[.pointer (some ⟨w.heap.size, 0, none⟩), .nilIface]) ∧ w' = w.alloc (.cells (xcells a (.slice none 0 0)) 121) := by
  obtain ⟨h1, h2, h3, h4, h5, h6⟩ := h
  go_enter Tryz.func55, Tryz.ntmps55
  go_wp2
  go_ret2
  exact ⟨rfl, rfl⟩

set_option maxHeartbeats 1000000 in
theorem new_bad (d f a : Int) (w : World) (h : ¬ limits d f a) :
    Calls Tryz.prog 55 #[.int .i64 d, .int .i64 f, .int .i64 a] w fun e w' => e = .returned (.tuple #[.pointer none, .iface 31 (.int .i64 1)]) ∧ w' = w := by
  unfold limits at h
  by_cases h1 : d < 4
  · clear h; go_enter Tryz.func55, Tryz.ntmps55
    go_wp2
    go_ret2
    exact ⟨rfl, rfl⟩
  by_cases h2 : 64 < d
  · clear h; go_enter Tryz.func55, Tryz.ntmps55
    go_wp2
    go_ret2
    exact ⟨rfl, rfl⟩
  by_cases h3 : f < 1
  · clear h; go_enter Tryz.func55, Tryz.ntmps55
    go_wp2
    go_ret2
    exact ⟨rfl, rfl⟩
  by_cases h4 : 32 < f
  · clear h; go_enter Tryz.func55, Tryz.ntmps55
    go_wp2
    go_ret2
    exact ⟨rfl, rfl⟩
  by_cases h5 : a < 1
  · clear h; go_enter Tryz.func55, Tryz.ntmps55
    go_wp2
    go_ret2
    exact ⟨rfl, rfl⟩
  have h6 : 16 < a := by omega
  clear h
  go_enter Tryz.func55, Tryz.ntmps55
  go_wp2
  go_ret2
  exact ⟨rfl, rfl⟩

set_option maxHeartbeats 400000 in
theorem mnew_ok (d f a : Int) (w : World) (h : limits d f a) :
    Calls Tryz.prog 22 #[.int .i64 d, .int .i64 f, .int .i64 a] w fun e w' => e = .returned (.tuple #[.pointer (some ⟨w.heap.size, 0, none⟩), .int .i64 0]) ∧ w' = w.alloc (.cells (mcells ⟨#[]⟩ d f a) 97) := by
  obtain ⟨h1, h2, h3, h4, h5, h6⟩ := h
  go_enter Tryz.func22, Tryz.ntmps22
  go_wp2
  go_ret2
  exact ⟨rfl, rfl⟩

set_option maxHeartbeats 1000000 in
theorem mnew_bad (d f a : Int) (w : World) (h : ¬ limits d f a) :
    Calls Tryz.prog 22 #[.int .i64 d, .int .i64 f, .int .i64 a] w fun e w' => e = .returned (.tuple #[.pointer none, .int .i64 1]) ∧ w' = w := by
  unfold limits at h
  by_cases h1 : d < 4
  · clear h; go_enter Tryz.func22, Tryz.ntmps22
    go_wp2
    go_ret2
    exact ⟨rfl, rfl⟩
  by_cases h2 : 64 < d
  · clear h; go_enter Tryz.func22, Tryz.ntmps22
    go_wp2
    go_ret2
    exact ⟨rfl, rfl⟩
  by_cases h3 : f < 1
  · clear h; go_enter Tryz.func22, Tryz.ntmps22
    go_wp2
    go_ret2
    exact ⟨rfl, rfl⟩
  by_cases h4 : 32 < f
  · clear h; go_enter Tryz.func22, Tryz.ntmps22
    go_wp2
    go_ret2
    exact ⟨rfl, rfl⟩
  by_cases h5 : a < 1
  · clear h; go_enter Tryz.func22, Tryz.ntmps22
    go_wp2
    go_ret2
    exact ⟨rfl, rfl⟩
  have h6 : 16 < a := by omega
  clear h
  go_enter Tryz.func22, Tryz.ntmps22
  go_wp2
  go_ret2
  exact ⟨rfl, rfl⟩

set_option maxHeartbeats 400000 in
theorem pnew_ok (d f a : Int) (w : World) (h : limits d f a) :
    Calls Tryz.prog 25 #[.int .i64 d, .int .i64 f, .int .i64 a] w fun e w' => e = .returned (.tuple #[.pointer (some ⟨w.heap.size, 0, none⟩), .int .i64 0]) ∧ w'.heap[w.heap.size]? = some (.cells (xcells a (.slice none 0 0)) 121 (0, 0)) ∧ Kept [] w w' := by
  go_enter Tryz.func25, Tryz.ntmps25
  go_wp2_with fail
  refine (new_ok d f a _ h).mono ?_
  rintro e w1 ⟨rfl, rfl⟩
  go_wp2_with fail
  refine (told_nil _).mono ?_
  rintro e w2 ⟨rfl, hk⟩
  have K2 : Kept [] w w2 := ((Kept.refl _ _).alloc _).next hk (by simp)
  have h2 := hk.at (heap_alloc_at w _) (by simp)
  clear hk
  have H2 : Hid _ := h2
  clear h2
  go_wp2
  go_ret2
  exact ⟨rfl, H2.out, K2⟩

set_option maxHeartbeats 400000 in
theorem pnew_bad (d f a : Int) (w : World) (h : ¬ limits d f a) (hg : errorType w) :
    Calls Tryz.prog 25 #[.int .i64 d, .int .i64 f, .int .i64 a] w fun e w' => e = .returned (.tuple #[.pointer none, .int .i64 1]) ∧ Kept [] w w' := by
  go_enter Tryz.func25, Tryz.ntmps25
  go_wp2_with fail
  refine (new_bad d f a _ h).mono ?_
  rintro e w1 ⟨rfl, rfl⟩
  go_wp2_with fail
  refine (told_errno 1 _ hg).mono ?_
  rintro e w2 ⟨rfl, hk⟩
  go_wp2
  go_ret2
  exact ⟨rfl, hk⟩
end Go.Proofs.YtifhedfigbdgnaaGreatDoor
