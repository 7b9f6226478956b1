import Derived.Test.YtlhhgenpcjjajaaGreatDoorPlB
import Derived.Deep.RegionWith
import Derived.Deep.QuietTactic
import Derived.BigQuiet
import Derived.Test.YtlhhgenpcjjajaaGreatDoorKept
import Derived.Laws.IdiomStrings
import Derived.Laws.Concat
import Derived.Handy
import Derived.PlainAid
import Derived.Test.YtlhhgenpcjjajaaGreatDoorShelf
set_option linter.unusedSimpArgs false
set_option linter.unusedVariables false
namespace Go.Proofs.YtlhhgenpcjjajaaGreatDoor
open Go.RowKit Go.Extern.Stop Go.Stop Go.Extern
set_option maxHeartbeats 400000 in
theorem number_errno (n : Int) (w : World) (hg : errorType w) :
    Calls Tryz.prog 36 #[.iface 24 (.int .i64 n)] w fun e w' => e = .returned (.int .i64 n) ∧ Kept [] w w' := by
  go_enter Tryz.func36, Tryz.ntmps36
  go_wp2_with (go_at_call 50; refine (find_errno n _ hg).mono ?_; rintro e w' ⟨rfl, hk⟩)
  go_ret
  exact ⟨rfl, by assumption⟩
set_option maxHeartbeats 400000 in
theorem told_nil (w : World) :
    Calls Tryz.prog 26 #[.nilIface] w fun e w' => e = .returned (.tuple #[.int .i64 0, .int .i64 0]) ∧ Kept [] w w' := by
  go_enter Tryz.func26, Tryz.ntmps26
  go_wp2
  go_ret2
  exact ⟨rfl, ((Kept.refl _ _).alloc _).alloc _⟩
theorem errorType_kept {w w' : World} {S : List Nat} (h : errorType w) (hk : Kept S w w') (hs : 0 ∉ S) : errorType w' := by
  have : 0 < w.heap.size := by
    rcases Nat.eq_zero_or_pos w.heap.size with h0 | h'
    · simp [errorType, World.cell?, h0] at h
    · exact h'
  show w'.cell? _ = _
  rw [hk.cell (p := ⟨0, 0, none⟩) this hs]; exact h
theorem errorType_drew {w : World} (h : errorType w) : errorType w.drew := h
set_option maxHeartbeats 1000000 in
theorem told_errno (n : Int) (w : World) (hg : errorType w) :
    Calls Tryz.prog 26 #[.iface 24 (.int .i64 n)] w fun e w' => e = .returned (.tuple #[.int .i64 n, .int .i64 0]) ∧ Kept [] w w' := by
  have hg2 := errorType_alloc (errorType_alloc hg (.cells #[.pointer none] 78)) (.cells #[.int .i64 0] 24)
  go_enter Tryz.func26, Tryz.ntmps26
  go_wp2_with fail
  refine wp_region_any (by kernel_rfl) ?_
  change wpAny _ _ _ _ _ _ _ (World.drew _)
  refine take_run (i := 0) (some 10) (.iface 24 (.int .i64 n)) rfl rfl (by kernel_rfl) (by kernel_rfl) (by kernel_rfl) (fun _ _ _ h => h) (by kernel_rfl) (fun _ => by kernel_rfl) ?_
  simp only [Act.put, List.setIfInBounds_toArray, List.set_cons_zero, List.set_cons_succ]
  refine take_run (i := 1) (some 11) (.iface 80 (.pointer (some ⟨w.heap.size, 0, none⟩))) rfl rfl (by kernel_rfl) (by kernel_rfl) (by kernel_rfl) (fun _ _ _ h => h) (by kernel_rfl) (fun _ => by kernel_rfl) ?_
  simp only [Act.put, List.setIfInBounds_toArray, List.set_cons_zero, List.set_cons_succ]
  refine wpAny_ready (rs := [2]) (by kernel_rfl) (by simp) ?_
  refine AllReady.cons rfl (fun K hK => ?_) AllReady.nil
  go_simp
  go_wp2_with fail
  refine (as_missK n _ _ (errorType_drew hg2)).mono ?_
  rintro e w1 ⟨rfl, hk⟩
  have h1 : w1.heap[w.heap.size + 1]? = some (.cells #[.int .i64 0] 24 (0, 0)) := by
    refine hk.at ?_ (by simp)
    have h := heap_alloc_at (w.alloc (.cells #[.pointer none] 78)) (.cells #[.int .i64 0] 24)
    rw [show (w.alloc (.cells #[.pointer none] 78)).heap.size = w.heap.size + 1 from by simp] at h
    exact h
  have K1 : Kept [] w w1 := (((Kept.refl _ _).alloc _).alloc _).drew.trans hk
  have e1 : errorType w1 := errorType_kept hg K1 (by simp)
  clear hk hg2
  have H1 : Hid _ := h1
  clear h1
  refine hK _ _ ?_
  clear hK K
  refine take_run (i := 3) (some 13) (.bool false) rfl rfl (by kernel_rfl) (by kernel_rfl) (by kernel_rfl) (fun _ _ _ h => h) (by kernel_rfl) (fun _ => by kernel_rfl) ?_
  simp only [Act.put, List.setIfInBounds_toArray, List.set_cons_zero, List.set_cons_succ]
  refine take_skip (i := 4) (some 14) rfl rfl (by kernel_rfl) (by kernel_rfl) (by kernel_rfl) (fun _ _ _ h => h) (by kernel_rfl) ?_
  simp only [Act.put, List.setIfInBounds_toArray, List.set_cons_zero, List.set_cons_succ]
  refine take_skip (i := 5) (some 15) rfl rfl (by kernel_rfl) (by kernel_rfl) (by kernel_rfl) (fun _ _ _ h => h) (by kernel_rfl) ?_
  simp only [Act.put, List.setIfInBounds_toArray, List.set_cons_zero, List.set_cons_succ]
  refine take_skip (i := 6) (some 16) rfl rfl (by kernel_rfl) (by kernel_rfl) (by kernel_rfl) (fun _ _ _ h => h) (by kernel_rfl) ?_
  simp only [Act.put, List.setIfInBounds_toArray, List.set_cons_zero, List.set_cons_succ]
  refine take_skip (i := 7) (some 17) rfl rfl (by kernel_rfl) (by kernel_rfl) (by kernel_rfl) (fun _ _ _ h => h) (by kernel_rfl) ?_
  simp only [Act.put, List.setIfInBounds_toArray, List.set_cons_zero, List.set_cons_succ]
  refine take_skip (i := 8) (some 18) rfl rfl (by kernel_rfl) (by kernel_rfl) (by kernel_rfl) (fun _ _ _ h => h) (by kernel_rfl) ?_
  simp only [Act.put, List.setIfInBounds_toArray, List.set_cons_zero, List.set_cons_succ]
  refine take_skip (i := 9) (some 19) rfl rfl (by kernel_rfl) (by kernel_rfl) (by kernel_rfl) (fun _ _ _ h => h) (by kernel_rfl) ?_
  simp only [Act.put, List.setIfInBounds_toArray, List.set_cons_zero, List.set_cons_succ]
  refine take_skip (i := 10) (some 20) rfl rfl (by kernel_rfl) (by kernel_rfl) (by kernel_rfl) (fun _ _ _ h => h) (by kernel_rfl) ?_
  simp only [Act.put, List.setIfInBounds_toArray, List.set_cons_zero, List.set_cons_succ]
  refine take_run (i := 11) (some 21) (.bool false) rfl rfl (by kernel_rfl) (by kernel_rfl) (by kernel_rfl) (fun _ _ _ h => h) (by kernel_rfl) (fun _ => by kernel_rfl) ?_
  simp only [Act.put, List.setIfInBounds_toArray, List.set_cons_zero, List.set_cons_succ]
  refine take_run (i := 12) (some 22) (.bool false) rfl rfl (by kernel_rfl) (by kernel_rfl) (by kernel_rfl) (fun _ _ _ h => h) (by kernel_rfl) (fun _ => by kernel_rfl) ?_
  simp only [Act.put, List.setIfInBounds_toArray, List.set_cons_zero, List.set_cons_succ]
  refine take_skip (i := 13) (some 23) rfl rfl (by kernel_rfl) (by kernel_rfl) (by kernel_rfl) (fun _ _ _ h => h) (by kernel_rfl) ?_
  simp only [Act.put, List.setIfInBounds_toArray, List.set_cons_zero, List.set_cons_succ]
  refine take_skip (i := 14) (some 24) rfl rfl (by kernel_rfl) (by kernel_rfl) (by kernel_rfl) (fun _ _ _ h => h) (by kernel_rfl) ?_
  simp only [Act.put, List.setIfInBounds_toArray, List.set_cons_zero, List.set_cons_succ]
  refine take_skip (i := 15) (some 25) rfl rfl (by kernel_rfl) (by kernel_rfl) (by kernel_rfl) (fun _ _ _ h => h) (by kernel_rfl) ?_
  simp only [Act.put, List.setIfInBounds_toArray, List.set_cons_zero, List.set_cons_succ]
  refine take_skip (i := 16) (some 26) rfl rfl (by kernel_rfl) (by kernel_rfl) (by kernel_rfl) (fun _ _ _ h => h) (by kernel_rfl) ?_
  simp only [Act.put, List.setIfInBounds_toArray, List.set_cons_zero, List.set_cons_succ]
  refine take_skip (i := 17) (some 27) rfl rfl (by kernel_rfl) (by kernel_rfl) (by kernel_rfl) (fun _ _ _ h => h) (by kernel_rfl) ?_
  simp only [Act.put, List.setIfInBounds_toArray, List.set_cons_zero, List.set_cons_succ]
  refine take_skip (i := 18) (some 28) rfl rfl (by kernel_rfl) (by kernel_rfl) (by kernel_rfl) (fun _ _ _ h => h) (by kernel_rfl) ?_
  simp only [Act.put, List.setIfInBounds_toArray, List.set_cons_zero, List.set_cons_succ]
  refine take_skip (i := 19) (some 29) rfl rfl (by kernel_rfl) (by kernel_rfl) (by kernel_rfl) (fun _ _ _ h => h) (by kernel_rfl) ?_
  simp only [Act.put, List.setIfInBounds_toArray, List.set_cons_zero, List.set_cons_succ]
  refine take_run (i := 20) (some 30) (.bool false) rfl rfl (by kernel_rfl) (by kernel_rfl) (by kernel_rfl) (fun _ _ _ h => h) (by kernel_rfl) (fun _ => by kernel_rfl) ?_
  simp only [Act.put, List.setIfInBounds_toArray, List.set_cons_zero, List.set_cons_succ]
  refine take_run (i := 21) (some 9) (.bool false) rfl rfl (by kernel_rfl) (by kernel_rfl) (by kernel_rfl) (fun _ _ _ h => h) (by kernel_rfl) (fun _ => by kernel_rfl) ?_
  simp only [Act.put, List.setIfInBounds_toArray, List.set_cons_zero, List.set_cons_succ]
  refine wpAny_done (by kernel_rfl) ?_ _
  go_wp2_with fail
  refine wp_region_any (by kernel_rfl) ?_
  change wpAny _ _ _ _ _ _ _ (World.drew _)
  refine take_run (i := 0) (some 40) (.iface 24 (.int .i64 n)) rfl rfl (by kernel_rfl) (by kernel_rfl) (by kernel_rfl) (fun _ _ _ h => h) (by kernel_rfl) (fun _ => by kernel_rfl) ?_
  simp only [Act.put, List.setIfInBounds_toArray, List.set_cons_zero, List.set_cons_succ]
  refine take_run (i := 1) (some 41) (.iface 85 (.pointer (some ⟨w.heap.size + 1, 0, none⟩))) rfl rfl (by kernel_rfl) (by kernel_rfl) (by kernel_rfl) (fun _ _ _ h => h) (by kernel_rfl) (fun _ => by kernel_rfl) ?_
  simp only [Act.put, List.setIfInBounds_toArray, List.set_cons_zero, List.set_cons_succ]
  refine wpAny_ready (rs := [2]) (by kernel_rfl) (by simp) ?_
  refine AllReady.cons rfl (fun K hK => ?_) AllReady.nil
  go_simp
  go_wp2_with fail
  refine (as_hitK n (w.heap.size + 1) _ _ (errorType_drew e1) H1.out).mono ?_
  rintro e w2 ⟨rfl, h2, hk2⟩
  have c2 := cell_of_one h2
  have K2 : Kept [] w w2 := K1.drew.next hk2 (by simp)
  have e2 : errorType w2 := errorType_kept hg K2 (by simp)
  have H2 : Hid _ := h2
  clear h2 hk2 K1 e1 H1
  refine hK _ _ ?_
  clear hK K
  refine take_run (i := 3) (some 43) (.bool true) rfl rfl (by kernel_rfl) (by kernel_rfl) (by kernel_rfl) (fun _ _ _ h => h) (by kernel_rfl) (fun _ => by kernel_rfl) ?_
  simp only [Act.put, List.setIfInBounds_toArray, List.set_cons_zero, List.set_cons_succ]
  refine take_run (i := 4) (some 44) (.iface 24 (.int .i64 n)) rfl rfl (by kernel_rfl) (by kernel_rfl) (by kernel_rfl) (fun _ _ _ h => h) (by kernel_rfl) (fun _ => by kernel_rfl) ?_
  simp only [Act.put, List.setIfInBounds_toArray, List.set_cons_zero, List.set_cons_succ]
  refine wpAny_ready (rs := [5]) (by kernel_rfl) (by simp) ?_
  refine AllReady.cons rfl (fun K hK => ?_) AllReady.nil
  go_simp
  refine hK _ _ ?_
  clear hK K
  refine take_run (i := 6) (some 46) (.iface 24 (.int .i64 n)) rfl rfl (by kernel_rfl) (by kernel_rfl) (by kernel_rfl) (fun _ _ _ h => h) (by kernel_rfl) (fun _ => by kernel_rfl) ?_
  simp only [Act.put, List.setIfInBounds_toArray, List.set_cons_zero, List.set_cons_succ]
  refine wpAny_ready (rs := [7]) (by kernel_rfl) (by simp) ?_
  refine AllReady.cons rfl (fun K hK => ?_) AllReady.nil
  go_simp
  go_wp2_with fail
  refine (is_same n _).mono ?_
  rintro e w3 ⟨rfl, rfl⟩
  refine hK _ _ ?_
  clear hK K
  refine take_run (i := 8) (some 48) (.bool true) rfl rfl (by kernel_rfl) (by kernel_rfl) (by kernel_rfl) (fun _ _ _ h => h) (by kernel_rfl) (fun _ => by kernel_rfl) ?_
  simp only [Act.put, List.setIfInBounds_toArray, List.set_cons_zero, List.set_cons_succ]
  refine take_run (i := 9) (some 49) (.bool true) rfl rfl (by kernel_rfl) (by kernel_rfl) (by kernel_rfl) (fun _ _ _ h => h) (by kernel_rfl) (fun _ => by kernel_rfl) ?_
  simp only [Act.put, List.setIfInBounds_toArray, List.set_cons_zero, List.set_cons_succ]
  refine take_run (i := 10) (some 50) (.iface 24 (.int .i64 n)) rfl rfl (by kernel_rfl) (by kernel_rfl) (by kernel_rfl) (fun _ _ _ h => h) (by kernel_rfl) (fun _ => by kernel_rfl) ?_
  simp only [Act.put, List.setIfInBounds_toArray, List.set_cons_zero, List.set_cons_succ]
  refine wpAny_ready (rs := [11, 12]) (by kernel_rfl) (by simp) ?_
  refine AllReady.cons rfl (fun K hK => ?_) (AllReady.cons rfl (fun K hK => ?_) AllReady.nil)
  · go_simp
    go_wp2_with fail
    refine (number_errno n _ e2).mono ?_
    rintro e w3 ⟨rfl, hk3⟩
    have c3 := cell_of_one (hk3.at H2.out (by simp))
    have K3 : Kept [] w w3 := K2.next hk3 (by simp)
    clear hk3 c2 K2 e2 H2
    refine hK _ _ ?_
    clear hK K
    refine wpAny_ready (rs := [12]) (by kernel_rfl) (by simp) ?_
    refine AllReady.cons rfl (fun K hK => ?_) AllReady.nil
    go_simp
    refine hK _ _ ?_
    clear hK K
    refine take_run (i := 13) (some 53) (.bool true) rfl rfl (by kernel_rfl) (by kernel_rfl) (by kernel_rfl) (fun _ _ _ h => h) (by kernel_rfl) (fun _ => by go_simp) ?_
    simp only [Act.put, List.setIfInBounds_toArray, List.set_cons_zero, List.set_cons_succ]
    refine take_run (i := 14) (some 54) (.bool true) rfl rfl (by kernel_rfl) (by kernel_rfl) (by kernel_rfl) (fun _ _ _ h => h) (by kernel_rfl) (fun _ => by kernel_rfl) ?_
    simp only [Act.put, List.setIfInBounds_toArray, List.set_cons_zero, List.set_cons_succ]
    refine take_run (i := 15) (some 39) (.bool true) rfl rfl (by kernel_rfl) (by kernel_rfl) (by kernel_rfl) (fun _ _ _ h => h) (by kernel_rfl) (fun _ => by kernel_rfl) ?_
    simp only [Act.put, List.setIfInBounds_toArray, List.set_cons_zero, List.set_cons_succ]
    refine wpAny_done (by kernel_rfl) ?_ _
    go_wp2
    go_ret2
    exact ⟨rfl, K3⟩
  · go_simp
    refine hK _ _ ?_
    clear hK K
    refine wpAny_ready (rs := [11]) (by kernel_rfl) (by simp) ?_
    refine AllReady.cons rfl (fun K hK => ?_) AllReady.nil
    go_simp
    go_wp2_with fail
    refine (number_errno n _ e2).mono ?_
    rintro e w3 ⟨rfl, hk3⟩
    have c3 := cell_of_one (hk3.at H2.out (by simp))
    have K3 : Kept [] w w3 := K2.next hk3 (by simp)
    clear hk3 c2 K2 e2 H2
    refine hK _ _ ?_
    clear hK K
    refine take_run (i := 13) (some 53) (.bool true) rfl rfl (by kernel_rfl) (by kernel_rfl) (by kernel_rfl) (fun _ _ _ h => h) (by kernel_rfl) (fun _ => by go_simp) ?_
    simp only [Act.put, List.setIfInBounds_toArray, List.set_cons_zero, List.set_cons_succ]
    refine take_run (i := 14) (some 54) (.bool true) rfl rfl (by kernel_rfl) (by kernel_rfl) (by kernel_rfl) (fun _ _ _ h => h) (by kernel_rfl) (fun _ => by kernel_rfl) ?_
    simp only [Act.put, List.setIfInBounds_toArray, List.set_cons_zero, List.set_cons_succ]
    refine take_run (i := 15) (some 39) (.bool true) rfl rfl (by kernel_rfl) (by kernel_rfl) (by kernel_rfl) (fun _ _ _ h => h) (by kernel_rfl) (fun _ => by kernel_rfl) ?_
    simp only [Act.put, List.setIfInBounds_toArray, List.set_cons_zero, List.set_cons_succ]
    refine wpAny_done (by kernel_rfl) ?_ _
    go_wp2
    go_ret2
    exact ⟨rfl, K3⟩
end Go.Proofs.YtlhhgenpcjjajaaGreatDoor
namespace Go.Proofs.YtlhhgenpcjjajaaGreatDoor
open Go.RowKit Go.Extern.Stop Go.Stop Go.Extern
def xcells (a : Int × Int × Int) (tv : Value) : Array Value := #[.int .i64 a.1, .int .i64 a.2.1, .int .i64 a.2.2, tv, .bool false, .int .i64 0, .nilIface, .slice none 0 0, .pointer none]
def mcells (s : ByteArray) (d f a : Int) : Array Value := #[.string s, .bool false, .int .i64 0, .int .i64 0, .int .i64 d, .int .i64 f, .int .i64 a, .pointer none, .slice none 0 0]
def limits (d f a : Int) : Prop := 4 ≤ d ∧ d ≤ 64 ∧ 1 ≤ f ∧ f ≤ 32 ∧ 1 ≤ a ∧ a ≤ 16
set_option maxHeartbeats 400000 in
theorem hnew_ok (d f a : Int) (w : World) (h : limits d f a) :
    Calls Tryz.prog 25 #[.int .i64 d, .int .i64 f, .int .i64 a] w fun e w' => e = .returned (.tuple #[.pointer (some ⟨w.heap.size, 0, none⟩), .nilIface]) ∧ w' = w.alloc (.cells (xcells (d, f, a) (.slice none 0 0)) 76) := by
  obtain ⟨h1, h2, h3, h4, h5, h6⟩ := h
  go_enter Tryz.func25, Tryz.ntmps25
  go_wp2
  go_ret2
  exact ⟨rfl, rfl⟩
set_option maxHeartbeats 1000000 in
theorem new_bad (d f a : Int) (w : World) (h : ¬ limits d f a) :
    Calls Tryz.prog 25 #[.int .i64 d, .int .i64 f, .int .i64 a] w fun e w' => e = .returned (.tuple #[.pointer none, .iface 24 (.int .i64 1)]) ∧ w' = w := by
  unfold limits at h
  by_cases h1 : d < 4
  · clear h; go_enter Tryz.func25, Tryz.ntmps25
    go_wp2
    go_ret2
    exact ⟨rfl, rfl⟩
  by_cases h2 : 64 < d
  · clear h; go_enter Tryz.func25, Tryz.ntmps25
    go_wp2
    go_ret2
    exact ⟨rfl, rfl⟩
  by_cases h3 : f < 1
  · clear h; go_enter Tryz.func25, Tryz.ntmps25
    go_wp2
    go_ret2
    exact ⟨rfl, rfl⟩
  by_cases h4 : 32 < f
  · clear h; go_enter Tryz.func25, Tryz.ntmps25
    go_wp2
    go_ret2
    exact ⟨rfl, rfl⟩
  by_cases h5 : a < 1
  · clear h; go_enter Tryz.func25, Tryz.ntmps25
    go_wp2
    go_ret2
    exact ⟨rfl, rfl⟩
  have h6 : 16 < a := by omega
  clear h
  go_enter Tryz.func25, Tryz.ntmps25
  go_wp2
  go_ret2
  exact ⟨rfl, rfl⟩
set_option maxHeartbeats 400000 in
theorem pnew_ok (d f a : Int) (w : World) (h : limits d f a) :
    Calls Tryz.prog 14 #[.int .i64 d, .int .i64 f, .int .i64 a] w fun e w' => e = .returned (.tuple #[.pointer (some ⟨w.heap.size, 0, none⟩), .int .i64 0]) ∧ w'.heap[w.heap.size]? = some (.cells (xcells (d, f, a) (.slice none 0 0)) 76 (0, 0)) ∧ Kept [] w w' := by
  go_enter Tryz.func14, Tryz.ntmps14
  go_wp2_with fail
  refine (hnew_ok d f a _ h).mono ?_
  rintro e w1 ⟨rfl, rfl⟩
  go_wp2_with fail
  refine (told_nil _).mono ?_
  rintro e w2 ⟨rfl, hk⟩
  have K2 : Kept [] w w2 := ((Kept.refl _ _).alloc _).next hk (by simp)
  have h2 := hk.at (heap_alloc_at w _) (by simp)
  clear hk
  have H2 : Hid _ := h2
  clear h2
  go_wp2
  go_ret2
  exact ⟨rfl, H2.out, K2⟩
set_option maxHeartbeats 400000 in
theorem pnew_bad (d f a : Int) (w : World) (h : ¬ limits d f a) (hg : errorType w) :
    Calls Tryz.prog 14 #[.int .i64 d, .int .i64 f, .int .i64 a] w fun e w' => e = .returned (.tuple #[.pointer none, .int .i64 1]) ∧ Kept [] w w' := by
  go_enter Tryz.func14, Tryz.ntmps14
  go_wp2_with fail
  refine (new_bad d f a _ h).mono ?_
  rintro e w1 ⟨rfl, rfl⟩
  go_wp2_with fail
  refine (told_errno 1 _ hg).mono ?_
  rintro e w2 ⟨rfl, hk⟩
  go_wp2
  go_ret2
  exact ⟨rfl, hk⟩
end Go.Proofs.YtlhhgenpcjjajaaGreatDoor
namespace Go.Proofs.YtlhhgenpcjjajaaGreatDoor
open Go.RowKit Go.Extern.Stop Go.Stop Go.Extern
theorem info_u8 : (Tryz.prog.info? 5).map (fun i => (i.zero, i.size, i.bytes)) = some (some (.int .u8 0), 1, 1) := by kernel_rfl
set_option maxHeartbeats 400000 in
theorem isClosed_no (bx : Nat) (a : Int × Int × Int) (tv : Value) (w : World) (hx : w.heap[bx]? = some (.cells (xcells a tv) 76 (0, 0))) :
    Calls Tryz.prog 37 #[.pointer (some ⟨bx, 0, none⟩)] w fun e w' => e = .returned (.bool false) ∧ w' = w := by
  have c2 : w.cell? ⟨bx, 4, none⟩ = some (.bool false) := by rw [cell_at hx]; rfl
  clear hx
  go_enter Tryz.func37, Tryz.ntmps37
  go_wp2
  go_ret
  exact ⟨rfl, rfl⟩
set_option maxHeartbeats 400000 in
theorem xwrite_long (bx g m c : Nat) (a : Int × Int × Int) (tv : Value) (s : ByteArray) (base : Nat) (w : World) (hx : w.heap[bx]? = some (.cells (xcells a tv) 76 (0, 0)))
    (ho : w.ownsRow base 5 1 tv s.size (bcells s)) (hs : s.size ≤ 1024) (_hm : m ≤ 1048576) (hl : 1024 < s.size + m) :
    Calls Tryz.prog 27 #[.pointer (some ⟨bx, 0, none⟩), .slice (some ⟨g, 0, none⟩) m c] w fun e w' => e = .returned (.tuple #[.int .i64 0, .iface 24 (.int .i64 2)]) ∧ w' = w := by
  have c1 : w.cell? ⟨bx, 3, none⟩ = some tv := by rw [cell_at hx]; rfl
  have ht : ∃ ao cap, tv = .slice ao s.size cap := by
    rcases ho.2 with ⟨rfl, h0⟩ | ⟨g, cap, cur, rfl, _⟩
    · exact ⟨_, _, by rw [h0]⟩
    · exact ⟨_, _, rfl⟩
  obtain ⟨ao, cap, rfl⟩ := ht
  have H0 : Hid _ := hx
  clear hx ho
  go_enter Tryz.func27, Tryz.ntmps27
  go_wp2_with fail
  refine (isClosed_no bx a _ _ H0.out).mono ?_
  rintro e w1 ⟨rfl, rfl⟩
  go_wp2
  go_ret2
  exact ⟨rfl, rfl⟩
set_option maxHeartbeats 1000000 in
set_option maxRecDepth 100000 in
theorem xwrite_ok (bx g c : Nat) (a : Int × Int × Int) (tv : Value) (s t : ByteArray) (base : Nat) (w : World) (hx : w.heap[bx]? = some (.cells (xcells a tv) 76 (0, 0)))
    (ho : w.ownsRow base 5 1 tv s.size (bcells s)) (ht : ∀ j u, (bcells t)[j]? = some u → w.cell? ⟨g, j, none⟩ = some u) (hl : s.size + t.size ≤ 1024) (hb : base ≤ w.heap.size) :
    Calls Tryz.prog 27 #[.pointer (some ⟨bx, 0, none⟩), .slice (some ⟨g, 0, none⟩) t.size c] w fun e w' => e = .returned (.tuple #[.int .i64 t.size, .nilIface]) ∧
      ∃ tv', w'.heap[bx]? = some (.cells (xcells a tv') 76 (0, 0)) ∧ w'.ownsRow base 5 1 tv' (s ++ t).size (bcells (s ++ t)) ∧ Kept (bx :: tv.ownBlock.toList) w w' ∧ (tv'.ownBlock = tv.ownBlock ∨ ∀ k, tv'.ownBlock = some k → w.heap.size ≤ k) := by
  obtain ⟨i0, hi, hz0, hz1, hz2⟩ := info_parts info_u8
  have c1 : w.cell? ⟨bx, 3, none⟩ = some tv := by rw [cell_at hx]; rfl
  have hsh : ∃ ao cap, tv = .slice ao s.size cap := by
    rcases ho.2 with ⟨rfl, h0⟩ | ⟨g, cap, cur, rfl, _⟩
    · exact ⟨_, _, by rw [h0]⟩
    · exact ⟨_, _, rfl⟩
  obtain ⟨ao, cap, rfl⟩ := hsh
  have H0 : Hid _ := hx
  have HO : Hid _ := ho
  have HT : Hid _ := ht
  clear hx ho ht
  go_enter Tryz.func27, Tryz.ntmps27
  go_wp2_with fail
  refine (isClosed_no bx a _ _ H0.out).mono ?_
  rintro e w1 ⟨rfl, rfl⟩
  go_wp2_with (at_builtin; refine wpList_append_ownF _ rfl _ _ 55 rfl base 5 i0 (.int .u8 0) 1 1 Tryz.underlying55 hi hz0 hz1 hz2 rfl (by decide) _ _ _ rfl HO.out ⟨g, 0, none⟩ t.size c (bcells t) rfl ?c1 ?c2 ?c3 ?c4 ?c5 hb ?_)
  case c1 => rw [bcells_length, Nat.mul_one]
  case c2 => exact fun j u h => by rw [addr_add]; exact HT.out j u h
  case c3 => exact bcells_one t
  case c4 => unfold maxLen; omega
  case c5 => omega
  intro v' w2 hown' hgrow hfr
  obtain ⟨ao', cap', hv⟩ := owns_shape hown'
  subst hv
  have hne : ∀ k, (Value.slice ao s.size cap).ownBlock = some k → k ≠ bx := by
    intro k hk
    rcases HO.out.2 with ⟨h, _⟩ | ⟨g', cap', cur, h, _, hc, _⟩
    · rw [h] at hk; cases hk
    · rw [h] at hk
      obtain rfl := Option.some.inj hk
      exact block_ne hc H0.out (by decide)
  have h2 : w2.heap[bx]? = some (.cells (xcells a (.slice ao s.size cap)) 76 (0, 0)) := by
    rw [hgrow.block bx (lt_of_block H0.out) (fun h => hne bx h.symm rfl)]; exact H0.out
  have d1 : w2.cell? ⟨bx, 3, none⟩ = some (.slice ao s.size cap) := by rw [cell_at h2]; rfl
  have d2 := free_at h2 3
  have h3 := block_setCell h2 3 (.slice ao' (s.size + t.size) cap')
  have h4 : (w2.setCell ⟨bx, 3, none⟩ (.slice ao' (s.size + t.size) cap')).ownsRow base 5 1 (.slice ao' (s.size + t.size) cap') (s ++ t).size (bcells (s ++ t)) := by
    have hsz : (s ++ t).size = s.size + t.size := ByteArray.size_append
    rw [hsz, bcells_append]
    refine ownsRow_setCell_other hown' ?_ _
    intro hk
    rcases hown'.2 with ⟨h, _⟩ | ⟨g', cap', cur, h, _, hc, _⟩
    · rw [h] at hk; cases hk
    · rw [h] at hk
      obtain rfl := Option.some.inj hk
      exact block_ne hc h2 (by decide) rfl
  have h5 : Kept (bx :: (Value.slice ao s.size cap).ownBlock.toList) w1 (w2.setCell ⟨bx, 3, none⟩ (.slice ao' (s.size + t.size) cap')) :=
    ((Kept.refl _ _).grown hgrow (fun k hk => .inl (by simp [hk]))).setCell (.inl (by simp)) _
  have H3 : Hid _ := h3
  have H4 : Hid _ := h4
  have HF : Hid _ := hfr
  clear h3 h4 h2 hown' hgrow hfr hne c1
  go_wp2
  go_ret2
  exact ⟨rfl, _, H3.out, H4.out, h5, HF.out⟩
end Go.Proofs.YtlhhgenpcjjajaaGreatDoor
namespace Go.Proofs.YtlhhgenpcjjajaaGreatDoor
open Go.RowKit Go.Extern.Stop Go.Stop Go.Extern
theorem bcells_at (t : ByteArray) (j : Nat) (u : Value) (h : (bcells t)[j]? = some u) : ∃ hj : j < t.data.size, u = .int .u8 (t.data[j].toNat : Int) := by
  unfold bcells at h
  rw [List.getElem?_map] at h
  obtain ⟨b, hb, rfl⟩ := Option.map_eq_some_iff.1 h
  obtain ⟨hj, rfl⟩ := List.getElem?_eq_some_iff.1 hb
  exact ⟨by simpa using hj, by simp⟩
theorem bytesRow_cells (t : ByteArray) (cap j : Nat) (u : Value) (h : (bcells t)[j]? = some u) : (bytesRow t cap)[j]? = some u := by
  obtain ⟨hj, rfl⟩ := bcells_at t j u h
  exact bytesRow_at t cap j hj
theorem bytesRow_size (t : ByteArray) (cap : Nat) : t.size ≤ (bytesRow t cap).size := by
  have : t.data.size = t.size := rfl
  simp [bytesRow, this]
theorem cell_mark {w : World} {b : Nat} {c : Array Value} {t : TypeId} {m : Nat × Nat} (h : w.heap[b]? = some (.cells c t m)) (j : Nat) : w.cell? ⟨b, j, none⟩ = c[j]? := by simp [World.cell?, h]
theorem free_mark {w : World} {b : Nat} {c : Array Value} {t : TypeId} {n : Nat} (h : w.heap[b]? = some (.cells c t (n, n + 1))) (j : Nat) (hj : j < n) : w.frozen? ⟨b, j, none⟩ = false := by
  simp [World.frozen?, h]; omega
theorem mark_setCell {w : World} {b : Nat} {c : Array Value} {t : TypeId} {m : Nat × Nat} (h : w.heap[b]? = some (.cells c t m)) (j : Nat) (u : Value) : (w.setCell ⟨b, j, none⟩ u).heap[b]? = some (.cells (c.setIfInBounds j u) t m) := by
  have hlt := lt_of_block h
  have h' : w.heap[b] = .cells c t m := by simpa [Array.getElem?_eq_getElem hlt] using h
  show (w.heap.modify b _)[b]? = _
  rw [Array.getElem?_eq_getElem (by simpa using hlt), Array.getElem_modify_self, h']
  rfl
def Turned (g sz bx : Nat) (xc : Array Value) (base n : Nat) (tv : Value) (xs : List Value) (S : List Nat) (w wr : World) : Prop :=
  (∃ C : Array Value, wr.heap[g]? = some (.cells C 5 (sz, sz + 1)) ∧ C.size = sz) ∧ wr.heap[bx]? = some (.cells xc 76 (0, 0)) ∧ wr.ownsRow base 5 1 tv n xs ∧ Kept S w wr
theorem Turned.store {g sz bx : Nat} {xc : Array Value} {base n : Nat} {tv : Value} {xs : List Value} {S : List Nat} {w wr : World} (h : Turned g sz bx xc base n tv xs S w wr) (hg : w.heap.size ≤ g) (hb : bx ≠ g) (ht : tv.ownBlock ≠ some g) (j : Nat) (u : Value) :
    Turned g sz bx xc base n tv xs S w (wr.setCell ⟨g, j, none⟩ u) := by
  obtain ⟨⟨C, hC, hs⟩, hx, ho, hk⟩ := h
  refine ⟨⟨_, mark_setCell hC j u, by simpa using hs⟩, ?_, ownsRow_setCell_other ho ht u, hk.setCell (.inr hg) u⟩
  rw [Below.heap_setCell wr ⟨g, j, none⟩ u bx hb]; exact hx
theorem Turned.cell {g sz bx : Nat} {xc : Array Value} {base n : Nat} {tv : Value} {xs : List Value} {S : List Nat} {w wr : World} (h : Turned g sz bx xc base n tv xs S w wr) (j : Nat) (hj : j < sz) : (∃ v, wr.cell? ⟨g, j, none⟩ = some v) ∧ wr.frozen? ⟨g, j, none⟩ = false := by
  obtain ⟨⟨C, hC, hs⟩, _⟩ := h
  refine ⟨⟨C[j]'(by omega), ?_⟩, free_mark hC j hj⟩
  rw [cell_mark hC]; exact Array.getElem?_eq_getElem (by omega)
set_option maxRecDepth 100000 in
set_option maxHeartbeats 1000000 in
theorem pwrite_ok (bx : Nat) (a : Int × Int × Int) (tv : Value) (s t : ByteArray) (base : Nat) (w : World) (hx : w.heap[bx]? = some (.cells (xcells a tv) 76 (0, 0)))
    (ho : w.ownsRow base 5 1 tv s.size (bcells s)) (hl : s.size + t.size ≤ 1024) (hb : base ≤ w.heap.size) :
    Calls Tryz.prog 15 #[.pointer (some ⟨bx, 0, none⟩), .string t] w fun e w' => e = .returned (.tuple #[.int .i64 t.size, .int .i64 0, .bool true]) ∧
      ∃ tv', w'.heap[bx]? = some (.cells (xcells a tv') 76 (0, 0)) ∧ w'.ownsRow base 5 1 tv' (s ++ t).size (bcells (s ++ t)) ∧ Kept (bx :: tv.ownBlock.toList) w w' ∧ (tv'.ownBlock = tv.ownBlock ∨ ∀ k, tv'.ownBlock = some k → w.heap.size ≤ k) := by
  have hcv := run_bytes_of_string (P := Tryz.prog) w 9 55 5 t Tryz.underlying9 Tryz.underlying55 Tryz.underlying5
  obtain ⟨cp, hcp⟩ : ∃ cp, cp = grownCap w t.size 0 5 := ⟨_, rfl⟩
  rw [← hcp] at hcv
  clear hcp
  have hrz := bytesRow_size t cp
  have hrc := bytesRow_cells t cp
  generalize bytesRow t cp = R at hcv hrz hrc
  obtain ⟨W1, hW1⟩ : ∃ W1, W1 = w.drew.alloc (.cells R 5 (R.size, R.size + 1)) := ⟨_, rfl⟩
  rw [← hW1] at hcv
  have hB : W1.heap[w.heap.size]? = some (.cells R 5 (R.size, R.size + 1)) := by rw [hW1]; exact heap_alloc_at w.drew _
  have K1 : Kept [] w W1 := by rw [hW1]; exact (Kept.refl [] w).drew.alloc _
  have z1 : W1.heap.size = w.heap.size + 1 := by rw [hW1]; show (w.heap.push _).size = _; simp
  clear hW1
  have hbx := lt_of_block hx
  have hol := ho.lt
  have x1 := K1.at hx (by simp)
  have o1 := K1.ownsRow ho (fun _ _ => by simp)
  have C1 := xwrite_ok bx w.heap.size cp a tv s t base W1 x1 o1 (fun j u h => by rw [cell_mark hB]; exact hrc j u h) hl (by omega)
  have HC1 := hide C1
  have HB := hide hB
  have HR := hide hrc
  have HX := hide hol
  have HZ : Hid (W1.heap.size = w.heap.size + 1) := z1
  clear C1 hB hrc hol z1 x1 o1 hx ho
  go_enter Tryz.func15, Tryz.ntmps15
  go_wp2_with fail
  refine HC1.out.mono ?_
  rintro e w2 ⟨rfl, tv', hx2, ho2, hk2, hf2⟩
  clear hcv HC1
  go_wp2_with fail
  refine (told_nil _).mono ?_
  rintro e w3 ⟨rfl, hk3⟩
  have hS : w.heap.size ∉ bx :: tv.ownBlock.toList := by
    simp only [List.mem_cons, Option.mem_toList, not_or]
    exact ⟨by omega, fun h => by have := (HX.out _ h).2; omega⟩
  have hB3 : w3.heap[w.heap.size]? = some (.cells R 5 (R.size, R.size + 1)) := hk3.at (hk2.at HB.out hS) (by simp)
  have hT : Turned w.heap.size R.size bx (xcells a tv') base (s ++ t).size tv' (bcells (s ++ t)) (bx :: tv.ownBlock.toList) w w3 :=
    ⟨⟨R, hB3, rfl⟩, hk3.at hx2 (by simp), hk3.ownsRow ho2 (fun _ _ => by simp), ((K1.mono (by simp)).trans hk2).trans (hk3.mono (by simp))⟩
  have hne : tv'.ownBlock ≠ some w.heap.size := by
    rcases hf2 with h | h
    · rw [h]; intro h'; have := (HX.out _ h').2; omega
    · intro h'; have := h _ h'; have := HZ.out; omega
  have hfin : tv'.ownBlock = tv.ownBlock ∨ ∀ k, tv'.ownBlock = some k → w.heap.size ≤ k := by
    rcases hf2 with h | h
    · exact .inl h
    · exact .inr fun k hk => by have := h k hk; have := HZ.out; omega
  have hback : (convert 55 9 (.slice (some ⟨w.heap.size, 0, none⟩) t.size cp)).run Tryz.prog w3 = .ok (.string t) w3 := by
    have := run_convert_bytes_back (P := Tryz.prog) w3 55 9 5 ⟨w.heap.size, 0, none⟩ cp t.data.toList Tryz.underlying55 Tryz.underlying5 Tryz.underlying9 (fun j hj => by
      rw [addr_add, cell_mark hB3]
      exact HR.out j _ (by unfold bcells; rw [List.getElem?_map, List.getElem?_eq_getElem hj]; rfl))
    simpa using this
  have HT := hide hT
  have HN := hide hne
  have HF := hide hfin
  have HZR := hide hrz
  clear hT hne hfin hf2 hk2 hk3 hx2 ho2 hB3 hS K1 hrz
  go_wp2_with fail
  clear hback
  go_loopw [33] (fun i wr => ∃ k : Nat, k ≤ t.size ∧ i = .int .i64 k ∧ Turned w.heap.size R.size bx (xcells a tv') base (s ++ t).size tv' (bcells (s ++ t)) (bx :: tv.ownBlock.toList) w wr) (fun i _ => t.size - (intOf i).toNat)
  case atStart => exact ⟨0, Nat.zero_le _, rfl, HT.out⟩
  case round =>
    obtain ⟨k, hk, rfl, hT⟩ := hrel
    have HT2 := hide hT
    clear hT
    by_cases hlt : k < t.size
    · obtain ⟨⟨v, hv⟩, hfz⟩ := HT2.out.cell k (by have := HZR.out; omega)
      have HS := hide (HT2.out.store (Nat.le_refl _) (by omega) HN.out k (.int .u8 33))
      go_wp2
      go_roundw
      case rel => exact ⟨k + 1, by omega, by go_num, HS.out⟩
      case measure => simp [intOf]; omega
    · go_wp2
      go_ret3
      exact ⟨rfl, tv', HT2.out.2.1, HT2.out.2.2.1, HT2.out.2.2.2, HF.out⟩
end Go.Proofs.YtlhhgenpcjjajaaGreatDoor
namespace Go.Proofs.YtlhhgenpcjjajaaGreatDoor
open Go.RowKit Go.PlainAid
structure RC where
  cs : ByteArray
  av : Value
  at_ : Int
  mv : Value
  lg : Int
  ofT : ByteArray := ⟨#[]⟩
  plT : Bool := false
def rcells (R : RC) (bg ps : Nat) : Array Value := #[.string R.cs, R.av, .int .i64 (bg : Int), .int .i64 (ps : Int), .int .i64 R.at_, R.mv, .int .i64 R.lg, .string R.ofT, .bool R.plT]
def Rd (w : World) (r : Nat) (R : RC) (bg ps : Nat) : Prop := w.heap[r]? = some (.cells (rcells R bg ps) 165 (0, 0))
theorem Rd.text {w : World} {r : Nat} {R : RC} {bg ps : Nat} (h : Rd w r R bg ps) : w.cell? ⟨r, 0, none⟩ = some (.string R.cs) := by rw [cell_at h]; rfl
theorem Rd.ats {w : World} {r : Nat} {R : RC} {bg ps : Nat} (h : Rd w r R bg ps) : w.cell? ⟨r, 1, none⟩ = some R.av := by rw [cell_at h]; rfl
theorem Rd.bg {w : World} {r : Nat} {R : RC} {bg ps : Nat} (h : Rd w r R bg ps) : w.cell? ⟨r, 2, none⟩ = some (.int .i64 (bg : Int)) := by rw [cell_at h]; rfl
theorem Rd.ps {w : World} {r : Nat} {R : RC} {bg ps : Nat} (h : Rd w r R bg ps) : w.cell? ⟨r, 3, none⟩ = some (.int .i64 (ps : Int)) := by rw [cell_at h]; rfl
theorem Rd.mv {w : World} {r : Nat} {R : RC} {bg ps : Nat} (h : Rd w r R bg ps) : w.cell? ⟨r, 5, none⟩ = some R.mv := by rw [cell_at h]; rfl
theorem Rd.lg {w : World} {r : Nat} {R : RC} {bg ps : Nat} (h : Rd w r R bg ps) : w.cell? ⟨r, 6, none⟩ = some (.int .i64 R.lg) := by rw [cell_at h]; rfl
theorem Rd.ofT {w : World} {r : Nat} {R : RC} {bg ps : Nat} (h : Rd w r R bg ps) : w.cell? ⟨r, 7, none⟩ = some (.string R.ofT) := by rw [cell_at h]; rfl
theorem Rd.plT {w : World} {r : Nat} {R : RC} {bg ps : Nat} (h : Rd w r R bg ps) : w.cell? ⟨r, 8, none⟩ = some (.bool R.plT) := by rw [cell_at h]; rfl
theorem Rd.free {w : World} {r : Nat} {R : RC} {bg ps : Nat} (h : Rd w r R bg ps) (j : Nat) : w.frozen? ⟨r, j, none⟩ = false := by unfold Rd at h; simp [World.frozen?, h]
theorem Rd.setPs {w : World} {r : Nat} {R : RC} {bg ps : Nat} (h : Rd w r R bg ps) (ps' : Nat) : Rd (w.setCell ⟨r, 3, none⟩ (.int .i64 (ps' : Int))) r R bg ps' := block_setCell h 3 _
theorem Rd.setBg {w : World} {r : Nat} {R : RC} {bg ps : Nat} (h : Rd w r R bg ps) (bg' : Nat) : Rd (w.setCell ⟨r, 2, none⟩ (.int .i64 (bg' : Int))) r R bg' ps := block_setCell h 2 _
theorem Rd.kept {w w' : World} {r : Nat} {R : RC} {bg ps : Nat} {S : List Nat} (h : Rd w r R bg ps) (hk : Kept S w w') (hs : r ∉ S) : Rd w' r R bg ps := hk.at h hs
set_option maxRecDepth 100000 in
set_option maxHeartbeats 400000 in
theorem atEnd_any (r : Nat) (R : RC) (bg ps : Nat) (w : World) (h : Rd w r R bg ps) :
    Calls Tryz.prog 87 #[.pointer (some ⟨r, 0, none⟩)] w fun e w' => e = .returned (.bool (decide (ps = R.cs.size))) ∧ ∃ q, w' = w.drewN q := by
  have t := h.text
  have p := h.ps
  clear h
  generalize R.cs = s at t
  by_cases e : ps = s.size
  · subst e
    go_enter Tryz.func87, Tryz.ntmps87
    go_wp2_with fail
    go_quiet (fail)
    go_wp2
    go_ret
    exact ⟨by simp, ⟨_, rfl⟩⟩
  · have e' : ((ps : Int) == (s.size : Int)) = false := beq_eq_false_iff_ne.2 (by omega)
    go_enter Tryz.func87, Tryz.ntmps87
    go_wp2_with fail
    go_quiet (fail)
    go_wp2
    go_ret
    exact ⟨by simp [e], ⟨_, rfl⟩⟩
set_option maxRecDepth 100000 in
set_option maxHeartbeats 400000 in
theorem rest_any (r : Nat) (R : RC) (bg ps : Nat) (w : World) (h : Rd w r R bg ps) (hp : ps ≤ R.cs.size) (_hs : R.cs.size ≤ 1024) :
    Calls Tryz.prog 160 #[.pointer (some ⟨r, 0, none⟩)] w fun e w' => e = .returned (.string (R.cs.extract ps R.cs.size)) ∧ ∃ q, w' = w.drewN q := by
  have t := h.text
  have p := h.ps
  clear h
  generalize R.cs = s at *
  go_enter Tryz.func160, Tryz.ntmps160
  go_wp2_with fail
  go_quiet (fail)
  go_wp2
  go_ret
  exact ⟨rfl, ⟨_, rfl⟩⟩
theorem letter_any (c : Int) (w : World) (h0 : 0 ≤ c) (h1 : c ≤ 255) :
    Calls Tryz.prog 162 #[.int .u8 c] w fun e w' => e = .returned (.bool (decide (97 ≤ c ∧ c ≤ 122 ∨ 65 ≤ c ∧ c ≤ 90))) ∧ w' = w := by
  by_cases a1 : 97 ≤ c <;> by_cases a2 : c ≤ 122 <;> by_cases a3 : 65 ≤ c <;> by_cases a4 : c ≤ 90
  all_goals first | (exfalso; omega) | skip
  all_goals (go_enter Tryz.func162, Tryz.ntmps162; go_wp2; go_ret; exact ⟨by first | (simp; done) | (simp; omega), rfl⟩)
end Go.Proofs.YtlhhgenpcjjajaaGreatDoor
namespace Go.Proofs.YtlhhgenpcjjajaaGreatDoor
open Go.RowKit Go.PlainAid
def pre (s p : ByteArray) : Bool := decide (p.size ≤ s.size) && ((s.extract 0 p.size).toList == p.toList)
set_option maxRecDepth 100000 in
set_option maxHeartbeats 400000 in
theorem lite_hasPrefix (s p : ByteArray) (w : World) (hs : s.size ≤ 1048576) (hp : p.size ≤ 1048576) :
    Calls Tryz.prog 252 #[.string s, .string p] w fun e w' => e = .returned (.bool (pre s p)) ∧ w' = w := by
  by_cases h : p.size ≤ s.size
  · go_enter Tryz.func252, Tryz.ntmps252
    go_wp2
    go_ret
    exact ⟨by simp [pre, h], rfl⟩
  · go_enter Tryz.func252, Tryz.ntmps252
    go_wp2
    go_ret
    exact ⟨by simp [pre, h], rfl⟩
end Go.Proofs.YtlhhgenpcjjajaaGreatDoor
namespace Go.Proofs.YtlhhgenpcjjajaaGreatDoor
open Go.RowKit Go.PlainAid
set_option maxRecDepth 100000 in
set_option maxHeartbeats 400000 in
theorem hasPrefix_any (s p : ByteArray) (w : World) (hs : s.size ≤ 1048576) (hp : p.size ≤ 1048576) :
    Calls Tryz.prog 159 #[.string s, .string p] w fun e w' => e = .returned (.bool (pre s p)) ∧ w' = w := by
  go_enter Tryz.func159, Tryz.ntmps159
  go_wp2_with fail
  refine (lite_hasPrefix s p w hs hp).mono ?_
  rintro e w' ⟨rfl, rfl⟩
  go_wp2
  go_ret
  exact ⟨rfl, rfl⟩
theorem pre_le {s p : ByteArray} (h : pre s p = true) : p.size ≤ s.size := by
  unfold pre at h; simp at h; exact h.1
theorem pre_rest {s p : ByteArray} {ps : Nat} (h : pre (s.extract ps s.size) p = true) (hp : ps ≤ s.size) : ps + p.size ≤ s.size := by
  have := pre_le h; simp at this; omega
def taken (R : RC) (p : ByteArray) (ps : Nat) : Nat := if pre (R.cs.extract ps R.cs.size) p = true then ps + p.size else ps
theorem taken_le {R : RC} {p : ByteArray} {ps : Nat} (h : ps ≤ R.cs.size) : taken R p ps ≤ R.cs.size := by
  unfold taken; split
  · rename_i h'; exact pre_rest h' h
  · exact h
theorem taken_ge {R : RC} {p : ByteArray} {ps : Nat} : ps ≤ taken R p ps := by unfold taken; split <;> omega
set_option maxRecDepth 100000 in
set_option maxHeartbeats 400000 in
theorem take_any (r : Nat) (R : RC) (bg ps : Nat) (s : ByteArray) (w : World) (h : Rd w r R bg ps) (hp : ps ≤ R.cs.size) (hs : R.cs.size ≤ 1024) (hss : s.size ≤ 1024) :
    Calls Tryz.prog 91 #[.pointer (some ⟨r, 0, none⟩), .string s] w fun e w' => e = .returned (.bool (pre (R.cs.extract ps R.cs.size) s)) ∧ Kept [r] w w' ∧ Rd w' r R bg (taken R s ps) := by
  have H := hide h
  clear h
  by_cases e : pre (R.cs.extract ps R.cs.size) s = true
  · have hle := pre_rest e hp
    have htk : taken R s ps = ps + s.size := by unfold taken; rw [if_pos e]
    rw [htk]
    clear htk
    go_enter Tryz.func91, Tryz.ntmps91
    go_wp2_with fail
    refine (rest_any r R bg ps w H.out hp hs).mono ?_
    rintro e w' ⟨rfl, q, rfl⟩
    go_wp2_with fail
    refine (hasPrefix_any _ s _ (by simp; omega) (by omega)).mono ?_
    rintro e w' ⟨rfl, rfl⟩
    have p : (w.drewN q).cell? ⟨r, 3, none⟩ = some (.int .i64 (ps : Int)) := H.out.ps
    have fz := H.out.free 3
    have HK : Hid (Kept [r] w ((w.drewN q).setCell ⟨r, 3, none⟩ (.int .i64 ((ps + s.size : Nat) : Int)))) := ((Kept.refl [r] w).drewN q).setCell (.inl (by simp)) _
    have HR : Hid (Rd ((w.drewN q).setCell ⟨r, 3, none⟩ (.int .i64 ((ps + s.size : Nat) : Int))) r R bg (ps + s.size)) := Rd.setPs (w := w.drewN q) H.out _
    rw [e]
    go_wp2
    go_ret
    exact ⟨by rw [e]; rfl, HK.out, HR.out⟩
  · have htk : taken R s ps = ps := by unfold taken; rw [if_neg e]
    rw [htk]
    have e' : pre (R.cs.extract ps R.cs.size) s = false := by simpa using e
    clear htk e
    go_enter Tryz.func91, Tryz.ntmps91
    go_wp2_with fail
    refine (rest_any r R bg ps w H.out hp hs).mono ?_
    rintro e w' ⟨rfl, q, rfl⟩
    go_wp2_with fail
    refine (hasPrefix_any _ s _ (by simp; omega) (by omega)).mono ?_
    rintro e w' ⟨rfl, rfl⟩
    rw [e']
    go_wp2
    go_ret
    exact ⟨by rw [e']; rfl, (Kept.refl [r] w).drewN q, H.out⟩
end Go.Proofs.YtlhhgenpcjjajaaGreatDoor
namespace Go.Proofs.YtlhhgenpcjjajaaGreatDoor
open Go.RowKit Go.PlainAid
def scan (q : Int → Bool) (s : ByteArray) (i : Nat) : Nat := if h : i < s.size then (if q (bt s i) then i else scan q s (i + 1)) else i
  termination_by s.size - i
theorem scan_end {q : Int → Bool} {s : ByteArray} {i : Nat} (h : s.size ≤ i) : scan q s i = i := by rw [scan, dif_neg (by omega)]
theorem scan_yes {q : Int → Bool} {s : ByteArray} {i : Nat} (h : q (bt s i) = true) : scan q s i = i := by rw [scan]; split <;> simp_all
theorem scan_no {q : Int → Bool} {s : ByteArray} {i : Nat} (hi : i < s.size) (h : q (bt s i) = false) : scan q s i = scan q s (i + 1) := by rw [scan, dif_pos hi, h]; simp
theorem scan_ge {q : Int → Bool} {s : ByteArray} {i : Nat} : i ≤ scan q s i := by
  fun_induction scan q s i with
  | case1 => omega
  | case2 => omega
  | case3 => omega
theorem scan_le {q : Int → Bool} {s : ByteArray} {i : Nat} (h : i ≤ s.size) : scan q s i ≤ s.size := by
  fun_induction scan q s i with
  | case1 => omega
  | case2 _ _ _ ih => exact ih (by omega)
  | case3 => omega
theorem scan_at {q : Int → Bool} {s : ByteArray} {i : Nat} : scan q s i < s.size → q (bt s (scan q s i)) = true := by
  fun_induction scan q s i with
  | case1 _ _ h => intro _; exact h
  | case2 _ _ _ ih => exact ih
  | case3 _ h => intro h'; exact absurd h' h
structure Asks (w : World) (S : List Nat) (k : Nat) (caps : Array Value) (q : Int → Bool) : Prop where
  ent : ∀ (args : Array Value) (w : World), (callFunc k args).run Tryz.prog w = .ok (.enter k args) w
  ask : ∀ (c : Int) (w' : World), 0 ≤ c → c ≤ 255 → Kept S w w' → Calls Tryz.prog k (#[.int .u8 c] ++ caps) w' fun e w'' => e = .returned (.bool (q c)) ∧ ∃ n, w'' = w'.drewN n
set_option maxRecDepth 100000 in
set_option maxHeartbeats 1000000 in
theorem upTo_any (r : Nat) (R : RC) (bg ps : Nat) (k : Nat) (caps : Array Value) (q : Int → Bool) (w : World) (h : Rd w r R bg ps) (hp : ps ≤ R.cs.size) (hs : R.cs.size ≤ 1024) (hq : Asks w [r] k caps q) :
    Calls Tryz.prog 258 #[.pointer (some ⟨r, 0, none⟩), .func (.func k) #[] caps] w fun e w' => e = .returned (.string (R.cs.extract ps (scan q R.cs ps))) ∧ Kept [r] w w' ∧ Rd w' r R bg (scan q R.cs ps) := by
  have HQ := hide hq
  have p0 := h.ps
  have H := hide h
  clear h hq
  have hbt := get_bt R.cs
  have hent := HQ.out.ent
  go_enter Tryz.func258, Tryz.ntmps258
  go_wp2_with fail
  clear p0
  go_loopw [] (fun wr => ∃ i : Nat, ps ≤ i ∧ i ≤ R.cs.size ∧ scan q R.cs i = scan q R.cs ps ∧ Rd wr r R bg i ∧ Kept [r] w wr) (fun wr => R.cs.size - (match wr.cell? ⟨r, 3, none⟩ with | some v => (intOf v).toNat | none => 0))
  case atStart => exact ⟨ps, Nat.le_refl _, hp, rfl, H.out, Kept.refl _ _⟩
  case round =>
    obtain ⟨i, hi0, hi1, hsc, hrd, hkw⟩ := hrel
    have HR := hide hrd
    have HKW := hide hkw
    have t := hrd.text
    have p := hrd.ps
    have fz := hrd.free 3
    clear hrd hkw
    by_cases e : i = R.cs.size
    · have C := hide (fun w' (h : Rd w' r R bg i) => atEnd_any r R bg i w' h)
      have e2 : scan q R.cs ps = i := by rw [← hsc]; exact scan_end (by omega)
      have e3 : decide (i = R.cs.size) = true := by simp [e]
      rw [e2]
      rw [e3] at C
      go_wp2_with fail
      go_quiet ((go_at_call 87; refine Calls.quiet_of (C.out _ ?_); exact HR.out))
      go_wp2_with fail
      go_quiet (fail)
      go_wp2
      go_ret
      exact ⟨by rw [e2, e]; rfl, ((HKW.out.drewN _).drewN _), by rw [e2]; exact HR.out⟩
    · have hlt : i < R.cs.size := by omega
      have C := hide (fun w' (h : Rd w' r R bg i) => atEnd_any r R bg i w' h)
      have e3 : decide (i = R.cs.size) = false := by simp [e]
      rw [e3] at C
      have hb := hbt i hlt
      have h0 := bt_nonneg R.cs i
      have h1 := bt_le R.cs i
      by_cases hqv : q (bt R.cs i) = true
      · have e2 : scan q R.cs ps = i := by rw [← hsc]; exact scan_yes hqv
        rw [e2]
        have D := hide (fun w' h => HQ.out.ask (bt R.cs i) w' h0 h1 h)
        rw [hqv] at D
        go_wp2_with fail
        go_quiet (first | (go_at_call 87; refine Calls.quiet_of (C.out _ ?_); exact HR.out) | (refine Calls.quiet_of (D.out _ ?_); exact HKW.out.drewN _))
        go_wp2_with fail
        go_quiet (fail)
        go_wp2
        go_ret
        exact ⟨by rw [e2]; rfl, ((HKW.out.drewN _).drewN _), by rw [e2]; exact HR.out⟩
      · have hqf : q (bt R.cs i) = false := by simpa using hqv
        have e2 : scan q R.cs (i + 1) = scan q R.cs ps := by rw [← hsc, scan_no hlt hqf]
        have D := hide (fun w' h => HQ.out.ask (bt R.cs i) w' h0 h1 h)
        rw [hqf] at D
        have HS := hide e2
        clear e2 hsc hqv hqf
        go_wp2_with fail
        go_quiet (first | (go_at_call 87; refine Calls.quiet_of (C.out _ ?_); exact HR.out) | (refine Calls.quiet_of (D.out _ ?_); exact HKW.out.drewN _))
        have HRN := hide (Rd.setPs (w := wr.drewN nq) HR.out (i + 1))
        have HKN := hide ((HKW.out.drewN nq).setCell (p := ⟨r, 3, none⟩) (.inl (by simp)) (.int .i64 ((i + 1 : Nat) : Int)))
        go_wp2
        go_roundw
        case rel => exact ⟨i + 1, by omega, by omega, HS.out, HRN.out, HKN.out⟩
        case measure =>
          have m1 := HRN.out.ps
          rw [show ((i : Int) + 1) = ((i + 1 : Nat) : Int) from by omega, m1, p]
          simp [intOf]; omega
end Go.Proofs.YtlhhgenpcjjajaaGreatDoor
