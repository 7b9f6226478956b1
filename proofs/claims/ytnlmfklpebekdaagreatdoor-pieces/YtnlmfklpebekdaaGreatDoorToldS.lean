import Derived.Test.YtnlmfklpebekdaaGreatDoorErrsU
import Derived.Test.YtnlmfklpebekdaaGreatDoorTold
import Derived.Test.YtnlmfklpebekdaaGreatDoorWr
set_option linter.unusedSimpArgs false
set_option linter.unusedVariables false
namespace Go.Proofs.YtnlmfklpebekdaaGreatDoor
open Go.RowKit Go.Extern.Stop Go.Stop Go.Extern

theorem as_stop_hitK (p : Addr) (t : Nat) (old : Value) (w : World) (hg : errorType w) (ht : w.heap[t]? = some (.cells #[old] 68 (0, 0))) :
    Calls Tryz.prog 25 #[.iface 68 (.pointer (some p)), .iface 70 (.pointer (some ⟨t, 0, none⟩))] w fun ev w' => ev = .returned (.bool true) ∧ w'.heap[t]? = some (.cells #[.pointer (some p)] 68 (0, 0)) ∧ Kept [t] w w' := by
  refine (as_stop_hit p ⟨t, 0, none⟩ old w hg (cell_of_one ht) (free_of_one ht)).mono ?_
  rintro e w' ⟨rfl, rfl⟩
  refine ⟨rfl, one_setCell (v := old) ?_, ?_⟩
  · have hl := lt_of_block ht
    rw [Below.heap_alloc _ _ _ (by simp; omega), Below.heap_alloc _ _ _ (by simp; omega), Below.heap_alloc _ _ _ (by simp; omega), Below.heap_alloc _ _ _ hl]
    exact ht
  · exact Kept.setCell ((((Kept.refl _ _).alloc _).alloc _).alloc _ |>.alloc _) (.inl (by simp)) _

theorem as_stop_errnoK (p : Nat) (at_ k : Int) (t : Nat) (old : Value) (w : World) (hp : w.heap[p]? = some (.cells #[.int .i64 k, .int .i64 at_] 73 (0, 0))) (hg : errorType w) (ht : w.heap[t]? = some (.cells #[old] 24 (0, 0))) :
    Calls Tryz.prog 25 #[.iface 68 (.pointer (some ⟨p, 0, none⟩)), .iface 75 (.pointer (some ⟨t, 0, none⟩))] w fun ev w' => ev = .returned (.bool true) ∧ w'.heap[t]? = some (.cells #[.int .i64 k] 24 (0, 0)) ∧ Kept [t] w w' := by
  refine (as_stop_errno p at_ k ⟨t, 0, none⟩ old w hp hg (cell_of_one ht) (free_of_one ht)).mono ?_
  rintro e w' ⟨rfl, rfl⟩
  refine ⟨rfl, one_setCell (v := old) ?_, ?_⟩
  · have hl := lt_of_block ht
    rw [Below.heap_alloc _ _ _ (by simp; omega), Below.heap_alloc _ _ _ (by simp; omega), Below.heap_alloc _ _ _ (by simp; omega), Below.heap_alloc _ _ _ hl]
    exact ht
  · exact Kept.setCell ((((Kept.refl _ _).alloc _).alloc _).alloc _ |>.alloc _) (.inl (by simp)) _

set_option maxHeartbeats 1000000 in
theorem find_stop (p : Nat) (at_ k : Int) (w : World) (hp : w.heap[p]? = some (.cells #[.int .i64 k, .int .i64 at_] 73 (0, 0))) (hg : errorType w) :
    Calls Tryz.prog 36 #[.iface 68 (.pointer (some ⟨p, 0, none⟩))] w fun e w' => e = .returned (.tuple #[.int .i64 k, .bool true]) ∧ Kept [] w w' := by
  have hmf : ∀ (fn : Fn) (first cap : Array Value) (w : World), (Instr.makeFunc fn first cap).run Tryz.prog w = .ok (.func fn first cap) w := fun _ _ _ _ => rfl
  have hg2 := errorType_alloc (errorType_alloc hg (.cells #[.int .i64 0] 24)) (.cells #[.bool false] 4)
  have hpl := lt_of_block hp
  have hp2 : ((w.alloc (.cells #[.int .i64 0] 24)).alloc (.cells #[.bool false] 4)).heap[p]? = some (.cells #[.int .i64 k, .int .i64 at_] 73 (0, 0)) := by
    rw [Below.heap_alloc _ _ _ (by simp; omega), Below.heap_alloc _ _ _ hpl]; exact hp
  have HP2 := hide hp2
  clear hp hp2
  go_enter_defers Tryz.func36, Tryz.ntmps36
  go_wp2_with fail
  refine (as_stop_errnoK p at_ k w.heap.size _ _ HP2.out hg2 (by rw [Below.heap_alloc _ _ _ (by simp)]; exact heap_alloc_at _ _)).mono ?_
  rintro e w1 ⟨rfl, h1, hk⟩
  have h2 : w1.heap[w.heap.size + 1]? = some (.cells #[.bool false] 4 (0, 0)) := by
    refine hk.at ?_ (by simp)
    have := heap_alloc_at (w.alloc (.cells #[.int .i64 0] 24)) (.cells #[.bool false] 4)
    simpa using this
  have c1 := cell_of_one h1
  have c2 := cell_of_one h2
  have f1 := free_of_one h1
  have f2 := free_of_one h2
  have K1 : Kept [] w w1 := ((((Kept.refl _ _).alloc _).alloc _).trans (S := [w.heap.size]) hk).mono (by intro k hm hl; simp at hm; omega)
  clear hk HP2
  have z1 := lt_of_block h1
  have z2 := lt_of_block h2
  clear h1 h2 hg hg2
  go_wp2_with fail
  go_region
  all_goals go_wp2
  refine leaves_cons (f := 45) (args := #[.pointer (some ⟨w.heap.size, 0, none⟩), .pointer (some ⟨w.heap.size + 1, 0, none⟩)]) (by simp) (by simp [go_sem]) ?_
  refine (catch_idle ⟨w.heap.size, 0, none⟩ ⟨w.heap.size + 1, 0, none⟩ _).mono ?_
  rintro e u' w'' ⟨rfl, rfl, rfl⟩
  have K2 : Kept [] w (((w1.setCell ⟨w.heap.size + 1, 0, none⟩ (.bool true)).setCell ⟨w.heap.size, 0, none⟩ (.int .i64 k)).setCell ⟨w.heap.size + 1, 0, none⟩ (.bool true)).drew :=
    (((K1.setCell (.inr (by simp)) _).setCell (.inr (by simp)) _).setCell (.inr (by simp)) _).drew
  simp [Leaves, settle, results, Tryz.results36, go_sem, c1, c2]
  exact K2

set_option maxHeartbeats 400000 in
theorem number_stop (p : Nat) (at_ k : Int) (w : World) (hp : w.heap[p]? = some (.cells #[.int .i64 k, .int .i64 at_] 73 (0, 0))) (hg : errorType w) :
    Calls Tryz.prog 27 #[.iface 68 (.pointer (some ⟨p, 0, none⟩))] w fun e w' => e = .returned (.int .i64 k) ∧ Kept [] w w' := by
  have H := hide (find_stop p at_ k w hp hg)
  clear hp hg
  go_enter Tryz.func27, Tryz.ntmps27
  go_wp2_with fail
  refine H.out.mono ?_
  rintro e w' ⟨rfl, hk⟩
  go_wp2
  go_ret
  exact ⟨rfl, hk⟩

set_option maxHeartbeats 2000000 in
theorem told_stop (p : Nat) (at_ k : Int) (w : World) (hp : w.heap[p]? = some (.cells #[.int .i64 k, .int .i64 at_] 73 (0, 0))) (hg : errorType w) :
    Calls Tryz.prog 20 #[.iface 68 (.pointer (some ⟨p, 0, none⟩))] w fun e w' => e = .returned (.tuple #[.int .i64 k, .int .i64 at_]) ∧ Kept [] w w' := by
  have hg2 := errorType_alloc (errorType_alloc hg (.cells #[.pointer none] 68)) (.cells #[.int .i64 0] 24)
  have HP := hide hp
  have HG := hide hg
  clear hp hg
  go_enter Tryz.func20, Tryz.ntmps20
  go_wp2_with fail
  refine wp_region_any (by kernel_rfl) ?_
  change wpAny _ _ _ _ _ _ _ (World.drew _)
  refine take_run (i := 0) (some 10) (.iface 68 (.pointer (some ⟨p, 0, none⟩))) rfl rfl (by kernel_rfl) (by kernel_rfl) (by kernel_rfl) (fun _ _ _ h => h) (by kernel_rfl) (fun _ => by kernel_rfl) ?_
  simp only [Act.put, List.setIfInBounds_toArray, List.set_cons_zero, List.set_cons_succ]
  refine take_run (i := 1) (some 11) (.iface 70 (.pointer (some ⟨w.heap.size, 0, none⟩))) rfl rfl (by kernel_rfl) (by kernel_rfl) (by kernel_rfl) (fun _ _ _ h => h) (by kernel_rfl) (fun _ => by kernel_rfl) ?_
  simp only [Act.put, List.setIfInBounds_toArray, List.set_cons_zero, List.set_cons_succ]
  refine wpAny_ready (rs := [2]) (by kernel_rfl) (by simp) ?_
  refine AllReady.cons rfl (fun K hK => ?_) AllReady.nil
  go_simp
  go_wp2_with fail
  refine (as_stop_hitK ⟨p, 0, none⟩ w.heap.size _ _ (errorType_drew hg2) (by show ((w.alloc _).alloc _).heap[w.heap.size]? = _; rw [Below.heap_alloc _ _ _ (by simp)]; exact heap_alloc_at _ _)).mono ?_
  rintro e w1 ⟨rfl, h1, hk⟩
  have K1 : Kept [] w w1 := (((Kept.refl _ _).alloc _).alloc _).drew.next hk (by simp)
  have HE1 := hide (errorType_kept HG.out K1 (by simp))
  have hp1 := K1.at HP.out (by simp)
  have c1 := cell_of_one h1
  have c0 : w1.cell? ⟨p, 0, none⟩ = some (.int .i64 k) := by simp [World.cell?, hp1]
  have HP1 := hide hp1
  have H1 := hide h1
  have HK1 := hide K1
  clear hk hg2 h1 hp1 K1
  refine hK _ _ ?_
  clear hK K
  refine take_run (i := 3) (some 13) (.bool true) rfl rfl (by kernel_rfl) (by kernel_rfl) (by kernel_rfl) (fun _ _ _ h => h) (by kernel_rfl) (fun _ => by kernel_rfl) ?_
  simp only [Act.put, List.setIfInBounds_toArray, List.set_cons_zero, List.set_cons_succ]
  refine take_run (i := 4) (some 14) (.iface 68 (.pointer (some ⟨p, 0, none⟩))) rfl rfl (by kernel_rfl) (by kernel_rfl) (by kernel_rfl) (fun _ _ _ h => h) (by kernel_rfl) (fun _ => by kernel_rfl) ?_
  simp only [Act.put, List.setIfInBounds_toArray, List.set_cons_zero, List.set_cons_succ]
  refine wpAny_ready (rs := [5]) (by kernel_rfl) (by simp) ?_
  refine AllReady.cons rfl (fun K hK => ?_) AllReady.nil
  go_simp
  refine hK _ _ ?_
  clear hK K
  refine take_run (i := 6) (some 16) (.pointer (some ⟨p, 0, none⟩)) rfl rfl (by kernel_rfl) (by kernel_rfl) (by kernel_rfl) (fun _ _ _ h => h) (by kernel_rfl) (fun _ => by kernel_rfl) ?_
  simp only [Act.put, List.setIfInBounds_toArray, List.set_cons_zero, List.set_cons_succ]
  refine take_run (i := 7) (some 17) (.pointer (some ⟨p, 0, none⟩)) rfl rfl (by kernel_rfl) (by kernel_rfl) (by kernel_rfl) (fun _ _ _ h => h) (by kernel_rfl) (fun _ => by kernel_rfl) ?_
  simp only [Act.put, List.setIfInBounds_toArray, List.set_cons_zero, List.set_cons_succ]
  refine wpAny_ready (rs := [8]) (by kernel_rfl) (by simp) ?_
  refine AllReady.cons rfl (fun K hK => ?_) AllReady.nil
  go_simp
  refine hK _ _ ?_
  clear hK K
  refine take_run (i := 9) (some 19) (.iface 24 (.int .i64 k)) rfl rfl (by kernel_rfl) (by kernel_rfl) (by kernel_rfl) (fun _ _ _ h => h) (by kernel_rfl) (fun _ => by kernel_rfl) ?_
  simp only [Act.put, List.setIfInBounds_toArray, List.set_cons_zero, List.set_cons_succ]
  refine wpAny_ready (rs := [10]) (by kernel_rfl) (by simp) ?_
  refine AllReady.cons rfl (fun K hK => ?_) AllReady.nil
  go_simp
  go_wp2_with fail
  refine (is_stop p at_ k _ HP1.out).mono ?_
  rintro e w2 ⟨rfl, hw2⟩
  subst hw2
  refine hK _ _ ?_
  clear hK K
  refine take_run (i := 11) (some 21) (.bool true) rfl rfl (by kernel_rfl) (by kernel_rfl) (by kernel_rfl) (fun _ _ _ h => h) (by kernel_rfl) (fun _ => by kernel_rfl) ?_
  simp only [Act.put, List.setIfInBounds_toArray, List.set_cons_zero, List.set_cons_succ]
  refine take_run (i := 12) (some 22) (.bool true) rfl rfl (by kernel_rfl) (by kernel_rfl) (by kernel_rfl) (fun _ _ _ h => h) (by kernel_rfl) (fun _ => by kernel_rfl) ?_
  simp only [Act.put, List.setIfInBounds_toArray, List.set_cons_zero, List.set_cons_succ]
  refine take_run (i := 13) (some 23) (.iface 68 (.pointer (some ⟨p, 0, none⟩))) rfl rfl (by kernel_rfl) (by kernel_rfl) (by kernel_rfl) (fun _ _ _ h => h) (by kernel_rfl) (fun _ => by kernel_rfl) ?_
  simp only [Act.put, List.setIfInBounds_toArray, List.set_cons_zero, List.set_cons_succ]
  refine wpAny_ready (rs := [14, 15]) (by kernel_rfl) (by simp) ?_
  refine AllReady.cons rfl (fun K hK => ?_) (AllReady.cons rfl (fun K hK => ?_) AllReady.nil)
  · go_simp
    go_wp2_with fail
    refine (number_stop p at_ k _ HP1.out HE1.out).mono ?_
    rintro e w3 ⟨rfl, hk3⟩
    have K3 : Kept [] w w3 := HK1.out.next hk3 (by simp)
    have d1 := cell_of_one (hk3.at H1.out (by simp))
    have hp3 := hk3.at HP1.out (by simp)
    have d0 : w3.cell? ⟨p, 0, none⟩ = some (.int .i64 k) := by simp [World.cell?, hp3]
    have d9 : w3.cell? ⟨p, 1, none⟩ = some (.int .i64 at_) := by simp [World.cell?, hp3]
    clear hk3 hp3 c0 c1 HP1 H1 HK1 HE1
    refine hK _ _ ?_
    clear hK K
    refine wpAny_ready (rs := [15]) (by kernel_rfl) (by simp) ?_
    refine AllReady.cons rfl (fun K hK => ?_) AllReady.nil
    go_simp
    refine hK _ _ ?_
    clear hK K
    refine take_run (i := 16) (some 26) (.pointer (some ⟨p, 0, none⟩)) rfl rfl (by kernel_rfl) (by kernel_rfl) (by kernel_rfl) (fun _ _ _ h => h) (by kernel_rfl) (fun _ => by kernel_rfl) ?_
    simp only [Act.put, List.setIfInBounds_toArray, List.set_cons_zero, List.set_cons_succ]
    refine take_run (i := 17) (some 27) (.pointer (some ⟨p, 0, none⟩)) rfl rfl (by kernel_rfl) (by kernel_rfl) (by kernel_rfl) (fun _ _ _ h => h) (by kernel_rfl) (fun _ => by kernel_rfl) ?_
    simp only [Act.put, List.setIfInBounds_toArray, List.set_cons_zero, List.set_cons_succ]
    refine wpAny_ready (rs := [18]) (by kernel_rfl) (by simp) ?_
    refine AllReady.cons rfl (fun K hK => ?_) AllReady.nil
    go_simp
    refine hK _ _ ?_
    clear hK K
    refine take_run (i := 19) (some 29) (.bool true) rfl rfl (by kernel_rfl) (by kernel_rfl) (by kernel_rfl) (fun _ _ _ h => h) (by kernel_rfl) (fun _ => by go_simp) ?_
    simp only [Act.put, List.setIfInBounds_toArray, List.set_cons_zero, List.set_cons_succ]
    refine take_run (i := 20) (some 30) (.bool true) rfl rfl (by kernel_rfl) (by kernel_rfl) (by kernel_rfl) (fun _ _ _ h => h) (by kernel_rfl) (fun _ => by kernel_rfl) ?_
    simp only [Act.put, List.setIfInBounds_toArray, List.set_cons_zero, List.set_cons_succ]
    refine take_run (i := 21) (some 9) (.bool true) rfl rfl (by kernel_rfl) (by kernel_rfl) (by kernel_rfl) (fun _ _ _ h => h) (by kernel_rfl) (fun _ => by kernel_rfl) ?_
    simp only [Act.put, List.setIfInBounds_toArray, List.set_cons_zero, List.set_cons_succ]
    refine wpAny_done (by kernel_rfl) ?_ _
    go_wp2_with fail
    go_quiet (fail)
    go_wp2
    go_ret2
    exact ⟨rfl, K3.next ((Kept.refl [] _).drewN _) (by simp)⟩
  · go_simp
    refine hK _ _ ?_
    clear hK K
    refine take_run (i := 16) (some 26) (.pointer (some ⟨p, 0, none⟩)) rfl rfl (by kernel_rfl) (by kernel_rfl) (by kernel_rfl) (fun _ _ _ h => h) (by kernel_rfl) (fun _ => by kernel_rfl) ?_
    simp only [Act.put, List.setIfInBounds_toArray, List.set_cons_zero, List.set_cons_succ]
    refine take_run (i := 17) (some 27) (.pointer (some ⟨p, 0, none⟩)) rfl rfl (by kernel_rfl) (by kernel_rfl) (by kernel_rfl) (fun _ _ _ h => h) (by kernel_rfl) (fun _ => by kernel_rfl) ?_
    simp only [Act.put, List.setIfInBounds_toArray, List.set_cons_zero, List.set_cons_succ]
    refine wpAny_ready (rs := [14, 18]) (by kernel_rfl) (by simp) ?_
    refine AllReady.cons rfl (fun K hK => ?_) (AllReady.cons rfl (fun K hK => ?_) AllReady.nil)
    · go_simp
      go_wp2_with fail
      refine (number_stop p at_ k _ HP1.out HE1.out).mono ?_
      rintro e w3 ⟨rfl, hk3⟩
      have K3 : Kept [] w w3 := HK1.out.next hk3 (by simp)
      have d1 := cell_of_one (hk3.at H1.out (by simp))
      have hp3 := hk3.at HP1.out (by simp)
      have d0 : w3.cell? ⟨p, 0, none⟩ = some (.int .i64 k) := by simp [World.cell?, hp3]
      have d9 : w3.cell? ⟨p, 1, none⟩ = some (.int .i64 at_) := by simp [World.cell?, hp3]
      clear hk3 hp3 c0 c1 HP1 H1 HK1 HE1
      refine hK _ _ ?_
      clear hK K
      refine wpAny_ready (rs := [18]) (by kernel_rfl) (by simp) ?_
      refine AllReady.cons rfl (fun K hK => ?_) AllReady.nil
      go_simp
      refine hK _ _ ?_
      clear hK K
      refine take_run (i := 19) (some 29) (.bool true) rfl rfl (by kernel_rfl) (by kernel_rfl) (by kernel_rfl) (fun _ _ _ h => h) (by kernel_rfl) (fun _ => by go_simp) ?_
      simp only [Act.put, List.setIfInBounds_toArray, List.set_cons_zero, List.set_cons_succ]
      refine take_run (i := 20) (some 30) (.bool true) rfl rfl (by kernel_rfl) (by kernel_rfl) (by kernel_rfl) (fun _ _ _ h => h) (by kernel_rfl) (fun _ => by kernel_rfl) ?_
      simp only [Act.put, List.setIfInBounds_toArray, List.set_cons_zero, List.set_cons_succ]
      refine take_run (i := 21) (some 9) (.bool true) rfl rfl (by kernel_rfl) (by kernel_rfl) (by kernel_rfl) (fun _ _ _ h => h) (by kernel_rfl) (fun _ => by kernel_rfl) ?_
      simp only [Act.put, List.setIfInBounds_toArray, List.set_cons_zero, List.set_cons_succ]
      refine wpAny_done (by kernel_rfl) ?_ _
      go_wp2_with fail
      go_quiet (fail)
      go_wp2
      go_ret2
      exact ⟨rfl, K3.next ((Kept.refl [] _).drewN _) (by simp)⟩
    · go_simp
      refine hK _ _ ?_
      clear hK K
      refine wpAny_ready (rs := [14]) (by kernel_rfl) (by simp) ?_
      refine AllReady.cons rfl (fun K hK => ?_) AllReady.nil
      go_simp
      go_wp2_with fail
      refine (number_stop p at_ k _ HP1.out HE1.out).mono ?_
      rintro e w3 ⟨rfl, hk3⟩
      have K3 : Kept [] w w3 := HK1.out.next hk3 (by simp)
      have d1 := cell_of_one (hk3.at H1.out (by simp))
      have hp3 := hk3.at HP1.out (by simp)
      have d0 : w3.cell? ⟨p, 0, none⟩ = some (.int .i64 k) := by simp [World.cell?, hp3]
      have d9 : w3.cell? ⟨p, 1, none⟩ = some (.int .i64 at_) := by simp [World.cell?, hp3]
      clear hk3 hp3 c0 c1 HP1 H1 HK1 HE1
      refine hK _ _ ?_
      clear hK K
      refine take_run (i := 19) (some 29) (.bool true) rfl rfl (by kernel_rfl) (by kernel_rfl) (by kernel_rfl) (fun _ _ _ h => h) (by kernel_rfl) (fun _ => by go_simp) ?_
      simp only [Act.put, List.setIfInBounds_toArray, List.set_cons_zero, List.set_cons_succ]
      refine take_run (i := 20) (some 30) (.bool true) rfl rfl (by kernel_rfl) (by kernel_rfl) (by kernel_rfl) (fun _ _ _ h => h) (by kernel_rfl) (fun _ => by kernel_rfl) ?_
      simp only [Act.put, List.setIfInBounds_toArray, List.set_cons_zero, List.set_cons_succ]
      refine take_run (i := 21) (some 9) (.bool true) rfl rfl (by kernel_rfl) (by kernel_rfl) (by kernel_rfl) (fun _ _ _ h => h) (by kernel_rfl) (fun _ => by kernel_rfl) ?_
      simp only [Act.put, List.setIfInBounds_toArray, List.set_cons_zero, List.set_cons_succ]
      refine wpAny_done (by kernel_rfl) ?_ _
      go_wp2_with fail
      go_quiet (fail)
      go_wp2
      go_ret2
      exact ⟨rfl, K3.next ((Kept.refl [] _).drewN _) (by simp)⟩
end Go.Proofs.YtnlmfklpebekdaaGreatDoor
