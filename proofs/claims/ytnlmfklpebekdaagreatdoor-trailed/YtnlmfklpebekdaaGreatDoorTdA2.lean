import Derived.Test.YtnlmfklpebekdaaGreatDoorKrB
import Derived.Test.YtnlmfklpebekdaaGreatDoorPuB
set_option linter.unusedSimpArgs false
set_option linter.unusedVariables false
namespace Go.Proofs.YtnlmfklpebekdaaGreatDoor
open Go.RowKit Go.PlainAid

set_option maxRecDepth 100000 in
set_option maxHeartbeats 1000000 in
theorem best_long (s : ByteArray) (w : World) (hs : 1024 < s.size) (hs2 : s.size ≤ 140737488355328) :
    Calls Tryz.prog 8 #[.string s] w fun e w' => e = .returned (.tuple #[.agg #[.int .i64 0, .int .i64 0, .slice none 0 0, .string ⟨#[]⟩, .slice none 0 0], .bool false, .bool true]) ∧ Kept [] w w' := by
  go_enter Tryz.func8, Tryz.ntmps8
  go_wp2
  refine bodyPost_ret (v := .tuple #[.agg #[.int .i64 0, .int .i64 0, .slice none 0 0, .string ⟨#[]⟩, .slice none 0 0], .bool false, .bool true]) ?_ rfl ⟨rfl, ?_⟩
  · simp [results, Tryz.results8, asAddr, Result.andThen, go_sem]
  · exact (Kept.refl [] w).alloc _

set_option maxRecDepth 100000 in
set_option maxHeartbeats 1000000 in
theorem trailed_empty (s : ByteArray) (w : World) (hs : s.size = 0) :
    Calls Tryz.prog 9 #[.string s, .slice none 0 0] w fun e w' => e = .returned (.bool true) ∧ Kept [] w w' := by
  go_enter Tryz.func9, Tryz.ntmps9
  go_wp2
  refine wp_loop_rounds 1 ?_
  rw [rounds_succ]
  go_wp2
  go_ret
  exact ⟨rfl, Kept.refl _ _⟩
end Go.Proofs.YtnlmfklpebekdaaGreatDoor
