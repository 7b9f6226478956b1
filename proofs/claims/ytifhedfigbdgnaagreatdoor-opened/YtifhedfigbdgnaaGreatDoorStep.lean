import Derived.Test.YtifhedfigbdgnaaGreatDoorLooks
namespace Go.Proofs.YtifhedfigbdgnaaGreatDoor
open Go.RowKit Go.Extern.Stop Go.Stop Go.Extern

def Good (base bW K : Nat) (w : World) : Prop := ∃ n nI nS P vI vX vM vS, Inv base bW n nI nS P vI vX vM vS w ∧ n ≤ K ∧ nI ≤ K ∧ nS ≤ K
abbrev ocells (kd A B C : Int) (S T : ByteArray) : Array Value := #[.int .i64 kd, .int .i64 A, .int .i64 B, .int .i64 C, .string S, .string T]

set_option maxRecDepth 100000 in
set_option maxHeartbeats 2000000 in
theorem step_new (base bW K : Nat) (A B C : Int) (S T : ByteArray) (w : World) (h : Good base bW K w) (hK : K < 1048576) (hg : errorType w) :
    Calls Tryz.prog 18 #[.pointer (some ⟨bW, 0, none⟩), .agg (ocells 1 A B C S T)] w fun e w' => e = .returned (.bool true) ∧ Good base bW (K + 1) w' ∧ Below base w w' := by
  obtain ⟨n, nI, nS, P, vI, vX, vM, vS, hI, h1, h2, h3⟩ := h
  have hI1 := hI.kept0 ((Kept.refl [] w).alloc (.cells (ocells 1 A B C S T) 51))
  have hg1 := errorType_alloc hg (.cells (ocells 1 A B C S T) 51)
  have hb : Below base w (w.alloc (.cells (ocells 1 A B C S T) 51)) := ((Kept.refl [] w).alloc _).below hI.base (by simp)
  have HB := hide hb
  by_cases hl : limits A B C
  · have HM := hide (made_ok base bW n nI nS P vI vX vM vS A B C _ hI1 hl (by omega))
    clear hI hI1 hg hg1 hb
    go_enter Tryz.func18, Tryz.ntmps18
    go_wp2_with fail
    refine HM.out.mono ?_
    rintro e w1 ⟨rfl, P', vX', vM', hI', hb'⟩
    go_wp2
    go_ret
    exact ⟨rfl, ⟨n + 1, nI, nS, P', vI, vX', vM', vS, hI', by omega, by omega, by omega⟩, HB.out.trans hb'⟩
  · have HM := hide (made_bad base bW n nI nS P vI vX vM vS A B C _ hI1 hl hg1)
    clear hI hI1 hg hg1 hb
    go_enter Tryz.func18, Tryz.ntmps18
    go_wp2_with fail
    refine HM.out.mono ?_
    rintro e w1 ⟨rfl, hI', hb'⟩
    go_wp2
    go_ret
    exact ⟨rfl, ⟨n, nI, nS, P, vI, vX, vM, vS, hI', by omega, by omega, by omega⟩, HB.out.trans hb'⟩
end Go.Proofs.YtifhedfigbdgnaaGreatDoor
