import Derived.Test.YtnlmfklpebekdaaGreatDoorKrB
import Derived.Test.YtnlmfklpebekdaaGreatDoorPuB
import Derived.BigRegion
set_option linter.unusedSimpArgs false
set_option linter.unusedVariables false
namespace Go.Proofs.YtnlmfklpebekdaaGreatDoor
open Go.RowKit Go.PlainAid

def BestPost (w : World) (s : ByteArray) (e : Ending) (w' : World) : ROut → Prop
  | .stop at_ => e = .returned (.tuple #[.agg #[.int .i64 7, .int .i64 at_, .slice none 0 0, .string ⟨#[]⟩, .slice none 0 0], .bool false, .bool true]) ∧ Kept [] w w'
  | .done L => ∃ v', e = .returned (.tuple #[.agg #[.int .i64 0, .int .i64 s.size, .slice none 0 0, .string ⟨#[]⟩, v'], .bool true, .bool true]) ∧ w'.ownsRow w.heap.size 52 3 v' L.length (scells L) ∧ Kept [] w w'

set_option maxRecDepth 100000 in
set_option maxHeartbeats 4000000 in
theorem best_any (s : ByteArray) (w : World) (hs : s.size ≤ 1024) (hg : MaxL w) (he : errorType w) (hel : 0 < w.heap.size) :
    Calls Tryz.prog 8 #[.string s] w fun e w' => ∃ av b, BestPost w s e w' (readGo (rcOf s 16 av b) (lookL KV) 8 (cutOf s) [] 0) := by
  obtain ⟨w0, hw0⟩ : ∃ w0, w0 = w.alloc (.cells #[.int .i64 0, .int .i64 0, .slice none 0 0, .string ⟨#[]⟩, .slice none 0 0] 28) := ⟨_, rfl⟩
  have k0 : Kept [] w w0 := by rw [hw0]; exact (Kept.refl _ _).alloc _
  have z0 : w0.heap.size = w.heap.size + 1 := by rw [hw0]; simp
  have r0 : w0.heap[w.heap.size]? = some (.cells #[.int .i64 0, .int .i64 0, .slice none 0 0, .string ⟨#[]⟩, .slice none 0 0] 28 (0, 0)) := by rw [hw0]; exact heap_alloc_at w _
  have CR := hide (kread_nil s w0 hs (hg.kept k0 (by simp)) (he.kept k0 (by simp)) (by omega))
  have HW := hide hw0.symm
  have HK0 := hide k0
  have HR := hide r0
  have HZ := hide z0
  clear hw0 k0 r0 z0 hg he
  go_enter Tryz.func8, Tryz.ntmps8
  go_wp2_with fail
  rw [HW.out]
  refine CR.out.mono ?_
  rintro e w1 ⟨av, b, hpost⟩
  cases hO : readGo (rcOf s 16 av b) (lookL KV) 8 (cutOf s) [] 0 with
  | stop at_ =>
    have hat : at_ ≤ s.size := readGo_place (R := rcOf s 16 av b) rfl (Nat.zero_le _) hO
    rw [hO] at hpost
    obtain ⟨rfl, hk1⟩ := hpost
    have r1 := hk1.at HR.out (by simp)
    have u0 : w1.cell? ⟨w.heap.size, 0, none⟩ = some (.int .i64 0) := by rw [cell_at r1]; rfl
    have u1 : w1.cell? ⟨w.heap.size, 1, none⟩ = some (.int .i64 0) := by rw [cell_at r1]; rfl
    have u2 : w1.cell? ⟨w.heap.size, 2, none⟩ = some (.slice none 0 0) := by rw [cell_at r1]; rfl
    have u3 : w1.cell? ⟨w.heap.size, 3, none⟩ = some (.string ⟨#[]⟩) := by rw [cell_at r1]; rfl
    have u4 : w1.cell? ⟨w.heap.size, 4, none⟩ = some (.slice none 0 0) := by rw [cell_at r1]; rfl
    have j0 := free_at r1 0
    have j1 := free_at r1 1
    have j2 := free_at r1 2
    have j3 := free_at r1 3
    have j4 := free_at r1 4
    have hlt := lt_of_block r1
    have hne : w.heap.size ≠ w1.heap.size := by omega
    have hne2 : w1.heap.size ≠ w.heap.size := by omega
    have HK1 := hide (HK0.out.trans hk1)
    clear hk1 r1
    go_wp2_with fail
    go_region
    all_goals (try go_wp2)
    all_goals
      refine bodyPost_ret (v := .tuple #[.agg #[.int .i64 7, .int .i64 (at_ : Int), .slice none 0 0, .string ⟨#[]⟩, .slice none 0 0], .bool false, .bool true]) ?_ rfl ⟨av, b, ?_⟩
      · simp [results, Tryz.results8, asAddr, Result.andThen, go_sem, u0, u1, u2, u3, u4, hne, hne2, hlt]
      · rw [hO]
        have m := HK1.out
        refine ⟨rfl, ?_⟩
        first
          | exact (((((((m.setCell (.inr (Nat.le_refl _)) _).setCell (.inr (Nat.le_refl _)) _).setCell (.inr (Nat.le_refl _)) _).setCell (.inr (Nat.le_refl _)) _).setCell (.inr (Nat.le_refl _)) _).alloc _).drew)
          | exact (((((((m.setCell (.inr (Nat.le_refl _)) _).setCell (.inr (Nat.le_refl _)) _).setCell (.inr (Nat.le_refl _)) _).setCell (.inr (Nat.le_refl _)) _).setCell (.inr (Nat.le_refl _)) _).drew).alloc _)
          | exact (((((((m.alloc _).drew.setCell (.inr (Nat.le_refl _)) _).setCell (.inr (Nat.le_refl _)) _).setCell (.inr (Nat.le_refl _)) _).setCell (.inr (Nat.le_refl _)) _).setCell (.inr (Nat.le_refl _)) _))
  | done L =>
    rw [hO] at hpost
    obtain ⟨v', rfl, ow1, hk1⟩ := hpost
    obtain ⟨a1, c1, hv⟩ := owns_shape ow1
    subst hv
    have r1 := hk1.at HR.out (by simp)
    have u0 : w1.cell? ⟨w.heap.size, 0, none⟩ = some (.int .i64 0) := by rw [cell_at r1]; rfl
    have u1 : w1.cell? ⟨w.heap.size, 1, none⟩ = some (.int .i64 0) := by rw [cell_at r1]; rfl
    have u2 : w1.cell? ⟨w.heap.size, 2, none⟩ = some (.slice none 0 0) := by rw [cell_at r1]; rfl
    have u3 : w1.cell? ⟨w.heap.size, 3, none⟩ = some (.string ⟨#[]⟩) := by rw [cell_at r1]; rfl
    have u4 : w1.cell? ⟨w.heap.size, 4, none⟩ = some (.slice none 0 0) := by rw [cell_at r1]; rfl
    have j0 := free_at r1 0
    have j1 := free_at r1 1
    have j2 := free_at r1 2
    have j3 := free_at r1 3
    have j4 := free_at r1 4
    have hlt := lt_of_block r1
    have hne : w.heap.size ≠ w1.heap.size := by omega
    have hne2 : w1.heap.size ≠ w.heap.size := by omega
    have HK1 := hide (HK0.out.trans hk1)
    have HO1 := hide ow1
    have hnb : (Value.slice a1 L.length c1).ownBlock ≠ some w.heap.size := fun h => by have := (ow1.lt _ h).1; have := HZ.out; omega
    clear hk1 r1 ow1
    go_wp2
    refine bodyPost_ret (v := .tuple #[.agg #[.int .i64 0, .int .i64 (s.size : Int), .slice none 0 0, .string ⟨#[]⟩, .slice a1 L.length c1], .bool true, .bool true]) ?_ rfl ⟨av, b, ?_⟩
    · simp [results, Tryz.results8, asAddr, Result.andThen, go_sem, u0, u1, u2, u3, u4, hne, hne2, hlt]
    · rw [hO]
      have m := HK1.out
      refine ⟨_, rfl, ?_, ?_⟩
      · exact ownsRow_base (World.ownsRow.alloc (ownsRow_setCell_other (ownsRow_setCell_other (ownsRow_setCell_other (ownsRow_setCell_other (ownsRow_setCell_other HO1.out hnb _) hnb _) hnb _) hnb _) hnb _) _) (by have := HZ.out; omega)
      · exact ((((((m.setCell (.inr (Nat.le_refl _)) _).setCell (.inr (Nat.le_refl _)) _).setCell (.inr (Nat.le_refl _)) _).setCell (.inr (Nat.le_refl _)) _).setCell (.inr (Nat.le_refl _)) _).alloc _)

end Go.Proofs.YtnlmfklpebekdaaGreatDoor
