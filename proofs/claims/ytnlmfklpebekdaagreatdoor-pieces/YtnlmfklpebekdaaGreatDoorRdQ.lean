import Derived.Test.YtnlmfklpebekdaaGreatDoorRdO
set_option linter.unusedSimpArgs false
set_option linter.unusedVariables false
namespace Go.Proofs.YtnlmfklpebekdaaGreatDoor
open Go.RowKit Go.PlainAid

/-- The map at b knows the names of look. -/
structure Lk (w : World) (b : Nat) (look : ByteArray → Option ByteArray) : Prop where
  lt : b < w.heap.size
  short : ∀ key t, look key = some t → t.size ≤ 16
  run : ∀ (key : ByteArray) (w' : World), w'.heap[b]? = w.heap[b]? → (Instr.lookup 121 (.map (some b)) (.string key) true).run Tryz.prog w' = .ok (.tuple #[.agg #[.string ((look key).getD ⟨#[]⟩)], .bool (look key).isSome]) w'
theorem Lk.kept {w w' : World} {b : Nat} {look : ByteArray → Option ByteArray} {S : List Nat} (h : Lk w b look) (hk : Kept S w w') (hb : b ∉ S) : Lk w' b look :=
  ⟨Nat.lt_of_lt_of_le h.lt hk.size, h.short, fun key w'' e => h.run key w'' (e.trans (hk.block b h.lt hb))⟩

/-- How many characters the reference has, the names of at most k characters tried. -/
def nmSize (look : ByteArray → Option ByteArray) (s : ByteArray) (inV : Bool) : Nat → Nat
  | 0 => 0
  | k + 1 => if (look (s.extract 1 (1 + (k + 1)))).isSome = true then (if (inV && decide (bt s (k + 1) ≠ 59) && goOn (s.extract (1 + (k + 1)) s.size)) = true then 0 else 1 + (k + 1)) else nmSize look s inV k
theorem nmSize_le {look : ByteArray → Option ByteArray} {s : ByteArray} {inV : Bool} {k : Nat} : nmSize look s inV k ≤ k + 1 := by
  induction k with
  | zero => exact Nat.zero_le _
  | succ k ih =>
    unfold nmSize; split
    · split <;> omega
    · omega

set_option maxRecDepth 100000 in
set_option maxHeartbeats 2000000 in
theorem readRef_any (b lg : Nat) (look : ByteArray → Option ByteArray) (s : ByteArray) (inV : Bool) (w : World) (hL : Lk w b look) (hlg : lg ≤ 1048576) (hs : s.size ≤ 1048576) (h1 : 1 ≤ s.size) :
    Calls Tryz.prog 78 #[.agg #[.map (some b), .int .i64 (lg : Int)], .string s, .bool inV] w fun e w' => (∃ t : ByteArray, t.size ≤ 16 ∧ e = .returned (.tuple #[.string t, .int .i64 (nmSize look s inV (min lg (s.size - 1)) : Int)])) ∧ Kept [] w w' := by
  have hbt := get_bt s
  have HL := hide hL
  clear hL
  obtain ⟨k0, hk0⟩ : ∃ k0, k0 = min lg (s.size - 1) := ⟨_, rfl⟩
  have hmin : min (lg : Int) ((s.size : Int) - 1) = (k0 : Int) := by rw [hk0]; omega
  have hk0' : k0 ≤ s.size - 1 := by rw [hk0]; exact Nat.min_le_right ..
  rw [← hk0]
  clear hk0
  obtain ⟨m, hm⟩ : ∃ m, m = nmSize look s inV k0 := ⟨_, rfl⟩
  rw [← hm]
  have HM := hide hm
  clear hm
  have hbx : ∀ wr, Kept [w.heap.size] (w.alloc (.cells #[.map (some b), .int .i64 (lg : Int)] 123)) wr → True := fun _ _ => trivial
  clear hbx
  go_enter Tryz.func78, Tryz.ntmps78
  go_wp2_with fail
  go_loopw [8] (fun v wr => ∃ k : Nat, v = .int .i64 k ∧ k ≤ s.size - 1 ∧ nmSize look s inV k = m ∧ Kept [] (w.alloc (.cells #[.map (some b), .int .i64 (lg : Int)] 123)) wr) (fun v _ => (intOf v).toNat)
  case atStart => exact ⟨k0, by rw [← hmin], hk0', HM.out.symm, Kept.refl _ _⟩
  case round =>
    obtain ⟨k, rfl, hk, hnm, hkw⟩ := hrel
    have HN := hide hnm
    have HKW := hide hkw
    have hbk := heap_alloc_at w (.cells #[.map (some b), .int .i64 (lg : Int)] 123)
    have c0 : wr.cell? ⟨w.heap.size, 0, none⟩ = some (.map (some b)) := by rw [cell_at (hkw.at hbk (by simp))]; rfl
    have hwr : w.heap.size < wr.heap.size := lt_of_block (hkw.at hbk (by simp))
    have HL2 : Hid (Lk wr b look) := (HL.out.kept ((Kept.refl [] w).alloc _) (by simp)).kept hkw (by simp)
    clear hnm hkw hbk
    cases k with
    | zero =>
      have e : m = 0 := HN.out.symm
      have He := hide e
      clear e
      go_wp2
      go_ret2
      refine ⟨⟨⟨#[]⟩, (by show 0 ≤ 16; omega), by rw [He.out]; rfl⟩, ((Kept.refl [] w).alloc _).trans HKW.out⟩
    | succ j =>
      have hb1 := HL2.out.lt
      have hlk := HL2.out.run (s.extract 1 (1 + (j + 1))) wr rfl
      have hlkd := HL2.out.run (s.extract 1 (1 + (j + 1))) wr.drew rfl
      have hlka := fun o => HL2.out.run (s.extract 1 (1 + (j + 1))) (wr.alloc o) (Below.heap_alloc wr o b hb1)
      have hlkad := fun o => HL2.out.run (s.extract 1 (1 + (j + 1))) (wr.alloc o).drew (Below.heap_alloc wr o b hb1)
      cases hlo : look (s.extract 1 (1 + (j + 1))) with
      | none =>
        rw [hlo] at hlk hlkd
        simp only [hlo] at hlka hlkad
        have hn : nmSize look s inV j = m := by rw [← HN.out, nmSize, if_neg (by simp [hlo])]
        have HN2 := hide hn
        clear hn hlo
        simp only [Option.getD_none, Option.isSome_none] at hlk hlkd hlka hlkad
        go_wp2_with fail
        go_region
        all_goals (try go_wp2)
        exact ⟨⟨j, rfl, by omega, HN2.out, (HKW.out.alloc _).drew⟩, by simp [intOf]⟩
      | some t =>
        have HSH := hide (HL2.out.short _ _ hlo)
        rw [hlo] at hlk hlkd
        simp only [hlo] at hlka hlkad
        have HV : Hid (m = if (inV && decide (bt s (j + 1) ≠ 59) && goOn (s.extract (1 + (j + 1)) s.size)) = true then 0 else 1 + (j + 1)) := by
          rw [← HN.out, nmSize, if_pos (by simp [hlo])]; exact rfl
        clear hlo
        simp only [Option.getD_some, Option.isSome_some] at hlk hlkd hlka hlkad
        have HKF : Hid (Kept [] w (wr.alloc (.cells #[.string t] 147)).drew) := (((Kept.refl [] w).alloc _).trans (HKW.out.alloc _)).drew
        have hj : j + 1 < s.size := by omega
        have hb2 := hbt (j + 1) hj
        cases inV
        · have e : m = 1 + (j + 1) := by rw [HV.out]; simp
          have He := hide e
          clear e
          go_wp2_with fail
          go_region
          all_goals (try go_wp2)
          all_goals (try go_ret2)
          all_goals (refine ⟨⟨_, ?_, by rw [He.out]; rfl⟩, HKF.out⟩; first | exact HSH.out | (show 0 ≤ 16; omega))
        · by_cases hsc : bt s (j + 1) = 59
          · have e : m = 1 + (j + 1) := by rw [HV.out]; simp [hsc]
            have He := hide e
            clear e
            go_wp2_with fail
            go_region
            all_goals (try go_wp2)
            all_goals (try go_ret2)
            all_goals (refine ⟨⟨_, ?_, by rw [He.out]; rfl⟩, HKF.out⟩; first | exact HSH.out | (show 0 ≤ 16; omega))
          · have hsc2 : (bt s (j + 1) != 59) = true := by rw [bne_iff_ne]; exact hsc
            have G := hide (goesOn_any (s.extract (1 + (j + 1)) s.size) (wr.alloc (.cells #[.string t] 147)).drew)
            cases hg : goOn (s.extract (1 + (j + 1)) s.size)
            · have e : m = 1 + (j + 1) := by rw [HV.out]; simp [hg]
              have He := hide e
              rw [hg] at G
              clear e hg hsc
              go_wp2_with fail
              go_region
              all_goals (try (go_wp2_with fail))
              all_goals (refine G.out.mono ?_; rintro e w' ⟨rfl, rfl⟩)
              all_goals (try go_wp2)
              all_goals (try go_ret2)
              all_goals (refine ⟨⟨_, ?_, by rw [He.out]; rfl⟩, HKF.out⟩; first | exact HSH.out | (show 0 ≤ 16; omega))
            · have e : m = 0 := by rw [HV.out]; simp [hg, hsc]
              have He := hide e
              rw [hg] at G
              clear e hg hsc
              go_wp2_with fail
              go_region
              all_goals (try (go_wp2_with fail))
              all_goals (refine G.out.mono ?_; rintro e w' ⟨rfl, rfl⟩)
              all_goals (try go_wp2)
              all_goals (try go_ret2)
              all_goals (refine ⟨⟨_, ?_, by rw [He.out]; rfl⟩, HKF.out⟩; first | exact HSH.out | (show 0 ≤ 16; omega))
end Go.Proofs.YtnlmfklpebekdaaGreatDoor
