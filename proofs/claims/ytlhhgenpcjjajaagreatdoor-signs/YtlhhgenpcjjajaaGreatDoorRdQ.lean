import Derived.Test.YtlhhgenpcjjajaaGreatDoorRdN
import Derived.Test.YtlhhgenpcjjajaaGreatDoorRlA
import Derived.Deep.CutRange
import Derived.Lib.Builder
set_option linter.unusedSimpArgs false
set_option linter.unusedVariables false
namespace Go.Proofs.YtlhhgenpcjjajaaGreatDoor
open Go.RowKit Go.PlainAid
def nmSize (look : ByteArray → Option ByteArray) (s : ByteArray) (inV : Bool) : Nat → Nat
  | 0 => 0
  | k + 1 => if (look (s.extract 1 (1 + (k + 1)))).isSome = true then (if (inV && decide (bt s (k + 1) ≠ 59) && goOn (s.extract (1 + (k + 1)) s.size)) = true then 0 else 1 + (k + 1)) else nmSize look s inV k
theorem nmSize_le {look : ByteArray → Option ByteArray} {s : ByteArray} {inV : Bool} {k : Nat} : nmSize look s inV k ≤ k + 1 := by
  induction k with
  | zero => exact Nat.zero_le _
  | succ k ih =>
    unfold nmSize; split
    · split <;> omega
    · omega
def nmText (look : ByteArray → Option ByteArray) (s : ByteArray) (inV : Bool) : Nat → ByteArray
  | 0 => ⟨#[]⟩
  | k + 1 => if (look (s.extract 1 (1 + (k + 1)))).isSome = true then (if (inV && decide (bt s (k + 1) ≠ 59) && goOn (s.extract (1 + (k + 1)) s.size)) = true then ⟨#[]⟩ else (look (s.extract 1 (1 + (k + 1)))).getD ⟨#[]⟩) else nmText look s inV k
theorem nmText_short {look : ByteArray → Option ByteArray} {s : ByteArray} {inV : Bool} {k : Nat} (h : ∀ x t, look x = some t → t.size ≤ 16) : (nmText look s inV k).size ≤ 16 := by
  induction k with
  | zero => exact Nat.zero_le _
  | succ k ih =>
    unfold nmText; split
    · split
      · exact Nat.zero_le _
      · rename_i h1 _
        obtain ⟨t, ht⟩ := Option.isSome_iff_exists.1 h1
        rw [ht]; exact h _ _ ht
    · exact ih
set_option maxRecDepth 100000 in
set_option maxHeartbeats 2000000 in
theorem readRef_any (b lg : Nat) (look : ByteArray → Option ByteArray) (s : ByteArray) (inV : Bool) (w : World) (hL : Lk w b look) (hlg : lg ≤ 1048576) (hs : s.size ≤ 1048576) (h1 : 1 ≤ s.size) :
    Calls Tryz.prog 263 #[.agg #[.map (some b), .int .i64 (lg : Int)], .string s, .bool inV] w fun e w' => e = .returned (.tuple #[.string (nmText look s inV (min lg (s.size - 1))), .int .i64 (nmSize look s inV (min lg (s.size - 1)) : Int)]) ∧ Kept [] w w' := by
  have hbt := get_bt s
  have HL := hide hL
  clear hL
  obtain ⟨k0, hk0⟩ : ∃ k0, k0 = min lg (s.size - 1) := ⟨_, rfl⟩
  have hmin : min (lg : Int) ((s.size : Int) - 1) = (k0 : Int) := by rw [hk0]; omega
  have hk0' : k0 ≤ s.size - 1 := by rw [hk0]; exact Nat.min_le_right ..
  rw [← hk0]
  clear hk0
  obtain ⟨m, hm⟩ : ∃ m, m = nmSize look s inV k0 := ⟨_, rfl⟩
  rw [← hm]
  have HM := hide hm
  obtain ⟨tx, htx⟩ : ∃ tx, tx = nmText look s inV k0 := ⟨_, rfl⟩
  rw [← htx]
  have HX := hide htx
  clear hm htx
  have hbx : ∀ wr, Kept [w.heap.size] (w.alloc (.cells #[.map (some b), .int .i64 (lg : Int)] 162)) wr → True := fun _ _ => trivial
  clear hbx
  go_enter Tryz.func263, Tryz.ntmps263
  go_wp2_with fail
  go_loopw [8] (fun v wr => ∃ k : Nat, v = .int .i64 k ∧ k ≤ s.size - 1 ∧ nmSize look s inV k = m ∧ nmText look s inV k = tx ∧ Kept [] (w.alloc (.cells #[.map (some b), .int .i64 (lg : Int)] 162)) wr) (fun v _ => (intOf v).toNat)
  case atStart => exact ⟨k0, by rw [← hmin], hk0', HM.out.symm, HX.out.symm, Kept.refl _ _⟩
  case round =>
    obtain ⟨k, rfl, hk, hnm, hnx, hkw⟩ := hrel
    have HN := hide hnm
    have HNX := hide hnx
    have HKW := hide hkw
    have hbk := heap_alloc_at w (.cells #[.map (some b), .int .i64 (lg : Int)] 162)
    have c0 : wr.cell? ⟨w.heap.size, 0, none⟩ = some (.map (some b)) := by rw [cell_at (hkw.at hbk (by simp))]; rfl
    have hwr : w.heap.size < wr.heap.size := lt_of_block (hkw.at hbk (by simp))
    have HL2 : Hid (Lk wr b look) := (HL.out.kept ((Kept.refl [] w).alloc _) (by simp)).kept hkw (by simp)
    clear hnm hnx hkw hbk
    cases k with
    | zero =>
      have e : m = 0 := HN.out.symm
      have He := hide e
      have Hx := hide (show tx = ⟨#[]⟩ from HNX.out.symm)
      clear e
      go_wp2
      go_ret2
      exact ⟨ret_num Hx.out.symm He.out rfl, ((Kept.refl [] w).alloc _).trans HKW.out⟩
    | succ j =>
      have hb1 := HL2.out.lt
      have hlk := HL2.out.run (s.extract 1 (1 + (j + 1))) wr rfl
      have hlkd := HL2.out.run (s.extract 1 (1 + (j + 1))) wr.drew rfl
      have hlka := fun o => HL2.out.run (s.extract 1 (1 + (j + 1))) (wr.alloc o) (Below.heap_alloc wr o b hb1)
      have hlkad := fun o => HL2.out.run (s.extract 1 (1 + (j + 1))) (wr.alloc o).drew (Below.heap_alloc wr o b hb1)
      cases hlo : look (s.extract 1 (1 + (j + 1))) with
      | none =>
        rw [hlo] at hlk hlkd
        simp only [hlo] at hlka hlkad
        have hn : nmSize look s inV j = m := by rw [← HN.out, nmSize, if_neg (by simp [hlo])]
        have HN2 := hide hn
        have HNX2 := hide (show nmText look s inV j = tx by rw [← HNX.out, nmText, if_neg (by simp [hlo])])
        clear hn hlo
        simp only [Option.getD_none, Option.isSome_none] at hlk hlkd hlka hlkad
        go_wp2_with fail
        go_region
        all_goals (try go_wp2)
        exact ⟨⟨j, rfl, by omega, HN2.out, HNX2.out, (HKW.out.alloc _).drew⟩, by simp [intOf]⟩
      | some t =>
        rw [hlo] at hlk hlkd
        simp only [hlo] at hlka hlkad
        have HV : Hid (m = if (inV && decide (bt s (j + 1) ≠ 59) && goOn (s.extract (1 + (j + 1)) s.size)) = true then 0 else 1 + (j + 1)) := by
          rw [← HN.out, nmSize, if_pos (by simp [hlo])]; exact rfl
        have HVX : Hid (tx = if (inV && decide (bt s (j + 1) ≠ 59) && goOn (s.extract (1 + (j + 1)) s.size)) = true then ⟨#[]⟩ else t) := by
          rw [← HNX.out, nmText, if_pos (by simp [hlo]), hlo]; exact rfl
        clear hlo
        simp only [Option.getD_some, Option.isSome_some] at hlk hlkd hlka hlkad
        have HKF : Hid (Kept [] w (wr.alloc (.cells #[.string t] 207)).drew) := (((Kept.refl [] w).alloc _).trans (HKW.out.alloc _)).drew
        have hj : j + 1 < s.size := by omega
        have hb2 := hbt (j + 1) hj
        cases inV
        · have e : m = 1 + (j + 1) := by rw [HV.out]; simp
          have Hx := hide (show tx = t by rw [HVX.out]; simp)
          have He := hide e
          clear e
          go_wp2_with fail
          go_region
          all_goals (try go_wp2)
          all_goals (try go_ret2)
          all_goals exact ⟨ret_num Hx.out.symm He.out rfl, HKF.out⟩
        · by_cases hsc : bt s (j + 1) = 59
          · have e : m = 1 + (j + 1) := by rw [HV.out]; simp [hsc]
            have Hx := hide (show tx = t by rw [HVX.out]; simp [hsc])
            have He := hide e
            clear e
            go_wp2_with fail
            go_region
            all_goals (try go_wp2)
            all_goals (try go_ret2)
            all_goals exact ⟨ret_num Hx.out.symm He.out rfl, HKF.out⟩
          · have hsc2 : (bt s (j + 1) != 59) = true := by rw [bne_iff_ne]; exact hsc
            have G := hide (goesOn_any (s.extract (1 + (j + 1)) s.size) (wr.alloc (.cells #[.string t] 207)).drew)
            cases hg : goOn (s.extract (1 + (j + 1)) s.size)
            · have e : m = 1 + (j + 1) := by rw [HV.out]; simp [hg]
              have Hx := hide (show tx = t by rw [HVX.out]; simp [hg])
              have He := hide e
              rw [hg] at G
              clear e hg hsc
              go_wp2_with fail
              go_region
              all_goals (try (go_wp2_with fail))
              all_goals (refine G.out.mono ?_; rintro e w' ⟨rfl, rfl⟩)
              all_goals (try go_wp2)
              all_goals (try go_ret2)
              all_goals exact ⟨ret_num Hx.out.symm He.out rfl, HKF.out⟩
            · have e : m = 0 := by rw [HV.out]; simp [hg, hsc]
              have Hx := hide (show tx = ⟨#[]⟩ by rw [HVX.out]; simp [hg, hsc])
              have He := hide e
              rw [hg] at G
              clear e hg hsc
              go_wp2_with fail
              go_region
              all_goals (try (go_wp2_with fail))
              all_goals (refine G.out.mono ?_; rintro e w' ⟨rfl, rfl⟩)
              all_goals (try go_wp2)
              all_goals (try go_ret2)
              all_goals exact ⟨ret_num Hx.out.symm He.out rfl, HKF.out⟩
end Go.Proofs.YtlhhgenpcjjajaaGreatDoor
namespace Go.Proofs.YtlhhgenpcjjajaaGreatDoor
open Go.RowKit Go.PlainAid
def refSize (look : ByteArray → Option ByteArray) (lg : Nat) (s : ByteArray) (inV : Bool) : Nat :=
  if pre s ⟨#[38, 35]⟩ = true then numSize s else if pre s ⟨#[38]⟩ = true then nmSize look s inV (min lg (s.size - 1)) else 0
theorem refSize_le {look : ByteArray → Option ByteArray} {lg : Nat} {s : ByteArray} {inV : Bool} : refSize look lg s inV ≤ s.size := by
  unfold refSize; split
  · rename_i h; exact numSize_le (pre_le h)
  · split
    · rename_i h
      have h1 : 1 ≤ s.size := pre_le h
      have h2 := nmSize_le (look := look) (s := s) (inV := inV) (k := min lg (s.size - 1))
      omega
    · exact Nat.zero_le _
def refText (look : ByteArray → Option ByteArray) (lg : Nat) (s : ByteArray) (inV : Bool) : ByteArray :=
  if pre s ⟨#[38, 35]⟩ = true then numText s else if pre s ⟨#[38]⟩ = true then nmText look s inV (min lg (s.size - 1)) else ⟨#[]⟩
theorem refText_short {look : ByteArray → Option ByteArray} {lg : Nat} {s : ByteArray} {inV : Bool} (h : ∀ x t, look x = some t → t.size ≤ 16) : (refText look lg s inV).size ≤ 16 := by
  unfold refText; split
  · exact numText_short s
  · split
    · exact nmText_short h
    · exact Nat.zero_le _
set_option maxRecDepth 100000 in
set_option maxHeartbeats 1000000 in
theorem read_any (b lg : Nat) (look : ByteArray → Option ByteArray) (s : ByteArray) (inV : Bool) (w : World) (hL : Lk w b look) (hlg : lg ≤ 1048576) (hs : s.size ≤ 1048576) :
    Calls Tryz.prog 170 #[.agg #[.map (some b), .int .i64 (lg : Int)], .string s, .bool inV] w fun e w' => e = .returned (.tuple #[.string (refText look lg s inV), .int .i64 (refSize look lg s inV : Int)]) ∧ Kept [] w w' := by
  obtain ⟨w0, hw0⟩ : ∃ w0, w0 = w.alloc (.cells #[.map (some b), .int .i64 (lg : Int)] 162) := ⟨_, rfl⟩
  have hb0 : w0.heap[w.heap.size]? = some (.cells #[.map (some b), .int .i64 (lg : Int)] 162 (0, 0)) := by rw [hw0]; exact heap_alloc_at w _
  have k0 : Kept [] w w0 := by rw [hw0]; exact (Kept.refl _ _).alloc _
  have c0 : w0.cell? ⟨w.heap.size, 0, none⟩ = some (.map (some b)) := by rw [cell_at hb0]; rfl
  have c1 : w0.cell? ⟨w.heap.size, 1, none⟩ = some (.int .i64 (lg : Int)) := by rw [cell_at hb0]; rfl
  have HW := hide hw0.symm
  have HK := hide k0
  have HL := hide (hL.kept k0 (by simp))
  have P1 := hide (hasPrefix_any s ⟨#[38, 35]⟩ w0 hs (by decide))
  have P2 := hide (hasPrefix_any s ⟨#[38]⟩ w0 hs (by decide))
  clear hw0 hb0 k0 hL
  cases h1 : pre s ⟨#[38, 35]⟩
  · rw [h1] at P1
    cases h2 : pre s ⟨#[38]⟩
    · rw [h2] at P2
      have e : refSize look lg s inV = 0 := by unfold refSize; rw [if_neg (by simp [h1]), if_neg (by simp [h2])]
      have e' : refText look lg s inV = ⟨#[]⟩ := by unfold refText; rw [if_neg (by simp [h1]), if_neg (by simp [h2])]
      rw [e, e']
      clear e e' h1 h2
      go_enter Tryz.func170, Tryz.ntmps170
      go_wp2_with fail
      rw [HW.out]
      refine P1.out.mono ?_
      rintro e w' ⟨rfl, rfl⟩
      go_wp2_with fail
      refine P2.out.mono ?_
      rintro e w' ⟨rfl, rfl⟩
      go_wp2
      go_ret2
      exact ⟨rfl, HK.out⟩
    · rw [h2] at P2
      have hz : 1 ≤ s.size := pre_le h2
      have e : refSize look lg s inV = nmSize look s inV (min lg (s.size - 1)) := by unfold refSize; rw [if_neg (by simp [h1]), if_pos h2]
      have e' : refText look lg s inV = nmText look s inV (min lg (s.size - 1)) := by unfold refText; rw [if_neg (by simp [h1]), if_pos h2]
      rw [e, e']
      clear e e' h1 h2
      have C := hide (readRef_any b lg look s inV w0 HL.out hlg hs hz)
      generalize nmSize look s inV (min lg (s.size - 1)) = m at *
      generalize nmText look s inV (min lg (s.size - 1)) = t at *
      go_enter Tryz.func170, Tryz.ntmps170
      go_wp2_with fail
      rw [HW.out]
      refine P1.out.mono ?_
      rintro e w' ⟨rfl, rfl⟩
      go_wp2_with fail
      refine P2.out.mono ?_
      rintro e w' ⟨rfl, rfl⟩
      go_wp2_with fail
      refine C.out.mono ?_
      rintro e w2 ⟨rfl, hk2⟩
      have HK2 := hide (HK.out.trans hk2)
      clear hk2
      go_wp2
      go_ret2
      exact ⟨rfl, HK2.out⟩
  · rw [h1] at P1
    have hz : 2 ≤ s.size := pre_le h1
    have e : refSize look lg s inV = numSize s := by unfold refSize; rw [if_pos h1]
    have e' : refText look lg s inV = numText s := by unfold refText; rw [if_pos h1]
    rw [e, e']
    clear e e' h1
    have C := hide (readNumber_any s w0 hs hz)
    generalize numSize s = m at *
    generalize numText s = t at *
    go_enter Tryz.func170, Tryz.ntmps170
    go_wp2_with fail
    rw [HW.out]
    refine P1.out.mono ?_
    rintro e w' ⟨rfl, rfl⟩
    go_wp2_with fail
    refine C.out.mono ?_
    rintro e w2 ⟨rfl, rfl⟩
    go_wp2
    go_ret2
    exact ⟨rfl, HK.out⟩
def charSize (look : ByteArray → Option ByteArray) (lg : Nat) (s : ByteArray) : Nat := if refSize look lg s false = 0 then 1 else refSize look lg s false
def charText (look : ByteArray → Option ByteArray) (lg : Nat) (s : ByteArray) : ByteArray := if refSize look lg s false = 0 then s.extract 0 1 else refText look lg s false
end Go.Proofs.YtlhhgenpcjjajaaGreatDoor
namespace Go.Proofs.YtlhhgenpcjjajaaGreatDoor
open Go.RowKit Go.PlainAid
structure Atts (w : World) (g n : Nat) (A : Nat → ByteArray × ByteArray) : Prop where
  lt : 0 < n → g < w.heap.size
  nm : ∀ i, i < n → w.cell? ⟨g, i * 2, none⟩ = some (.string (A i).1)
  vl : ∀ i, i < n → w.cell? ⟨g, i * 2 + 1, none⟩ = some (.string (A i).2)
theorem Atts.kept {w w' : World} {g n : Nat} {A : Nat → ByteArray × ByteArray} {S : List Nat} (h : Atts w g n A) (hk : Kept S w w') (hg : g ∉ S) : Atts w' g n A :=
  ⟨fun hn => Nat.lt_of_lt_of_le (h.lt hn) hk.size, fun i hi => (hk.cell (p := ⟨g, i * 2, none⟩) (h.lt (by omega)) hg).trans (h.nm i hi), fun i hi => (hk.cell (p := ⟨g, i * 2 + 1, none⟩) (h.lt (by omega)) hg).trans (h.vl i hi)⟩
def hasFrom (A : Nat → ByteArray × ByteArray) (n : Nat) (s : ByteArray) (i : Nat) : Bool := if i < n then (if ((A i).1.toList == s.toList) = true then true else hasFrom A n s (i + 1)) else false
  termination_by n - i
set_option maxRecDepth 100000 in
set_option maxHeartbeats 1000000 in
theorem has_any (x y : Int) (nm s : ByteArray) (g n cap : Nat) (A : Nat → ByteArray × ByteArray) (w : World) (hA : Atts w g n A) (hn : n ≤ 1048576) :
    Calls Tryz.prog 338 #[.agg #[.int .i64 x, .int .i64 y, .string nm, .slice (some ⟨g, 0, none⟩) n cap], .string s] w fun e w' => e = .returned (.bool (hasFrom A n s 0)) ∧ Kept [] w w' := by
  obtain ⟨m, hm⟩ : ∃ m, m = hasFrom A n s 0 := ⟨_, rfl⟩
  rw [← hm]
  have HM := hide hm
  have HA := hide hA
  clear hm hA
  go_enter Tryz.func338, Tryz.ntmps338
  go_wp2_with fail
  go_loopw [10] (fun v wr => ∃ k : Nat, v = .int .i64 k ∧ k ≤ n ∧ hasFrom A n s k = m ∧ Kept [] w wr) (fun v _ => n - (intOf v).toNat)
  case atStart => exact ⟨0, rfl, Nat.zero_le _, HM.out.symm, (Kept.refl _ _).alloc _⟩
  case round =>
    obtain ⟨k, rfl, hk, hf, hkw⟩ := hrel
    have HF := hide hf
    have HKW := hide hkw
    by_cases hlt : k < n
    · have hR := HA.out.kept hkw (by simp)
      have a0 := hR.nm k hlt
      have a1 := hR.vl k hlt
      clear hR hf hkw
      cases he : ((A k).1.toList == s.toList)
      · have e : hasFrom A n s (k + 1) = m := by rw [← HF.out, hasFrom.eq_1 A n s k, if_pos hlt, if_neg (by simp [he])]
        have He := hide e
        have he2 : ¬ (A k).1.toList = s.toList := by simpa using he
        clear e
        have HK2 := hide (HKW.out.alloc (.cells #[.string (A k).1, .string (A k).2] 299))
        generalize (A k).1 = u at *
        generalize (A k).2 = v at *
        go_wp2
        go_roundw
        case rel => exact ⟨k + 1, by go_num, by omega, He.out, HK2.out⟩
        case measure => simp [intOf]; omega
      · have e : m = true := by rw [← HF.out, hasFrom.eq_1 A n s k, if_pos hlt, if_pos he]
        have He := hide e
        have he2 : (A k).1.toList = s.toList := by simpa using he
        clear e
        have HK2 := hide (HKW.out.alloc (.cells #[.string (A k).1, .string (A k).2] 299))
        generalize (A k).1 = u at *
        generalize (A k).2 = v at *
        go_wp2
        go_ret
        exact ⟨by rw [He.out]; rfl, HK2.out⟩
    · have e : m = false := by rw [← HF.out, hasFrom.eq_1 A n s k, if_neg hlt]
      have He := hide e
      clear e hf hkw
      go_wp2
      go_ret
      exact ⟨by rw [He.out]; rfl, HKW.out⟩
end Go.Proofs.YtlhhgenpcjjajaaGreatDoor
namespace Go.Proofs.YtlhhgenpcjjajaaGreatDoor
open Go.RowKit Go.PlainAid
theorem builder_has : (∃ j, Tryz.prog.info? 98 = some j ∧ j.size ≠ 0) := by
  have h : ((Tryz.prog.info? 98).map fun i => i.size) = some 2 := by kernel_rfl
  obtain ⟨j, hj, h2⟩ := Option.map_eq_some_iff.1 h
  exact ⟨j, hj, by omega⟩
theorem builder_lies : liesAt Tryz.prog Tryz.prog.depth 98 (2 / Tryz.prog.cellsOf 98) 0 98 1 = true := by kernel_rfl
set_option maxRecDepth 100000 in
set_option maxHeartbeats 1000000 in
theorem copyCheck_any (B b : Nat) (bs : List Value) (w : World) (h : Lib.IsBuilder 98 5 B b bs w) :
    Calls Tryz.prog 360 #[.pointer (some ⟨b, 0, none⟩)] w fun e w' => e = .returned (.tuple #[]) ∧ Lib.BuilderAt 98 5 B b (.pointer (some ⟨b, 0, none⟩)) bs w' ∧ Below B w w' := by
  obtain ⟨j, hj, hj0⟩ := builder_has
  rcases h with h | h
  · have c0 := h.cell0
    have f0 := h.frozen0
    have HN := hide (h.used (.pointer (some ⟨b, 0, none⟩)))
    have HB := hide ((Below.refl B w).setCell (p := ⟨b, 0, none⟩) h.1 (.pointer (some ⟨b, 0, none⟩)))
    have d0 := HN.out.cell0
    have hu := Lib.run_to_unsafe (P := Tryz.prog) w (src := 96) (dst := 102) ⟨b, 0, none⟩ Tryz.underlying96 Tryz.underlying102 hj hj0 h.shape (show 0 < 2 by decide)
    have hf := Lib.run_from_unsafe (P := Tryz.prog) w (src := 102) (dst := 96) ⟨b, 0, none⟩ Tryz.underlying102 Tryz.underlying96 hj h.shape builder_lies
    have hn := Lib.run_neq_ptr_same (P := Tryz.prog) (w.setCell ⟨b, 0, none⟩ (.pointer (some ⟨b, 0, none⟩))) (tp := 96) ⟨b, 0, none⟩ Tryz.underlying96 hj
    clear h
    go_enter Tryz.func360, Tryz.ntmps360
    go_wp2
    rw [run_callFunc_extern Tryz.func378 (by kernel_rfl) (by kernel_rfl) (by kernel_rfl) (e := Extern.AbiNoEscape.same) (by kernel_rfl)]
    rw [Lib.run_noEscape]
    simp only [Result.andThen]
    rw [Oper.upon_value]
    go_wp2
    go_end0
    exact ⟨rfl, HN.out, HB.out⟩
  · have c0 := h.cell0
    have HN := hide h
    have HB := hide (Below.refl B w)
    have hn := Lib.run_neq_ptr_same (P := Tryz.prog) w (tp := 96) ⟨b, 0, none⟩ Tryz.underlying96 hj
    clear h
    go_enter Tryz.func360, Tryz.ntmps360
    go_wp2
    go_end0
    exact ⟨rfl, HN.out, HB.out⟩
set_option maxRecDepth 100000 in
set_option maxHeartbeats 2000000 in
theorem writeString_any (B b : Nat) (bs : List Value) (s : ByteArray) (w : World) (h : Lib.IsBuilder 98 5 B b bs w) (hlen : bs.length + s.size ≤ 1048576) (hBw : B ≤ w.heap.size) :
    Calls Tryz.prog 335 #[.pointer (some ⟨b, 0, none⟩), .string s] w fun e w' => e = .returned (.tuple #[.int .i64 s.size, .nilIface]) ∧ (Lib.BuilderAt 98 5 B b (.pointer (some ⟨b, 0, none⟩)) (bs ++ Lib.strCells s) w' ∧ Below B w w') := by
  obtain ⟨i0, hi, hz0, hz1, hz2⟩ := info_parts info_u8
  have HH := hide h
  clear h
  go_enter Tryz.func335, Tryz.ntmps335
  go_wp2_with fail
  refine (copyCheck_any B b bs _ HH.out).mono ?_
  rintro e w1 ⟨rfl, h1, hb1⟩
  obtain ⟨hB, v, hbk, hown, hne⟩ := h1
  have c0 : w1.cell? ⟨b, 0, none⟩ = some (.pointer (some ⟨b, 0, none⟩)) := by rw [cell_at hbk]; rfl
  have c1 : w1.cell? ⟨b, 1, none⟩ = some v := by rw [cell_at hbk]; rfl
  go_wp2_with (at_builtin; refine Lib.wpList_append_own_string _ rfl _ _ 55 9 rfl B 5 i0 Tryz.underlying55 Tryz.underlying9 hi hz0 hz1 hz2 _ _ _ rfl hown s rfl ?c3 ?c4 ?c5 ?_)
  case c3 => unfold maxLen; omega
  case c4 => omega
  case c5 => have := hb1.size; omega
  intro v' w2 hown' hgrow _
  have hlt : b < w1.heap.size := lt_of_block hbk
  have hb2 : w2.heap[b]? = some (.cells #[.pointer (some ⟨b, 0, none⟩), v] 98 (0, 0)) := by
    rw [hgrow.block b hlt (fun e => hne e.symm)]
    exact hbk
  have d1 : w2.cell? ⟨b, 1, none⟩ = some v := by rw [cell_at hb2]; rfl
  have f1 : w2.frozen? ⟨b, 1, none⟩ = false := free_at hb2 1
  have HP := hide (Lib.BuilderAt.put (T := 98) (e := 5) hB hb2 (bs' := bs ++ Lib.strCells s) (by simpa [Lib.strCells_length] using hown') (by decide))
  have HBW := hide ((hb1.grown hgrow (by have := hb1.size; omega) (fun k hk => (hown.lt k hk).1)).setCell (p := ⟨b, 1, none⟩) hB v')
  obtain ⟨ao, n', cap, hv⟩ : ∃ ao n' cap, v' = .slice ao n' cap := by
    rcases hown'.2 with ⟨hv, _⟩ | ⟨g, cap, cur, hv, _⟩
    · exact ⟨_, _, _, hv⟩
    · exact ⟨_, _, _, hv⟩
  subst hv
  clear hown' hgrow hbk hown hne hb1
  go_wp2
  go_ret2
  exact ⟨rfl, HP.out, HBW.out⟩
end Go.Proofs.YtlhhgenpcjjajaaGreatDoor
namespace Go.Proofs.YtlhhgenpcjjajaaGreatDoor
open Go.RowKit Go.PlainAid
theorem notEmpty {t : ByteArray} (h : ¬ t.size = 0) : t.toList.isEmpty = false := by
  rw [ByteArray.toList_eq]
  cases hh : t.data.toList with
  | nil => exact absurd (show t.data.size = 0 by rw [← Array.length_toList, hh]; rfl) h
  | cons => rfl
def strSize : Value → Nat
  | .string t => t.size
  | _ => 0
theorem isBuilder_kept {T e B b : Nat} {bs : List Value} {w w' : World} (h : Lib.IsBuilder T e B b bs w) (hk : Kept [] w w') : Lib.IsBuilder T e B b bs w' := by
  rcases h with ⟨h1, v, h2, h3, h4⟩ | ⟨h1, v, h2, h3, h4⟩
  · exact .inl ⟨h1, v, hk.at h2 (by simp), hk.ownsRow h3 (fun _ _ => by simp), h4⟩
  · exact .inr ⟨h1, v, hk.at h2 (by simp), hk.ownsRow h3 (fun _ _ => by simp), h4⟩
theorem strCells_bytes (l : List UInt8) (t : ByteArray) : Lib.byteCells l ++ Lib.strCells t = Lib.byteCells (l ++ t.data.toList) := by
  unfold Lib.byteCells Lib.strCells; rw [List.map_append]
def valL (look : ByteArray → Option ByteArray) (lg : Nat) (s : ByteArray) : List UInt8 :=
  if s.size = 0 then [] else if refSize look lg s true = 0 then (s.extract 0 1).data.toList ++ valL look lg (s.extract 1 s.size) else (refText look lg s true).data.toList ++ valL look lg (s.extract (refSize look lg s true) s.size)
  termination_by s.size
  decreasing_by all_goals (simp; omega)
theorem valL_len {look : ByteArray → Option ByteArray} {lg : Nat} (h : ∀ x t, look x = some t → t.size ≤ 16) (s : ByteArray) : (valL look lg s).length ≤ 16 * s.size := by
  rw [valL]
  split
  · exact Nat.zero_le _
  · split
    · have := valL_len (lg := lg) h (s.extract 1 s.size)
      simp at this ⊢; omega
    · have := valL_len (lg := lg) h (s.extract (refSize look lg s true) s.size)
      have h2 := refText_short (lg := lg) (s := s) (inV := true) h
      have e : (refText look lg s true).data.size = (refText look lg s true).size := rfl
      simp [e] at this ⊢; omega
  termination_by s.size
  decreasing_by all_goals (simp; omega)
set_option maxRecDepth 100000 in
set_option maxHeartbeats 2000000 in
theorem value_names (b lg : Nat) (look : ByteArray → Option ByteArray) (s : ByteArray) (w : World) (hL : Lk w b look) (hlg : lg ≤ 1048576) (hs : s.size ≤ 1024) :
    Calls Tryz.prog 364 #[.agg #[.map (some b), .int .i64 (lg : Int)], .string s] w fun e w' => e = .returned (.string ⟨(valL look lg s).toArray⟩) ∧ Kept [] w w' := by
  obtain ⟨w0, hw0⟩ : ∃ w0, w0 = w.alloc (.cells #[.map (some b), .int .i64 (lg : Int)] 162) := ⟨_, rfl⟩
  have hb0 : w0.heap[w.heap.size]? = some (.cells #[.map (some b), .int .i64 (lg : Int)] 162 (0, 0)) := by rw [hw0]; exact heap_alloc_at w _
  have k0 : Kept [] w w0 := by rw [hw0]; exact (Kept.refl _ _).alloc _
  have z0 : w0.heap.size = w.heap.size + 1 := by rw [hw0]; simp
  have HL := hide (hL.kept k0 (by simp))
  have HW := hide hw0.symm
  have HK := hide k0
  have HB0 := hide hb0
  have HZ0 := hide z0
  clear hL hw0 k0 hb0 z0
  go_enter Tryz.func364, Tryz.ntmps364
  go_wp2_with fail
  rw [HW.out]
  have HN := hide (Lib.fresh_isBuilder 98 5 w0)
  have HBL := hide (((Below.refl w0.heap.size w0).alloc (Nat.le_refl _) (.cells #[.pointer none, .slice none 0 0] 98)))
  have ez : w.heap.size + 1 = w0.heap.size := HZ0.out.symm
  try rw [ez]
  clear ez
  go_loopw [1] (fun v wr => ∃ (t : ByteArray) (l : List UInt8), v = .string t ∧ t.size ≤ s.size ∧ l.length + 16 * t.size ≤ 16 * s.size ∧ l ++ valL look lg t = valL look lg s ∧ Lib.IsBuilder 98 5 w0.heap.size w0.heap.size (Lib.byteCells l) wr ∧ Below w0.heap.size w0 wr) (fun v _ => strSize v)
  case atStart => exact ⟨s, [], rfl, Nat.le_refl _, by simp, rfl, HN.out, HBL.out⟩
  case round =>
    obtain ⟨t, l, rfl, ht, hl, hvl, hI, hB⟩ := hrel
    have HVL := hide hvl
    have HI := hide hI
    have HB := hide hB
    have c0 : wr.cell? ⟨w.heap.size, 0, none⟩ = some (.map (some b)) := by rw [cell_at ((Kept.ofBelow hB).at HB0.out (by simp))]; rfl
    have c1 : wr.cell? ⟨w.heap.size, 1, none⟩ = some (.int .i64 (lg : Int)) := by rw [cell_at ((Kept.ofBelow hB).at HB0.out (by simp))]; rfl
    clear hI hB hvl
    by_cases h0 : t.size = 0
    · have e0 : t = ⟨#[]⟩ := by
        apply ByteArray.ext; exact Array.eq_empty_of_size_eq_zero h0
      subst e0
      have EL := hide (show l = valL look lg s by rw [← HVL.out, valL, if_pos (show (⟨#[]⟩ : ByteArray).size = 0 from rfl), List.append_nil])
      have S := hide (Tryz.Builder_String_any w0.heap.size w0.heap.size l wr HI.out HB.out.size)
      go_wp2_with fail
      refine S.out.mono ?_
      rintro e w2 ⟨rfl, hb2⟩
      have HK2 := hide (HK.out.trans (Kept.ofBelow (HB.out.trans hb2)))
      clear hb2
      go_wp2
      go_ret
      exact ⟨by rw [← EL.out]; rfl, HK2.out⟩
    · have hne : t.toList.isEmpty = false := notEmpty h0
      have C := hide (read_any b lg look t true wr (HL.out.kept (Kept.ofBelow HB.out) (by simp)) hlg (by omega))
      have hrl := refSize_le (look := look) (lg := lg) (s := t) (inV := true)
      go_wp2_with fail
      refine C.out.mono ?_
      rintro e w2 ⟨rfl, hk2⟩
      have hx := refText_short (lg := lg) (s := t) (inV := true) HL.out.short
      have hv0 : valL look lg t = if refSize look lg t true = 0 then (t.extract 0 1).data.toList ++ valL look lg (t.extract 1 t.size) else (refText look lg t true).data.toList ++ valL look lg (t.extract (refSize look lg t true) t.size) := by rw [valL, if_neg h0]
      have HV0 := hide hv0
      clear hv0
      generalize refText look lg t true = x at *
      have HI2 := hide (isBuilder_kept HI.out hk2)
      have HB2 := hide (HB.out.trans (hk2.below HB.out.size (by simp)))
      have HX := hide hx
      clear hx hk2 C c0 c1
      generalize refSize look lg t true = n at *
      by_cases hn : n = 0
      · have HVN := hide (show (l ++ (t.extract 0 1).data.toList) ++ valL look lg (t.extract 1 t.size) = valL look lg s by rw [← HVL.out, HV0.out, if_pos hn, List.append_assoc])
        subst hn
        have W := hide (writeString_any w0.heap.size w0.heap.size (Lib.byteCells l) (t.extract 0 1) w2 HI2.out (by simp [Lib.byteCells]; omega) HB2.out.size)
        go_wp2_with fail
        refine W.out.mono ?_
        rintro e w3 ⟨rfl, hb3, hbl3⟩
        have HR := hide (show Lib.IsBuilder 98 5 w0.heap.size w0.heap.size (Lib.byteCells (l ++ (t.extract 0 1).data.toList)) w3 from .inr (by rw [← strCells_bytes]; exact hb3))
        have HBL3 := hide (HB2.out.trans hbl3)
        clear hb3 hbl3 W
        go_wp2
        go_roundw
        case rel => exact ⟨_, _, rfl, by simp; omega, by simp; omega, HVN.out, HR.out, HBL3.out⟩
        case measure => simp [strSize]; omega
      · have hn2 : ((n : Int) == 0) = false := beq_eq_false_iff_ne.2 (by omega)
        have HVN := hide (show (l ++ x.data.toList) ++ valL look lg (t.extract n t.size) = valL look lg s by rw [← HVL.out, HV0.out, if_neg hn, List.append_assoc])
        have W := hide (writeString_any w0.heap.size w0.heap.size (Lib.byteCells l) x w2 HI2.out (by have := HX.out; simp [Lib.byteCells]; omega) HB2.out.size)
        go_wp2_with fail
        refine W.out.mono ?_
        rintro e w3 ⟨rfl, hb3, hbl3⟩
        have HR := hide (show Lib.IsBuilder 98 5 w0.heap.size w0.heap.size (Lib.byteCells (l ++ x.data.toList)) w3 from .inr (by rw [← strCells_bytes]; exact hb3))
        have HBL3 := hide (HB2.out.trans hbl3)
        clear hb3 hbl3 W
        go_wp2
        go_roundw
        case rel => exact ⟨_, _, rfl, by simp; omega, by have := HX.out; have e : x.data.size = x.size := rfl; simp [e]; omega, HVN.out, HR.out, HBL3.out⟩
        case measure => simp [strSize]; omega
end Go.Proofs.YtlhhgenpcjjajaaGreatDoor
namespace Go.Proofs.YtlhhgenpcjjajaaGreatDoor
open Go.RowKit Go.PlainAid
def valA (R : RC) (ps : Nat) : Nat := scan (fun c => !inSet ⟨#[32, 9, 10, 12]⟩ c) R.cs ps
def valEnd (R : RC) (ps : Nat) : Nat := if pre (R.cs.extract (valA R ps) R.cs.size) ⟨#[61]⟩ = true then rawEnd R (valA R (valA R ps + 1)) else valA R ps
theorem valA_le {R : RC} {ps : Nat} (h : ps ≤ R.cs.size) : valA R ps ≤ R.cs.size := scan_le h
theorem valA_ge {R : RC} {ps : Nat} : ps ≤ valA R ps := scan_ge
theorem valEnd_le {R : RC} {ps : Nat} (h : ps ≤ R.cs.size) : valEnd R ps ≤ R.cs.size := by
  unfold valEnd; split
  · rename_i h1; exact rawEnd_le (valA_le (pre_rest h1 (valA_le h)))
  · exact valA_le h
theorem valEnd_ge {R : RC} {ps : Nat} : ps ≤ valEnd R ps := by
  unfold valEnd; split
  · have h1 := valA_ge (R := R) (ps := ps)
    have h2 := valA_ge (R := R) (ps := valA R ps + 1)
    have h3 := rawEnd_ge (R := R) (ps := valA R (valA R ps + 1))
    omega
  · exact valA_ge
def valText (look : ByteArray → Option ByteArray) (lg : Nat) (R : RC) (ps : Nat) : ByteArray := if pre (R.cs.extract (valA R ps) R.cs.size) ⟨#[61]⟩ = true then noNul ⟨(valL look lg (rawText R (valA R (valA R ps + 1)))).toArray⟩ else ⟨#[]⟩
structure Nm (w : World) (r : Nat) (R : RC) (b lg : Nat) (look : ByteArray → Option ByteArray) : Prop where
  lk : Lk w b look
  ne : b ≠ r
  mv : R.mv = .map (some b)
  lgv : R.lg = lg
  le : lg ≤ 1048576
theorem Nm.kept {w w' : World} {r : Nat} {R : RC} {b lg : Nat} {look : ByteArray → Option ByteArray} (h : Nm w r R b lg look) (hk : Kept [r] w w') : Nm w' r R b lg look :=
  ⟨h.lk.kept hk (by simp [h.ne]), h.ne, h.mv, h.lgv, h.le⟩
set_option maxRecDepth 100000 in
set_option maxHeartbeats 1000000 in
theorem value_any (r : Nat) (R : RC) (bg ps b lg : Nat) (look : ByteArray → Option ByteArray) (w : World) (h : Rd w r R bg ps) (hN : Nm w r R b lg look) (hG : Gl w r) (hp : ps ≤ R.cs.size) (hs : R.cs.size ≤ 1024) :
    Calls Tryz.prog 339 #[.pointer (some ⟨r, 0, none⟩)] w fun e w' => e = .returned (.string (valText look lg R ps)) ∧ Kept [r] w w' ∧ Rd w' r R bg (valEnd R ps) := by
  have HP := hide (passOver_any r R bg ps ⟨#[32, 9, 10, 12]⟩ w h hp hs)
  have HN := hide hN
  have HG := hide hG
  have ha := valA_le (R := R) hp
  clear h hN hG
  cases he : pre (R.cs.extract (valA R ps) R.cs.size) ⟨#[61]⟩
  · have ev : valEnd R ps = valA R ps := by unfold valEnd; rw [if_neg (by simp [he])]
    have et : valText look lg R ps = ⟨#[]⟩ := by unfold valText; rw [if_neg (by simp [he])]
    rw [ev, et]
    have htk : taken R ⟨#[61]⟩ (valA R ps) = valA R ps := by unfold taken; rw [if_neg (by simp [he])]
    clear ev et
    go_enter Tryz.func339, Tryz.ntmps339
    go_wp2_with fail
    refine HP.out.mono ?_
    rintro e w1 ⟨rfl, hk1, hr1⟩
    have T := take_any r R bg (valA R ps) ⟨#[61]⟩ w1 hr1 ha hs (by decide)
    rw [he, htk] at T
    have HT := hide T
    have HK1 := hide hk1
    clear T hk1 hr1
    go_wp2_with fail
    refine HT.out.mono ?_
    rintro e w2 ⟨rfl, hk2, hr2⟩
    have HK2 := hide (HK1.out.trans hk2)
    have HR2 := hide hr2
    clear hk2 hr2
    go_wp2
    go_ret
    exact ⟨rfl, HK2.out, HR2.out⟩
  · have ev : valEnd R ps = rawEnd R (valA R (valA R ps + 1)) := by unfold valEnd; rw [if_pos he]
    have et : valText look lg R ps = noNul ⟨(valL look lg (rawText R (valA R (valA R ps + 1)))).toArray⟩ := by unfold valText; rw [if_pos he]
    rw [ev, et]
    have htk : taken R ⟨#[61]⟩ (valA R ps) = valA R ps + 1 := by unfold taken; rw [if_pos he]; rfl
    have hb : valA R ps + 1 ≤ R.cs.size := pre_rest he ha
    clear ev et
    go_enter Tryz.func339, Tryz.ntmps339
    go_wp2_with fail
    refine HP.out.mono ?_
    rintro e w1 ⟨rfl, hk1, hr1⟩
    have T := take_any r R bg (valA R ps) ⟨#[61]⟩ w1 hr1 ha hs (by decide)
    rw [he, htk] at T
    have HT := hide T
    have HK1 := hide hk1
    clear T hk1 hr1
    go_wp2_with fail
    refine HT.out.mono ?_
    rintro e w2 ⟨rfl, hk2, hr2⟩
    have HK2 := hide (HK1.out.trans hk2)
    have HP2 := hide (passOver_any r R bg (valA R ps + 1) ⟨#[32, 9, 10, 12]⟩ w2 hr2 hb hs)
    clear hk2 hr2 HT
    go_wp2_with fail
    refine HP2.out.mono ?_
    rintro e w3 ⟨rfl, hk3, hr3⟩
    have HK3 := hide (HK2.out.trans hk3)
    have HR3 : Hid (Rd w3 r R bg (valA R (valA R ps + 1))) := hr3
    have hc := valA_le (R := R) hb
    have mv : w3.cell? ⟨r, 5, none⟩ = some (.map (some b)) := by rw [hr3.mv, HN.out.mv]
    have lv : w3.cell? ⟨r, 6, none⟩ = some (.int .i64 (lg : Int)) := by rw [hr3.lg, HN.out.lgv]
    clear hk3 hr3
    have hrl := rawText_le (R := R) (ps := valA R (valA R ps + 1))
    have hvl := valL_len (lg := lg) HN.out.lk.short (rawText R (valA R (valA R ps + 1)))
    have CR := hide (rawValue_any r R bg (valA R (valA R ps + 1)) w3.drew (show Rd w3.drew r R bg _ from HR3.out) hc hs)
    go_wp2_with fail
    go_region_with (first
      | (go_at_call 365; refine CR.out.mono ?_; rintro e w4 ⟨rfl, hk4, hr4⟩; have mv4 := hr4.mv; rw [HN.out.mv] at mv4; have lv4 := hr4.lg; rw [HN.out.lgv] at lv4)
      | (go_at_call 364; refine (value_names b lg look _ _ (HN.out.kept (HK3.out.drew.trans hk4)).lk HN.out.le (by omega)).mono ?_; rintro e w5 ⟨rfl, hk5⟩)
      | (go_at_call 158; refine (noNul_any r _ _ (by simp [ByteArray.size]; omega) ((HG.out.kept (HK3.out.drew.trans hk4)).kept (hk5.mono (by simp)))).mono ?_; rintro e w6 ⟨rfl, hk6⟩))
    all_goals (try go_wp2)
    all_goals (try go_ret)
    all_goals exact ⟨rfl, (HK3.out.drew.trans hk4).trans ((hk5.trans hk6).mono (by simp)), (hr4.kept hk5 (by simp)).kept hk6 (by simp)⟩
end Go.Proofs.YtlhhgenpcjjajaaGreatDoor
namespace Go.Proofs.YtlhhgenpcjjajaaGreatDoor
open Go.RowKit Go.PlainAid
def acells (L : List (ByteArray × ByteArray)) : List Value := L.flatMap fun p => [.string p.1, .string p.2]
theorem acells_append (L M : List (ByteArray × ByteArray)) : acells (L ++ M) = acells L ++ acells M := by unfold acells; rw [List.flatMap_append]
theorem acells_even (L : List (ByteArray × ByteArray)) (i : Nat) (h : i < L.length) : (acells L)[i * 2]? = some (.string (L[i]).1) ∧ (acells L)[i * 2 + 1]? = some (.string (L[i]).2) := by
  induction L generalizing i with
  | nil => simp at h
  | cons p L ih =>
    show (Value.string p.1 :: Value.string p.2 :: acells L)[i * 2]? = _ ∧ (Value.string p.1 :: Value.string p.2 :: acells L)[i * 2 + 1]? = _
    cases i with
    | zero => simp
    | succ i =>
      have := ih i (by simpa using h)
      rw [show (i + 1) * 2 = i * 2 + 1 + 1 from by omega]
      simpa using this
def nth (ns : List ByteArray) (i : Nat) : ByteArray × ByteArray := (ns.getD i ⟨#[]⟩, ⟨#[]⟩)
def isIn (ns : List ByteArray) (s : ByteArray) : Bool := hasFrom (nth ns) ns.length s 0
theorem hasFrom_congr {A B : Nat → ByteArray × ByteArray} {n : Nat} {s : ByteArray} (h : ∀ i, i < n → (A i).1 = (B i).1) (i : Nat) : hasFrom A n s i = hasFrom B n s i := by
  fun_induction hasFrom A n s i with
  | case1 i hi he => rw [hasFrom.eq_1 B, if_pos hi, ← h i hi, if_pos he]
  | case2 i hi he ih => rw [hasFrom.eq_1 B, if_pos hi, ← h i hi, if_neg he, ih]
  | case3 i hi => rw [hasFrom.eq_1 B, if_neg hi]
set_option maxRecDepth 100000 in
set_option maxHeartbeats 1000000 in
theorem has_none (x y : Int) (nm s : ByteArray) (w : World) :
    Calls Tryz.prog 338 #[.agg #[.int .i64 x, .int .i64 y, .string nm, .slice none 0 0], .string s] w fun e w' => e = .returned (.bool false) ∧ Kept [] w w' := by
  have HK := hide ((Kept.refl [] w).alloc (.cells #[.int .i64 x, .int .i64 y, .string nm, .slice none 0 0] 194))
  go_enter Tryz.func338, Tryz.ntmps338
  go_wp2_with fail
  go_loopw [10] (fun v wr => v = .int .i64 0 ∧ Kept [] w wr) (fun v _ => 0)
  case atStart => exact ⟨rfl, HK.out⟩
  case round =>
    obtain ⟨rfl, hkw⟩ := hrel
    have HKW := hide hkw
    clear hkw
    go_wp2
    go_ret
    exact ⟨rfl, HKW.out⟩
def nth2 (L : List (ByteArray × ByteArray)) (i : Nat) : ByteArray × ByteArray := L.getD i (⟨#[]⟩, ⟨#[]⟩)
theorem has_tag (base : Nat) (x y : Int) (nm s : ByteArray) (av : Value) (L : List (ByteArray × ByteArray)) (w : World) (ho : w.ownsRow base 299 2 av L.length (acells L)) (hn : L.length ≤ 1048576) :
    Calls Tryz.prog 338 #[.agg #[.int .i64 x, .int .i64 y, .string nm, av], .string s] w fun e w' => e = .returned (.bool (isIn (L.map (·.1)) s)) ∧ Kept [] w w' := by
  rcases ho.2 with ⟨rfl, h0⟩ | ⟨g, cap, cur, rfl, hbg, hg, _⟩
  · have e : isIn (L.map (·.1)) s = false := by
      have : L = [] := List.eq_nil_of_length_eq_zero h0
      subst this; unfold isIn; rw [hasFrom.eq_1]; simp
    rw [e]
    exact has_none x y nm s w
  · have hA : Atts w g L.length (nth2 L) := by
      refine ⟨fun _ => lt_of_block hg, fun i hi => ?_, fun i hi => ?_⟩
      · have := ho.cells (g := g) rfl (i * 2) _ (acells_even L i hi).1
        rw [addr_add] at this
        rw [this]; simp [nth2, hi]
      · have := ho.cells (g := g) rfl (i * 2 + 1) _ (acells_even L i hi).2
        rw [addr_add] at this
        rw [this]; simp [nth2, hi]
    have e : isIn (L.map (·.1)) s = hasFrom (nth2 L) L.length s 0 := by
      unfold isIn
      rw [List.length_map]
      exact hasFrom_congr (fun i hi => by simp [nth, nth2, hi]) 0
    rw [e]
    exact has_any x y nm s g L.length cap _ w hA hn
end Go.Proofs.YtlhhgenpcjjajaaGreatDoor
