import Derived.Test.YtifhedfigbdgnaaGreatDoorLawA
namespace Go.Proofs.YtifhedfigbdgnaaGreatDoor
open Go.RowKit Go.Extern.Stop Go.Stop Go.Extern

theorem info_xp : (Tryz.prog.info? 67).map (fun i => (i.zero, i.size, i.bytes)) = some (some (.pointer none), 1, 8) := by kernel_rfl
theorem info_mp : (Tryz.prog.info? 62).map (fun i => (i.zero, i.size, i.bytes)) = some (some (.pointer none), 1, 8) := by kernel_rfl
theorem info_it : (Tryz.prog.info? 87).map (fun i => (i.zero, i.size, i.bytes)) = some (some (.agg #[.slice none 0 0, .slice none 0 0]), 2, 48) := by kernel_rfl
theorem info_sp : (Tryz.prog.info? 85).map (fun i => (i.zero, i.size, i.bytes)) = some (some (.agg #[.slice none 0 0, .slice none 0 0]), 2, 48) := by kernel_rfl

theorem Kept.belowB {S : List Nat} {w w' : World} {base : Nat} (h : Kept S w w') (hb : base ≤ w.heap.size) (hs : ∀ k ∈ S, base ≤ k) : Below base w w' := h.below hb hs

set_option maxHeartbeats 1000000 in
theorem made_bad (base bW n nI nS : Nat) (P : Nat → PState) (vI vX vM vS : Value) (d f a : Int) (w : World) (h : Inv base bW n nI nS P vI vX vM vS w) (hl : ¬ limits d f a) (hg : errorType w) :
    Calls Tryz.prog 34 #[.pointer (some ⟨bW, 0, none⟩), .int .i64 d, .int .i64 f, .int .i64 a] w fun e w' => e = .returned (.bool true) ∧ Inv base bW n nI nS P vI vX vM vS w' ∧ Below base w w' := by
  have H := hide h
  have H1 := hide (pnew_bad d f a w hl hg)
  clear h hg
  go_enter Tryz.func34, Tryz.ntmps34
  go_wp2_with fail
  refine H1.out.mono ?_
  rintro e w1 ⟨rfl, hk1⟩
  go_wp2_with fail
  refine (mnew_bad d f a _ hl).mono ?_
  rintro e w2 ⟨rfl, hw⟩
  subst hw
  go_wp2
  go_ret
  exact ⟨rfl, H.out.kept0 hk1, hk1.below H.out.base (by simp)⟩

set_option maxRecDepth 100000 in
set_option maxHeartbeats 2000000 in
theorem made_ok (base bW n nI nS : Nat) (P : Nat → PState) (vI vX vM vS : Value) (d f a : Int) (w : World) (h : Inv base bW n nI nS P vI vX vM vS w) (hl : limits d f a) (hn : n < 1048576) :
    Calls Tryz.prog 34 #[.pointer (some ⟨bW, 0, none⟩), .int .i64 d, .int .i64 f, .int .i64 a] w fun e w' => e = .returned (.bool true) ∧ ∃ P' vX' vM', Inv base bW (n + 1) nI nS P' vI vX' vM' vS w' ∧ Below base w w' := by
  obtain ⟨iX, hi, hz0, hz1, hz2⟩ := info_parts info_xp
  obtain ⟨iM, hi', hz0', hz1', hz2'⟩ := info_parts info_mp
  obtain ⟨aX, cX, hvX⟩ := owns_shape h.X
  obtain ⟨aM, cM, hvM⟩ := owns_shape h.M
  subst hvX hvM
  have H := hide h
  have H1 := hide (pnew_ok d f a w hl)
  clear h
  go_enter Tryz.func34, Tryz.ntmps34
  go_wp2_with fail
  refine H1.out.mono ?_
  rintro e w1 ⟨rfl, hx1, hk1⟩
  have HX1 := hide hx1
  have HK1 := hide hk1
  have z1 := lt_of_block hx1
  clear hx1 hk1 H1
  go_wp2_with fail
  refine (mnew_ok d f a _ hl).mono ?_
  rintro e w2 ⟨rfl, hw2⟩
  have hm2 : w2.heap[w1.heap.size]? = some (.cells (mcells ⟨#[]⟩ d f a) 97 (0, 0)) := by rw [hw2]; exact heap_alloc_at w1 _
  have hk2 : Kept [] w w2 := by rw [hw2]; exact HK1.out.alloc _
  have hx2 : w2.heap[w.heap.size]? = some (.cells (xcells a (.slice none 0 0)) 121 (0, 0)) := by rw [hw2, Below.heap_alloc _ _ _ z1]; exact HX1.out
  have I2 := H.out.kept0 hk2
  have p2 : Has base w2 ⟨w.heap.size, w1.heap.size, d, f, a, .slice none 0 0, ⟨#[]⟩⟩ :=
    ⟨hx2, World.ownsRow_nil _ _ _ _, hm2, Nat.zero_le _, H.out.base, Nat.le_trans H.out.base HK1.out.size⟩
  have HI2 := hide I2
  have HP2 := hide p2
  have HK2 := hide hk2
  have z12 := HK1.out.size
  have c1 : w2.cell? ⟨bW, 1, none⟩ = some (.slice aX n cX) := by rw [cell_at I2.W]; rfl
  clear hw2 hm2 hk2 hx2 I2 p2 HX1
  go_wp2_with (at_builtin; refine wpList_append_own _ rfl (.tmp 43) (.tmp 45) 45 rfl base 67 iX (.pointer none) 1 8 Tryz.underlying45 hi hz0 hz1 hz2 rfl (by decide) _ _ _ rfl (HI2.out.X.alloc _) ⟨w2.heap.size, 0, none⟩ 1 1 [.pointer (some ⟨w.heap.size, 0, none⟩)] rfl rfl ?c1 ?c2 ?c3 ?c4 ?c5 ?_)
  case c1 => exact cell_one_new _ _ _
  case c2 => intro u hu; simp at hu; subst hu; rfl
  case c3 => unfold maxLen; omega
  case c4 => omega
  case c5 => have := HI2.out.base; simp; omega
  intro v3 w3 hown3 hgrow3 _
  obtain ⟨a3, k3, hv3⟩ := owns_shape hown3
  subst hv3
  obtain ⟨hW3, hW4, hX4, hK4⟩ := pushed (j := 1) HI2.out.W HI2.out.X (by decide) _ hown3 hgrow3
  have d1 : w3.cell? ⟨bW, 1, none⟩ = some (.slice aX n cX) := by rw [cell_at hW3]; rfl
  have d2 := free_at hW3 1
  have hS4 : TypesIn w2 (bW :: (Value.slice aX n cX).ownBlock.toList) [49, 67] := (TypesIn.row HI2.out.X (by simp)).block HI2.out.W (by simp)
  have hM4 := hS4.row_kept hK4 HI2.out.M (by decide)
  have d3 : w3.cell? ⟨bW, 2, none⟩ = some (.slice aM n cM) := by rw [cell_at hW3]; rfl
  have HW4 := hide hW4
  have HX4 := hide hX4
  have HK4 := hide hK4
  have HM4 := hide hM4
  have z3 : base ≤ w3.heap.size := by have := hK4.size; have := HI2.out.base; simp at *; omega
  clear hW3 hW4 hX4 hK4 hM4 hS4 hown3 hgrow3 c1
  go_wp2_with (at_builtin; refine wpList_append_own _ rfl (.tmp 53) (.tmp 55) 46 rfl base 62 iM (.pointer none) 1 8 Tryz.underlying46 hi' hz0' hz1' hz2' rfl (by decide) _ _ _ rfl (HM4.out.alloc _) ⟨w3.heap.size, 0, none⟩ 1 1 [.pointer (some ⟨w1.heap.size, 0, none⟩)] rfl rfl ?e1 ?e2 ?e3 ?e4 ?e5 ?_)
  case e1 =>
    have := cell_one_new (w3.setCell ⟨bW, 1, none⟩ (.slice a3 (n + 1) k3)) (.pointer (some ⟨w1.heap.size, 0, none⟩)) 62
    simpa using this
  case e2 => intro u hu; simp at hu; subst hu; rfl
  case e3 => unfold maxLen; omega
  case e4 => omega
  case e5 => simp; omega
  intro v5 w5 hown5 hgrow5 _
  obtain ⟨a5, k5, hv5⟩ := owns_shape hown5
  subst hv5
  obtain ⟨hW5, hW6, hM6, hK6⟩ := pushed (j := 2) HW4.out HM4.out (by decide) _ hown5 hgrow5
  have g1 : w5.cell? ⟨bW, 2, none⟩ = some (.slice aM n cM) := by rw [cell_at hW5]; rfl
  have g2 := free_at hW5 2
  have hS6 : TypesIn (w3.setCell ⟨bW, 1, none⟩ (.slice a3 (n + 1) k3)) (bW :: (Value.slice aM n cM).ownBlock.toList) [49, 62] := (TypesIn.row HM4.out (by simp)).block HW4.out (by simp)
  have hX6 := hS6.row_kept hK6 HX4.out (by decide)
  have hS4 : TypesIn w2 (bW :: (Value.slice aX n cX).ownBlock.toList) [49, 67] := (TypesIn.row HI2.out.X (by simp)).block HI2.out.W (by simp)
  have hP6 := (HP2.out.kept hS4 HK4.out (by decide) (by decide) (by decide)).kept hS6 hK6 (by decide) (by decide) (by decide)
  have hKK : Kept (bW :: ((Value.slice aX n cX).ownBlock.toList ++ (Value.slice aM n cM).ownBlock.toList)) w (w5.setCell ⟨bW, 2, none⟩ (.slice a5 (n + 1) k5)) := by
    refine ((HK2.out.mono (by simp)).trans (HK4.out.mono ?_)).trans (hK6.mono ?_)
    · intro k hk _
      rcases List.mem_cons.1 hk with rfl | hk
      · simp
      · exact List.mem_cons_of_mem _ (List.mem_append_left _ hk)
    · intro k hk _
      rcases List.mem_cons.1 hk with rfl | hk
      · simp
      · exact List.mem_cons_of_mem _ (List.mem_append_right _ hk)
  have hInv := H.out.made _ hKK hW6 hX6 hM6 hP6 (Nat.le_refl _) z12 rfl
  have hB : Below base w (w5.setCell ⟨bW, 2, none⟩ (.slice a5 (n + 1) k5)) := by
    refine hKK.below H.out.base ?_
    intro k hk
    rcases List.mem_cons.1 hk with rfl | hk
    · exact H.out.bW
    rcases List.mem_append.1 hk with hk | hk
    · exact (H.out.X.lt k (by simpa using hk)).1
    · exact (H.out.M.lt k (by simpa using hk)).1
  have HInv := hide hInv
  have HB := hide hB
  clear hW5 hW6 hM6 hK6 hS6 hX6 hS4 hP6 hKK hInv hB hown5 hgrow5 d1 d2 d3
  go_wp2
  go_ret
  exact ⟨rfl, _, _, _, HInv.out, HB.out⟩
end Go.Proofs.YtifhedfigbdgnaaGreatDoor
