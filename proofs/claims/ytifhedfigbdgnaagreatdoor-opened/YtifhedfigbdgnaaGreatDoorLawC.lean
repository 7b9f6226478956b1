import Derived.Test.YtifhedfigbdgnaaGreatDoorLawB
namespace Go.Proofs.YtifhedfigbdgnaaGreatDoor
open Go.RowKit Go.Extern.Stop Go.Stop Go.Extern

theorem cell_two_at (u : World) (e : TypeId) (v0 v1 : Value) : ∀ j x, [v0, v1][j]? = some x → (u.alloc (.cells #[v0, v1] e)).cell? ((⟨u.heap.size, 0, none⟩ : Addr).add j) = some x := by
  intro j x hj
  rw [addr_add, cell_at (heap_alloc_at u _)]
  match j, hj with
  | 0, hj => simpa using hj
  | 1, hj => simpa using hj
  | _ + 2, hj => simp at hj

theorem info_item : (Tryz.prog.info? 89).isSome = true := by kernel_rfl
theorem info_span : (Tryz.prog.info? 82).isSome = true := by kernel_rfl
theorem append_items_nil (w : World) : (Builtin.append_ #[32, 32] 32 #[.slice none 0 0, .slice none 0 0]).run Tryz.prog w = .ok (.slice none 0 0) w := by
  obtain ⟨i, hi⟩ := Option.isSome_iff_exists.1 info_item
  exact run_append_owned_none w 0 32 32 89 i i.size Tryz.underlying32 hi (.slice none 0 0) 0 [] (World.ownsRow_nil _ _ _ _)
theorem append_spans_nil (w : World) : (Builtin.append_ #[33, 33] 33 #[.slice none 0 0, .slice none 0 0]).run Tryz.prog w = .ok (.slice none 0 0) w := by
  obtain ⟨i, hi⟩ := Option.isSome_iff_exists.1 info_span
  exact run_append_owned_none w 0 33 33 82 i i.size Tryz.underlying33 hi (.slice none 0 0) 0 [] (World.ownsRow_nil _ _ _ _)

set_option maxRecDepth 100000 in
set_option maxHeartbeats 2000000 in
theorem listed_ok (base bW n nI nS : Nat) (P : Nat → PState) (vI vX vM vS : Value) (i : Nat) (w : World) (h : Inv base bW n nI nS P vI vX vM vS w) (hi : i < n) (hn : nI < 1048576) :
    Calls Tryz.prog 39 #[.pointer (some ⟨bW, 0, none⟩), .pointer (some ⟨(P i).bx, 0, none⟩), .pointer (some ⟨(P i).bm, 0, none⟩)] w fun e w' => e = .returned (.bool true) ∧ ∃ vI', Inv base bW n (nI + 1) nS P vI' vX vM vS w' ∧ Below base w w' := by
  obtain ⟨iI, hj, hz0, hz1, hz2⟩ := info_parts info_it
  obtain ⟨aI, cI, hvI⟩ := owns_shape h.I
  subst hvI
  have hap := append_items_nil
  have hnil := fun w => Lib.run_eql_slice_nil (P := Tryz.prog) w 32 89 none 0 0 0 0 Tryz.underlying32
  have H := hide h
  have H1 := hide (mitems (P i).bm _ _ _ _ w (h.has i hi).m)
  have c1 : w.cell? ⟨bW, 0, none⟩ = some (.slice aI nI cI) := by rw [cell_at h.W]; rfl
  clear h
  go_enter Tryz.func39, Tryz.ntmps39
  go_wp2_with fail
  refine (xlist _ _).mono ?_
  rintro e w1 ⟨rfl, hw1⟩
  subst hw1
  go_wp2_with fail
  refine H1.out.mono ?_
  rintro e w1 ⟨rfl, hw1⟩
  subst hw1
  go_wp2_with fail
  refine (same_items_nil _).mono ?_
  rintro e w2 ⟨rfl, hw2⟩
  subst hw2
  go_wp2_with (at_builtin; refine wpList_append_own _ rfl (.tmp 24) (.tmp 28) 44 rfl base 87 iI (.agg #[.slice none 0 0, .slice none 0 0]) 2 48 Tryz.underlying44 hj hz0 hz1 hz2 rfl (by decide) _ _ _ rfl (H.out.I.alloc _) ⟨w2.heap.size, 0, none⟩ 1 1 [.slice none 0 0, .slice none 0 0] rfl rfl ?c1 ?c2 ?c3 ?c4 ?c5 ?_)
  case c1 => exact cell_two_at _ _ _ _
  case c2 => intro u hu; simp at hu; subst hu; rfl
  case c3 => unfold maxLen; omega
  case c4 => omega
  case c5 => have := H.out.base; simp; omega
  intro v3 w3 hown3 hgrow3 _
  obtain ⟨a3, k3, hv3⟩ := owns_shape hown3
  subst hv3
  obtain ⟨hW3, hW4, hI4, hK4⟩ := pushed (j := 0) H.out.W H.out.I (by decide) _ hown3 hgrow3
  have d1 : w3.cell? ⟨bW, 0, none⟩ = some (.slice aI nI cI) := by rw [cell_at hW3]; rfl
  have d2 := free_at hW3 0
  have hInv := H.out.listed hK4 hW4 hI4
  have hB : Below base w2 (w3.setCell ⟨bW, 0, none⟩ (.slice a3 (nI + 1) k3)) := by
    refine hK4.below H.out.base ?_
    intro k hk
    rcases List.mem_cons.1 hk with rfl | hk
    · exact H.out.bW
    · exact (H.out.I.lt k (by simpa using hk)).1
  have HInv := hide hInv
  have HB := hide hB
  clear hW3 hW4 hI4 hK4 hInv hB hown3 hgrow3 c1
  go_wp2
  go_ret
  exact ⟨rfl, _, HInv.out, HB.out⟩

set_option maxRecDepth 100000 in
set_option maxHeartbeats 2000000 in
theorem trailed_ok (base bW n nI nS : Nat) (P : Nat → PState) (vI vX vM vS : Value) (i : Nat) (w : World) (h : Inv base bW n nI nS P vI vX vM vS w) (hi : i < n) (hn : nS < 1048576) :
    Calls Tryz.prog 42 #[.pointer (some ⟨bW, 0, none⟩), .pointer (some ⟨(P i).bx, 0, none⟩), .pointer (some ⟨(P i).bm, 0, none⟩)] w fun e w' => e = .returned (.bool true) ∧ ∃ vS', Inv base bW n nI (nS + 1) P vI vX vM vS' w' ∧ Below base w w' := by
  obtain ⟨iI, hj, hz0, hz1, hz2⟩ := info_parts info_sp
  obtain ⟨aI, cI, hvI⟩ := owns_shape h.S
  subst hvI
  have hap := append_spans_nil
  have hnil := fun w => Lib.run_eql_slice_nil (P := Tryz.prog) w 33 82 none 0 0 0 0 Tryz.underlying33
  have H := hide h
  have H0 := hide (xtrail (P i).bx _ _ w (h.has i hi).x)
  have H1 := hide (mtrail (P i).bm _ _ _ _ w (h.has i hi).m)
  have c1 : w.cell? ⟨bW, 3, none⟩ = some (.slice aI nS cI) := by rw [cell_at h.W]; rfl
  clear h
  go_enter Tryz.func42, Tryz.ntmps42
  go_wp2_with fail
  refine H0.out.mono ?_
  rintro e w1 ⟨rfl, hw1⟩
  subst hw1
  go_wp2_with fail
  refine H1.out.mono ?_
  rintro e w1 ⟨rfl, hw1⟩
  subst hw1
  go_wp2_with fail
  refine (same_spans_nil _).mono ?_
  rintro e w2 ⟨rfl, hw2⟩
  subst hw2
  go_wp2_with (at_builtin; refine wpList_append_own _ rfl (.tmp 24) (.tmp 28) 47 rfl base 85 iI (.agg #[.slice none 0 0, .slice none 0 0]) 2 48 Tryz.underlying47 hj hz0 hz1 hz2 rfl (by decide) _ _ _ rfl (H.out.S.alloc _) ⟨w2.heap.size, 0, none⟩ 1 1 [.slice none 0 0, .slice none 0 0] rfl rfl ?c1 ?c2 ?c3 ?c4 ?c5 ?_)
  case c1 => exact cell_two_at _ _ _ _
  case c2 => intro u hu; simp at hu; subst hu; rfl
  case c3 => unfold maxLen; omega
  case c4 => omega
  case c5 => have := H.out.base; simp; omega
  intro v3 w3 hown3 hgrow3 _
  obtain ⟨a3, k3, hv3⟩ := owns_shape hown3
  subst hv3
  obtain ⟨hW3, hW4, hI4, hK4⟩ := pushed (j := 3) H.out.W H.out.S (by decide) _ hown3 hgrow3
  have d1 : w3.cell? ⟨bW, 3, none⟩ = some (.slice aI nS cI) := by rw [cell_at hW3]; rfl
  have d2 := free_at hW3 3
  have hInv := H.out.trailed hK4 hW4 hI4
  have hB : Below base w2 (w3.setCell ⟨bW, 3, none⟩ (.slice a3 (nS + 1) k3)) := by
    refine hK4.below H.out.base ?_
    intro k hk
    rcases List.mem_cons.1 hk with rfl | hk
    · exact H.out.bW
    · exact (H.out.S.lt k (by simpa using hk)).1
  have HInv := hide hInv
  have HB := hide hB
  clear hW3 hW4 hI4 hK4 hInv hB hown3 hgrow3 c1
  go_wp2
  go_ret
  exact ⟨rfl, _, HInv.out, HB.out⟩

end Go.Proofs.YtifhedfigbdgnaaGreatDoor
