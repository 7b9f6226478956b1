import Derived.Test.YtnlmfklpebekdaaGreatDoorClB
set_option linter.unusedSimpArgs false
set_option linter.unusedVariables false
namespace Go.Proofs.YtnlmfklpebekdaaGreatDoor
open Go.RowKit Go.PlainAid

theorem empty_append' (s : ByteArray) : (⟨#[]⟩ : ByteArray) ++ s = s := by
  apply ByteArray.ext; rw [ByteArray.data_append]; exact Array.empty_append
theorem extract_all (s : ByteArray) : s.extract 0 s.size = s := by simp
def KrPost (w : World) (s : ByteArray) (e : Ending) (w' : World) : ROut → Prop
  | .stop at_ => e = .returned (.tuple #[.agg #[.int .i64 7, .int .i64 at_, .slice none 0 0, .string ⟨#[]⟩, .slice none 0 0], .bool true]) ∧ Kept [] w w'
  | .done L => ∃ v', e = .returned (.tuple #[.agg #[.int .i64 0, .int .i64 s.size, .slice none 0 0, .string ⟨#[]⟩, v'], .bool true]) ∧ w'.ownsRow w.heap.size 52 3 v' L.length (scells L) ∧ Kept [] w w'
def zRead : Array Value := #[.int .i64 0, .int .i64 0, .slice none 0 0, .string ⟨#[]⟩, .slice none 0 0]

theorem readGo_len {R : RC} {look : ByteArray → Option ByteArray} {lg : Nat} {cut : Nat → Nat} {L : List Sp} {ps : Nat} : ∀ {M : List Sp}, readGo R look lg cut L ps = .done M → M.length ≤ L.length + (R.cs.size - ps) := by
  fun_induction readGo R look lg cut L ps with
  | case1 => intro M h; cases h
  | case2 L ps m h => intro M h; obtain rfl := ROut.done.inj h; omega
  | case3 L ps kd m h hk hm ih =>
    intro M h
    have := ih h
    have := addSp_len L ⟨kd, cut ps, cut m⟩
    omega
  | case4 => intro M h; obtain rfl := ROut.done.inj h; omega
set_option maxHeartbeats 400000 in
theorem xtrail_nil (bx : Nat) (a en : Int) (ev : Value) (w : World) (hx : w.heap[bx]? = some (.cells (dcells a en ev (.slice none 0 0)) 65 (0, 0))) :
    Calls Tryz.prog 16 #[.pointer (some ⟨bx, 0, none⟩)] w fun e w' => e = .returned (.slice none 0 0) ∧ w' = w := by
  have c5 : w.cell? ⟨bx, 5, none⟩ = some (.slice none 0 0) := by rw [cell_at hx]; rfl
  have hn := fun w => Lib.run_eql_slice_nil (P := Tryz.prog) w 26 52 none 0 0 0 0 Tryz.underlying26
  clear hx
  go_enter Tryz.func16, Tryz.ntmps16
  go_wp2
  go_ret
  exact ⟨rfl, rfl⟩

set_option maxRecDepth 100000 in
set_option maxHeartbeats 4000000 in
theorem kread_nil (s : ByteArray) (w : World) (hs : s.size ≤ 1024) (hg : MaxL w) (he : errorType w) (hel : 0 < w.heap.size) :
    Calls Tryz.prog 6 #[.string s, .int .i64 64, .int .i64 32, .int .i64 16, .slice none 0 0] w fun e w' => ∃ av b, KrPost w s e w' (readGo (rcOf s 16 av b) (lookL KV) 8 (cutOf s) [] 0) := by
  obtain ⟨w0, hw0⟩ : ∃ w0, w0 = w.alloc (.cells zRead 28) := ⟨_, rfl⟩
  have k0 : Kept [] w w0 := by rw [hw0]; exact (Kept.refl _ _).alloc _
  have z0 : w0.heap.size = w.heap.size + 1 := by rw [hw0]; simp
  have r0 : w0.heap[w.heap.size]? = some (.cells zRead 28 (0, 0)) := by rw [hw0]; exact heap_alloc_at w _
  have CN := hide (pnew_ok 64 32 16 w0 ⟨by omega, by omega, by omega, by omega, by omega, by omega⟩)
  have HW := hide (show w.alloc (.cells zRead 28) = w0 from hw0.symm)
  unfold zRead at HW
  have HG := hide (hg.kept k0 (by simp))
  have HE := hide (he.kept k0 (by simp))
  have HK0 := hide k0
  have HZ := hide z0
  have HR := hide r0
  clear hw0 k0 z0 r0 hg he
  go_enter Tryz.func6, Tryz.ntmps6
  go_wp2_with fail
  rw [HW.out]
  refine CN.out.mono ?_
  rintro e w1 ⟨rfl, hx1, hk1⟩
  have CW := fun (t : ByteArray) (ht : t.size ≤ 1024) => pwrite_ok w0.heap.size 16 (.slice none 0 0) ⟨#[]⟩ t w1.heap.size w1 hx1 (World.ownsRow_nil _ _ _ _) (by show 0 + t.size ≤ 1024; omega) (Nat.le_refl _)
  simp only [empty_append'] at CW
  have HCW := hide (CW s hs)
  have HCT := hide CW
  have HK1 := hide hk1
  have hxl := hide (lt_of_block hx1)
  clear CW hx1 hk1 CN
  go_wp2_with fail
  refine wp_loop_rounds 2 ?_
  rw [rounds_succ]
  by_cases h0 : s.size = 0
  · have e1 : ByteArray.empty = s := by apply ByteArray.ext; exact (Array.eq_empty_of_size_eq_zero h0).symm
    have hz : ((ByteArray.empty).size : Int) = 0 := rfl
    have C0 := hide (HCT.out ByteArray.empty (by decide))
    have E1 := hide e1
    clear e1
    go_wp2_with fail
    refine C0.out.mono ?_
    rintro e w2 ⟨rfl, hpw⟩
    rw [E1.out] at hpw
    have HPW := hide hpw
    clear hpw C0
    go_wp2_with fail
    have hpw := HPW.out
    clear HPW
    clear h0 hz
    obtain ⟨tv, hx2, ow2, hk2, _⟩ := hpw
    have HX2 := hide hx2
    have HOW2 := hide ow2
    have HK2 := hide hk2
    clear hx2 ow2 hk2
    have hn2 : Kept [] w0 w2 := HK1.out.next (S' := w0.heap.size :: (Value.slice none 0 0).ownBlock.toList) HK2.out (by simp [Value.ownBlock])
    have HN2 := hide hn2
    have k3 : Kept [] w2 (w2.alloc (.cells #[.int .i64 0, .int .i64 0, .slice none 0 0, .string ⟨#[]⟩, .slice none 0 0] 28)) := (Kept.refl _ _).alloc _
    have HK3 := hide k3
    have HB3 := hide (heap_alloc_at w2 (.cells #[.int .i64 0, .int .i64 0, .slice none 0 0, .string ⟨#[]⟩, .slice none 0 0] 28))
    have CC := hide (pclose w0.heap.size 16 tv s w1.heap.size _ (k3.at HX2.out (by simp)) (k3.ownsRow HOW2.out (fun _ _ => by simp)) hs ((HG.out.kept hn2 (by simp)).kept k3 (by simp)) ((HE.out.kept hn2 (by simp)).kept k3 (by simp)) (by have := HZ.out; omega))
    clear hn2 k3
    go_wp2_with fail
    refine CC.out.mono ?_
    rintro e w4 ⟨av, b, hpost⟩
    have hsz2 : w0.heap.size < w2.heap.size := lt_of_block HX2.out
    have hne : w0.heap.size ≠ w2.heap.size := by omega
    cases hO : readGo (rcOf s 16 av b) (lookL KV) 8 (cutOf s) [] 0 with
    | stop at_ =>
      rw [hO] at hpost
      obtain ⟨k, rfl, hst, hx4, hk4⟩ := hpost
      have b4 := hk4.at HB3.out (by simp; omega)
      have f0 := free_at b4 0
      have f1 := free_at b4 1
      have f2 := free_at b4 2
      have f3 := free_at b4 3
      have f4 := free_at b4 4
      have d0 : w4.cell? ⟨w2.heap.size, 0, none⟩ = some (.int .i64 0) := by rw [cell_at b4]; rfl
      have k5 : Kept [w2.heap.size] w4 (w4.setCell ⟨w2.heap.size, 0, none⟩ (.int .i64 7)) := (Kept.refl _ _).setCell (.inl (by simp)) _
      have b5 := block_setCell b4 0 (.int .i64 7)
      have hkne : k ≠ w2.heap.size := by rintro rfl; unfold stopAt at hst; rw [b4] at hst; simp at hst
      have CS := hide (pstop_stop w0.heap.size k 16 at_ _ _ (k5.at hx4 (by simpa using hne)) (k5.at hst (by simpa using hkne)) (((((HE.out.kept HN2.out (by simp)).kept HK3.out (by simp)).kept hk4 (by simp; have := HZ.out; omega)).kept k5 (by simp; omega))))
      have H := hide (And.intro hst (And.intro hx4 (And.intro hk4 b5)))
      clear hst hx4 hk4 b4 b5 k5
      go_wp2_with fail
      refine CS.out.mono ?_
      rintro e w6 ⟨rfl, hk6⟩
      obtain ⟨hst, hx4, hk4, b5⟩ := H.out
      have b6 := hk6.at b5 (by simp)
      have g0 : w6.cell? ⟨w2.heap.size, 0, none⟩ = some (.int .i64 7) := by rw [cell_at b6]; rfl
      have g1 : w6.cell? ⟨w2.heap.size, 1, none⟩ = some (.int .i64 0) := by rw [cell_at b6]; rfl
      have g2 : w6.cell? ⟨w2.heap.size, 2, none⟩ = some (.slice none 0 0) := by rw [cell_at b6]; rfl
      have g3 : w6.cell? ⟨w2.heap.size, 3, none⟩ = some (.string ⟨#[]⟩) := by rw [cell_at b6]; rfl
      have g4 : w6.cell? ⟨w2.heap.size, 4, none⟩ = some (.slice none 0 0) := by rw [cell_at b6]; rfl
      have q1 := free_at b6 1
      have q2 := free_at b6 2
      have q3 := free_at b6 3
      have q4 := free_at b6 4
      obtain ⟨w7, hw7⟩ : ∃ w7, w7 = ((w6.setCell ⟨w2.heap.size, 1, none⟩ (.int .i64 (at_ : Int))).setCell ⟨w2.heap.size, 2, none⟩ (.slice none 0 0)).setCell ⟨w2.heap.size, 3, none⟩ (.string ⟨#[]⟩) := ⟨_, rfl⟩
      have k7 : Kept [w2.heap.size] w6 w7 := by rw [hw7]; exact (((Kept.refl _ _).setCell (.inl (by simp)) _).setCell (.inl (by simp)) _).setCell (.inl (by simp)) _
      have b7 : w7.heap[w2.heap.size]? = some (.cells #[.int .i64 7, .int .i64 (at_ : Int), .slice none 0 0, .string ⟨#[]⟩, .slice none 0 0] 28 (0, 0)) := by rw [hw7]; exact block_setCell (block_setCell (block_setCell b6 1 _) 2 _) 3 _
      have x7 := k7.at (hk6.at ((Kept.setCell (Kept.refl [w2.heap.size] w4) (p := ⟨w2.heap.size, 0, none⟩) (.inl (by simp)) (.int .i64 7)).at hx4 (by simpa using hne)) (by simp)) (by simpa using hne)
      have CT := hide (xtrail_nil w0.heap.size 16 at_ _ w7 x7)
      have HW7 := hide hw7.symm
      have HKall : Hid (Kept [] w w7) := by
        have a1 : Kept [] w w4 := (((HK0.out.trans HN2.out).trans HK3.out)).next hk4 (by simp; have := HZ.out; omega)
        have a2 : Kept [] w (w4.setCell ⟨w2.heap.size, 0, none⟩ (.int .i64 7)) := a1.setCell (.inr (by have := HZ.out; simp; omega)) _
        exact (a2.trans hk6).next k7 (by simp; have := HZ.out; omega)
      have HB7 := hide b7
      have hwr : w.heap.size ≠ w2.heap.size := by have := HZ.out; omega
      have r7 := k7.at (hk6.at ((Kept.setCell (Kept.refl [w2.heap.size] w4) (p := ⟨w2.heap.size, 0, none⟩) (.inl (by simp)) (.int .i64 7)).at (hk4.at (HK3.out.at (HN2.out.at HR.out (by simp)) (by simp)) (by simp; have := HZ.out; omega)) (by simpa using hwr)) (by simp)) (by simpa using hwr)
      have HR7 := hide r7
      clear hst hx4 hk4 b5 b6 hk6 hw7 k7 b7 x7 r7 H CS CC
      go_wp2_with fail
      refine (xlist _ _).mono ?_
      rintro e w8 ⟨rfl, rfl⟩
      go_wp2_with fail
      refine (xtext _ _).mono ?_
      rintro e w8 ⟨rfl, rfl⟩
      go_wp2_with fail
      rw [HW7.out]
      refine CT.out.mono ?_
      rintro e w9 ⟨rfl, rfl⟩
      have b9 := HB7.out
      have r9 := HR7.out
      have y0 : w9.cell? ⟨w2.heap.size, 0, none⟩ = some (.int .i64 7) := by rw [cell_at b9]; rfl
      have y1 : w9.cell? ⟨w2.heap.size, 1, none⟩ = some (.int .i64 (at_ : Int)) := by rw [cell_at b9]; rfl
      have y2 : w9.cell? ⟨w2.heap.size, 2, none⟩ = some (.slice none 0 0) := by rw [cell_at b9]; rfl
      have y3 : w9.cell? ⟨w2.heap.size, 3, none⟩ = some (.string ⟨#[]⟩) := by rw [cell_at b9]; rfl
      have y4 : w9.cell? ⟨w2.heap.size, 4, none⟩ = some (.slice none 0 0) := by rw [cell_at b9]; rfl
      have y5 := free_at b9 4
      have u0 : w9.cell? ⟨w.heap.size, 0, none⟩ = some (.int .i64 0) := by rw [cell_at r9]; rfl
      have u1 : w9.cell? ⟨w.heap.size, 1, none⟩ = some (.int .i64 0) := by rw [cell_at r9]; rfl
      have u2 : w9.cell? ⟨w.heap.size, 2, none⟩ = some (.slice none 0 0) := by rw [cell_at r9]; rfl
      have u3 : w9.cell? ⟨w.heap.size, 3, none⟩ = some (.string ⟨#[]⟩) := by rw [cell_at r9]; rfl
      have u4 : w9.cell? ⟨w.heap.size, 4, none⟩ = some (.slice none 0 0) := by rw [cell_at r9]; rfl
      have j0 := free_at r9 0
      have j1 := free_at r9 1
      have j2 := free_at r9 2
      have j3 := free_at r9 3
      have j4 := free_at r9 4
      have hwr2 : w2.heap.size ≠ w.heap.size := fun h => hwr h.symm
      have hle2 : w.heap.size ≤ w2.heap.size := by have := HZ.out; omega
      clear b9 r9
      go_wp2
      refine bodyPost_ret (v := .tuple #[.agg #[.int .i64 7, .int .i64 (at_ : Int), .slice none 0 0, .string ⟨#[]⟩, .slice none 0 0], .bool true]) ?_ rfl ⟨av, b, ?_⟩
      · simp [results, Tryz.results6, asAddr, Result.andThen, go_sem, u0, u1, u2, u3, u4, hwr, hwr2]
      · rw [hO]
        have m := HKall.out
        exact ⟨rfl, (((((m.setCell (.inr hle2) _).setCell (.inr (Nat.le_refl _)) _).setCell (.inr (Nat.le_refl _)) _).setCell (.inr (Nat.le_refl _)) _).setCell (.inr (Nat.le_refl _)) _).setCell (.inr (Nat.le_refl _)) _⟩
    | done L =>
      rw [hO] at hpost
      obtain ⟨rfl, v4, hx4, ow4, hk4⟩ := hpost
      have hLl : L.length ≤ 4096 := by
        have h7 := readGo_len hO
        simp only [List.length_nil, Nat.zero_add] at h7
        have h8 : (csOf s).size ≤ 1024 := by rw [csOf_size]; have := ats_len s s.size; omega
        have h9 : (rcOf s 16 av b).cs.size = (csOf s).size := rfl
        omega
      have b4 := hk4.at HB3.out (by simp; omega)
      have f0 := free_at b4 0
      have d0 : w4.cell? ⟨w2.heap.size, 0, none⟩ = some (.int .i64 0) := by rw [cell_at b4]; rfl
      have k5 : Kept [w2.heap.size] w4 (w4.setCell ⟨w2.heap.size, 0, none⟩ (.int .i64 0)) := (Kept.refl _ _).setCell (.inl (by simp)) _
      have b5 := block_setCell b4 0 (.int .i64 0)
      have CS := hide (pstop_done w0.heap.size 16 s.size v4 _ (k5.at hx4 (by simpa using hne)))
      have ow5 := k5.ownsRow ow4 (fun x hx => by have := (ow4.lt x hx).1; simp at this ⊢; omega)
      have H := hide (And.intro hx4 (And.intro hk4 (And.intro b5 ow5)))
      clear hx4 hk4 b4 b5 k5 ow4 ow5
      go_wp2_with fail
      refine CS.out.mono ?_
      rintro e w6 ⟨rfl, hk6⟩
      obtain ⟨hx4, hk4, b5, ow5⟩ := H.out
      have b6 := hk6.at b5 (by simp)
      have ow6 := hk6.ownsRow ow5 (fun _ _ => by simp)
      have g0 : w6.cell? ⟨w2.heap.size, 0, none⟩ = some (.int .i64 0) := by rw [cell_at b6]; rfl
      have g1 : w6.cell? ⟨w2.heap.size, 1, none⟩ = some (.int .i64 0) := by rw [cell_at b6]; rfl
      have g2 : w6.cell? ⟨w2.heap.size, 2, none⟩ = some (.slice none 0 0) := by rw [cell_at b6]; rfl
      have g3 : w6.cell? ⟨w2.heap.size, 3, none⟩ = some (.string ⟨#[]⟩) := by rw [cell_at b6]; rfl
      have g4 : w6.cell? ⟨w2.heap.size, 4, none⟩ = some (.slice none 0 0) := by rw [cell_at b6]; rfl
      have q1 := free_at b6 1
      have q2 := free_at b6 2
      have q3 := free_at b6 3
      have q4 := free_at b6 4
      obtain ⟨w7, hw7⟩ : ∃ w7, w7 = ((w6.setCell ⟨w2.heap.size, 1, none⟩ (.int .i64 (s.size : Int))).setCell ⟨w2.heap.size, 2, none⟩ (.slice none 0 0)).setCell ⟨w2.heap.size, 3, none⟩ (.string ⟨#[]⟩) := ⟨_, rfl⟩
      have k7 : Kept [w2.heap.size] w6 w7 := by rw [hw7]; exact (((Kept.refl _ _).setCell (.inl (by simp)) _).setCell (.inl (by simp)) _).setCell (.inl (by simp)) _
      have b7 : w7.heap[w2.heap.size]? = some (.cells #[.int .i64 0, .int .i64 (s.size : Int), .slice none 0 0, .string ⟨#[]⟩, .slice none 0 0] 28 (0, 0)) := by rw [hw7]; exact block_setCell (block_setCell (block_setCell b6 1 _) 2 _) 3 _
      have x7 := k7.at (hk6.at ((Kept.setCell (Kept.refl [w2.heap.size] w4) (p := ⟨w2.heap.size, 0, none⟩) (.inl (by simp)) (.int .i64 0)).at hx4 (by simpa using hne)) (by simp)) (by simpa using hne)
      have ow7 := k7.ownsRow ow6 (fun x hx => by have := (ow6.lt x hx).1; simp at this ⊢; omega)
      have CT := hide (xtrail_done w0.heap.size 16 s.size _ _ _ L w7 x7 ow7 hLl)
      have HW7 := hide hw7.symm
      have HKall : Hid (Kept [] w w7) := by
        have a1 : Kept [] w w4 := (((HK0.out.trans HN2.out).trans HK3.out)).next hk4 (by simp; have := HZ.out; omega)
        have a2 : Kept [] w (w4.setCell ⟨w2.heap.size, 0, none⟩ (.int .i64 0)) := a1.setCell (.inr (by have := HZ.out; simp; omega)) _
        exact (a2.trans hk6).next k7 (by simp; have := HZ.out; omega)
      have HB7 := hide b7
      have hwr : w.heap.size ≠ w2.heap.size := by have := HZ.out; omega
      have r7 := k7.at (hk6.at ((Kept.setCell (Kept.refl [w2.heap.size] w4) (p := ⟨w2.heap.size, 0, none⟩) (.inl (by simp)) (.int .i64 0)).at (hk4.at (HK3.out.at (HN2.out.at HR.out (by simp)) (by simp)) (by simp; have := HZ.out; omega)) (by simpa using hwr)) (by simp)) (by simpa using hwr)
      have HR7 := hide r7
      clear hx4 hk4 b5 b6 hk6 hw7 k7 b7 x7 r7 H CS CC ow5 ow6 ow7
      go_wp2_with fail
      refine (xlist _ _).mono ?_
      rintro e w8 ⟨rfl, rfl⟩
      go_wp2_with fail
      refine (xtext _ _).mono ?_
      rintro e w8 ⟨rfl, rfl⟩
      go_wp2_with fail
      rw [HW7.out]
      refine CT.out.mono ?_
      rintro e w9 ⟨v9, rfl, ow9, hk9⟩
      have b9 := hk9.at HB7.out (by simp)
      have r9 := hk9.at HR7.out (by simp)
      have hsz7 := lt_of_block HB7.out
      obtain ⟨a9, c9, hv9⟩ := owns_shape ow9
      subst hv9
      have y0 : w9.cell? ⟨w2.heap.size, 0, none⟩ = some (.int .i64 0) := by rw [cell_at b9]; rfl
      have y1 : w9.cell? ⟨w2.heap.size, 1, none⟩ = some (.int .i64 (s.size : Int)) := by rw [cell_at b9]; rfl
      have y2 : w9.cell? ⟨w2.heap.size, 2, none⟩ = some (.slice none 0 0) := by rw [cell_at b9]; rfl
      have y3 : w9.cell? ⟨w2.heap.size, 3, none⟩ = some (.string ⟨#[]⟩) := by rw [cell_at b9]; rfl
      have y4 : w9.cell? ⟨w2.heap.size, 4, none⟩ = some (.slice none 0 0) := by rw [cell_at b9]; rfl
      have y5 := free_at b9 4
      have u0 : w9.cell? ⟨w.heap.size, 0, none⟩ = some (.int .i64 0) := by rw [cell_at r9]; rfl
      have u1 : w9.cell? ⟨w.heap.size, 1, none⟩ = some (.int .i64 0) := by rw [cell_at r9]; rfl
      have u2 : w9.cell? ⟨w.heap.size, 2, none⟩ = some (.slice none 0 0) := by rw [cell_at r9]; rfl
      have u3 : w9.cell? ⟨w.heap.size, 3, none⟩ = some (.string ⟨#[]⟩) := by rw [cell_at r9]; rfl
      have u4 : w9.cell? ⟨w.heap.size, 4, none⟩ = some (.slice none 0 0) := by rw [cell_at r9]; rfl
      have j0 := free_at r9 0
      have j1 := free_at r9 1
      have j2 := free_at r9 2
      have j3 := free_at r9 3
      have j4 := free_at r9 4
      have hwr2 : w2.heap.size ≠ w.heap.size := fun h => hwr h.symm
      have hle2 : w.heap.size ≤ w2.heap.size := by have := HZ.out; omega
      have HO9 := hide ow9
      have HK9 := hide (HKall.out.trans hk9)
      have hn1 : (Value.slice a9 L.length c9).ownBlock ≠ some w2.heap.size := fun h => by have := (ow9.lt _ h).1; omega
      have hn2 : (Value.slice a9 L.length c9).ownBlock ≠ some w.heap.size := fun h => by have := (ow9.lt _ h).1; omega
      have hle7 : w.heap.size ≤ w7.heap.size := HKall.out.size
      clear b9 r9 ow9 hk9
      go_wp2
      refine bodyPost_ret (v := .tuple #[.agg #[.int .i64 0, .int .i64 (s.size : Int), .slice none 0 0, .string ⟨#[]⟩, .slice a9 L.length c9], .bool true]) ?_ rfl ⟨av, b, ?_⟩
      · simp [results, Tryz.results6, asAddr, Result.andThen, go_sem, u0, u1, u2, u3, u4, hwr, hwr2]
      · rw [hO]
        have m := HK9.out
        exact ⟨_, rfl, ownsRow_base (ownsRow_setCell_other (ownsRow_setCell_other (ownsRow_setCell_other (ownsRow_setCell_other (ownsRow_setCell_other (ownsRow_setCell_other HO9.out hn1 _) hn2 _) hn2 _) hn2 _) hn2 _) hn2 _) hle7, (((((m.setCell (.inr hle2) _).setCell (.inr (Nat.le_refl _)) _).setCell (.inr (Nat.le_refl _)) _).setCell (.inr (Nat.le_refl _)) _).setCell (.inr (Nat.le_refl _)) _).setCell (.inr (Nat.le_refl _)) _⟩
  · have h1 : 0 < s.size := by omega
    go_wp2_with fail
    refine HCW.out.mono ?_
    rintro e w2 ⟨rfl, hpw⟩
    go_wp2_with fail
    rw [rounds_succ]
    obtain ⟨tv, hx2, ow2, hk2, _⟩ := hpw
    have HX2 := hide hx2
    have HOW2 := hide ow2
    have HK2 := hide hk2
    clear hx2 ow2 hk2
    have hn2 : Kept [] w0 w2 := HK1.out.next (S' := w0.heap.size :: (Value.slice none 0 0).ownBlock.toList) HK2.out (by simp [Value.ownBlock])
    have HN2 := hide hn2
    have k3 : Kept [] w2 (w2.alloc (.cells #[.int .i64 0, .int .i64 0, .slice none 0 0, .string ⟨#[]⟩, .slice none 0 0] 28)) := (Kept.refl _ _).alloc _
    have HK3 := hide k3
    have HB3 := hide (heap_alloc_at w2 (.cells #[.int .i64 0, .int .i64 0, .slice none 0 0, .string ⟨#[]⟩, .slice none 0 0] 28))
    have CC := hide (pclose w0.heap.size 16 tv s w1.heap.size _ (k3.at HX2.out (by simp)) (k3.ownsRow HOW2.out (fun _ _ => by simp)) hs ((HG.out.kept hn2 (by simp)).kept k3 (by simp)) ((HE.out.kept hn2 (by simp)).kept k3 (by simp)) (by have := HZ.out; omega))
    clear hn2 k3
    go_wp2_with fail
    refine CC.out.mono ?_
    rintro e w4 ⟨av, b, hpost⟩
    have hsz2 : w0.heap.size < w2.heap.size := lt_of_block HX2.out
    have hne : w0.heap.size ≠ w2.heap.size := by omega
    cases hO : readGo (rcOf s 16 av b) (lookL KV) 8 (cutOf s) [] 0 with
    | stop at_ =>
      rw [hO] at hpost
      obtain ⟨k, rfl, hst, hx4, hk4⟩ := hpost
      have b4 := hk4.at HB3.out (by simp; omega)
      have f0 := free_at b4 0
      have f1 := free_at b4 1
      have f2 := free_at b4 2
      have f3 := free_at b4 3
      have f4 := free_at b4 4
      have d0 : w4.cell? ⟨w2.heap.size, 0, none⟩ = some (.int .i64 0) := by rw [cell_at b4]; rfl
      have k5 : Kept [w2.heap.size] w4 (w4.setCell ⟨w2.heap.size, 0, none⟩ (.int .i64 7)) := (Kept.refl _ _).setCell (.inl (by simp)) _
      have b5 := block_setCell b4 0 (.int .i64 7)
      have hkne : k ≠ w2.heap.size := by rintro rfl; unfold stopAt at hst; rw [b4] at hst; simp at hst
      have CS := hide (pstop_stop w0.heap.size k 16 at_ _ _ (k5.at hx4 (by simpa using hne)) (k5.at hst (by simpa using hkne)) (((((HE.out.kept HN2.out (by simp)).kept HK3.out (by simp)).kept hk4 (by simp; have := HZ.out; omega)).kept k5 (by simp; omega))))
      have H := hide (And.intro hst (And.intro hx4 (And.intro hk4 b5)))
      clear hst hx4 hk4 b4 b5 k5
      go_wp2_with fail
      refine CS.out.mono ?_
      rintro e w6 ⟨rfl, hk6⟩
      obtain ⟨hst, hx4, hk4, b5⟩ := H.out
      have b6 := hk6.at b5 (by simp)
      have g0 : w6.cell? ⟨w2.heap.size, 0, none⟩ = some (.int .i64 7) := by rw [cell_at b6]; rfl
      have g1 : w6.cell? ⟨w2.heap.size, 1, none⟩ = some (.int .i64 0) := by rw [cell_at b6]; rfl
      have g2 : w6.cell? ⟨w2.heap.size, 2, none⟩ = some (.slice none 0 0) := by rw [cell_at b6]; rfl
      have g3 : w6.cell? ⟨w2.heap.size, 3, none⟩ = some (.string ⟨#[]⟩) := by rw [cell_at b6]; rfl
      have g4 : w6.cell? ⟨w2.heap.size, 4, none⟩ = some (.slice none 0 0) := by rw [cell_at b6]; rfl
      have q1 := free_at b6 1
      have q2 := free_at b6 2
      have q3 := free_at b6 3
      have q4 := free_at b6 4
      obtain ⟨w7, hw7⟩ : ∃ w7, w7 = ((w6.setCell ⟨w2.heap.size, 1, none⟩ (.int .i64 (at_ : Int))).setCell ⟨w2.heap.size, 2, none⟩ (.slice none 0 0)).setCell ⟨w2.heap.size, 3, none⟩ (.string ⟨#[]⟩) := ⟨_, rfl⟩
      have k7 : Kept [w2.heap.size] w6 w7 := by rw [hw7]; exact (((Kept.refl _ _).setCell (.inl (by simp)) _).setCell (.inl (by simp)) _).setCell (.inl (by simp)) _
      have b7 : w7.heap[w2.heap.size]? = some (.cells #[.int .i64 7, .int .i64 (at_ : Int), .slice none 0 0, .string ⟨#[]⟩, .slice none 0 0] 28 (0, 0)) := by rw [hw7]; exact block_setCell (block_setCell (block_setCell b6 1 _) 2 _) 3 _
      have x7 := k7.at (hk6.at ((Kept.setCell (Kept.refl [w2.heap.size] w4) (p := ⟨w2.heap.size, 0, none⟩) (.inl (by simp)) (.int .i64 7)).at hx4 (by simpa using hne)) (by simp)) (by simpa using hne)
      have CT := hide (xtrail_nil w0.heap.size 16 at_ _ w7 x7)
      have HW7 := hide hw7.symm
      have HKall : Hid (Kept [] w w7) := by
        have a1 : Kept [] w w4 := (((HK0.out.trans HN2.out).trans HK3.out)).next hk4 (by simp; have := HZ.out; omega)
        have a2 : Kept [] w (w4.setCell ⟨w2.heap.size, 0, none⟩ (.int .i64 7)) := a1.setCell (.inr (by have := HZ.out; simp; omega)) _
        exact (a2.trans hk6).next k7 (by simp; have := HZ.out; omega)
      have HB7 := hide b7
      have hwr : w.heap.size ≠ w2.heap.size := by have := HZ.out; omega
      have r7 := k7.at (hk6.at ((Kept.setCell (Kept.refl [w2.heap.size] w4) (p := ⟨w2.heap.size, 0, none⟩) (.inl (by simp)) (.int .i64 7)).at (hk4.at (HK3.out.at (HN2.out.at HR.out (by simp)) (by simp)) (by simp; have := HZ.out; omega)) (by simpa using hwr)) (by simp)) (by simpa using hwr)
      have HR7 := hide r7
      clear hst hx4 hk4 b5 b6 hk6 hw7 k7 b7 x7 r7 H CS CC
      go_wp2_with fail
      refine (xlist _ _).mono ?_
      rintro e w8 ⟨rfl, rfl⟩
      go_wp2_with fail
      refine (xtext _ _).mono ?_
      rintro e w8 ⟨rfl, rfl⟩
      go_wp2_with fail
      rw [HW7.out]
      refine CT.out.mono ?_
      rintro e w9 ⟨rfl, rfl⟩
      have b9 := HB7.out
      have r9 := HR7.out
      have y0 : w9.cell? ⟨w2.heap.size, 0, none⟩ = some (.int .i64 7) := by rw [cell_at b9]; rfl
      have y1 : w9.cell? ⟨w2.heap.size, 1, none⟩ = some (.int .i64 (at_ : Int)) := by rw [cell_at b9]; rfl
      have y2 : w9.cell? ⟨w2.heap.size, 2, none⟩ = some (.slice none 0 0) := by rw [cell_at b9]; rfl
      have y3 : w9.cell? ⟨w2.heap.size, 3, none⟩ = some (.string ⟨#[]⟩) := by rw [cell_at b9]; rfl
      have y4 : w9.cell? ⟨w2.heap.size, 4, none⟩ = some (.slice none 0 0) := by rw [cell_at b9]; rfl
      have y5 := free_at b9 4
      have u0 : w9.cell? ⟨w.heap.size, 0, none⟩ = some (.int .i64 0) := by rw [cell_at r9]; rfl
      have u1 : w9.cell? ⟨w.heap.size, 1, none⟩ = some (.int .i64 0) := by rw [cell_at r9]; rfl
      have u2 : w9.cell? ⟨w.heap.size, 2, none⟩ = some (.slice none 0 0) := by rw [cell_at r9]; rfl
      have u3 : w9.cell? ⟨w.heap.size, 3, none⟩ = some (.string ⟨#[]⟩) := by rw [cell_at r9]; rfl
      have u4 : w9.cell? ⟨w.heap.size, 4, none⟩ = some (.slice none 0 0) := by rw [cell_at r9]; rfl
      have j0 := free_at r9 0
      have j1 := free_at r9 1
      have j2 := free_at r9 2
      have j3 := free_at r9 3
      have j4 := free_at r9 4
      have hwr2 : w2.heap.size ≠ w.heap.size := fun h => hwr h.symm
      have hle2 : w.heap.size ≤ w2.heap.size := by have := HZ.out; omega
      clear b9 r9
      go_wp2
      refine bodyPost_ret (v := .tuple #[.agg #[.int .i64 7, .int .i64 (at_ : Int), .slice none 0 0, .string ⟨#[]⟩, .slice none 0 0], .bool true]) ?_ rfl ⟨av, b, ?_⟩
      · simp [results, Tryz.results6, asAddr, Result.andThen, go_sem, u0, u1, u2, u3, u4, hwr, hwr2]
      · rw [hO]
        have m := HKall.out
        exact ⟨rfl, (((((m.setCell (.inr hle2) _).setCell (.inr (Nat.le_refl _)) _).setCell (.inr (Nat.le_refl _)) _).setCell (.inr (Nat.le_refl _)) _).setCell (.inr (Nat.le_refl _)) _).setCell (.inr (Nat.le_refl _)) _⟩
    | done L =>
      rw [hO] at hpost
      obtain ⟨rfl, v4, hx4, ow4, hk4⟩ := hpost
      have hLl : L.length ≤ 4096 := by
        have h7 := readGo_len hO
        simp only [List.length_nil, Nat.zero_add] at h7
        have h8 : (csOf s).size ≤ 1024 := by rw [csOf_size]; have := ats_len s s.size; omega
        have h9 : (rcOf s 16 av b).cs.size = (csOf s).size := rfl
        omega
      have b4 := hk4.at HB3.out (by simp; omega)
      have f0 := free_at b4 0
      have d0 : w4.cell? ⟨w2.heap.size, 0, none⟩ = some (.int .i64 0) := by rw [cell_at b4]; rfl
      have k5 : Kept [w2.heap.size] w4 (w4.setCell ⟨w2.heap.size, 0, none⟩ (.int .i64 0)) := (Kept.refl _ _).setCell (.inl (by simp)) _
      have b5 := block_setCell b4 0 (.int .i64 0)
      have CS := hide (pstop_done w0.heap.size 16 s.size v4 _ (k5.at hx4 (by simpa using hne)))
      have ow5 := k5.ownsRow ow4 (fun x hx => by have := (ow4.lt x hx).1; simp at this ⊢; omega)
      have H := hide (And.intro hx4 (And.intro hk4 (And.intro b5 ow5)))
      clear hx4 hk4 b4 b5 k5 ow4 ow5
      go_wp2_with fail
      refine CS.out.mono ?_
      rintro e w6 ⟨rfl, hk6⟩
      obtain ⟨hx4, hk4, b5, ow5⟩ := H.out
      have b6 := hk6.at b5 (by simp)
      have ow6 := hk6.ownsRow ow5 (fun _ _ => by simp)
      have g0 : w6.cell? ⟨w2.heap.size, 0, none⟩ = some (.int .i64 0) := by rw [cell_at b6]; rfl
      have g1 : w6.cell? ⟨w2.heap.size, 1, none⟩ = some (.int .i64 0) := by rw [cell_at b6]; rfl
      have g2 : w6.cell? ⟨w2.heap.size, 2, none⟩ = some (.slice none 0 0) := by rw [cell_at b6]; rfl
      have g3 : w6.cell? ⟨w2.heap.size, 3, none⟩ = some (.string ⟨#[]⟩) := by rw [cell_at b6]; rfl
      have g4 : w6.cell? ⟨w2.heap.size, 4, none⟩ = some (.slice none 0 0) := by rw [cell_at b6]; rfl
      have q1 := free_at b6 1
      have q2 := free_at b6 2
      have q3 := free_at b6 3
      have q4 := free_at b6 4
      obtain ⟨w7, hw7⟩ : ∃ w7, w7 = ((w6.setCell ⟨w2.heap.size, 1, none⟩ (.int .i64 (s.size : Int))).setCell ⟨w2.heap.size, 2, none⟩ (.slice none 0 0)).setCell ⟨w2.heap.size, 3, none⟩ (.string ⟨#[]⟩) := ⟨_, rfl⟩
      have k7 : Kept [w2.heap.size] w6 w7 := by rw [hw7]; exact (((Kept.refl _ _).setCell (.inl (by simp)) _).setCell (.inl (by simp)) _).setCell (.inl (by simp)) _
      have b7 : w7.heap[w2.heap.size]? = some (.cells #[.int .i64 0, .int .i64 (s.size : Int), .slice none 0 0, .string ⟨#[]⟩, .slice none 0 0] 28 (0, 0)) := by rw [hw7]; exact block_setCell (block_setCell (block_setCell b6 1 _) 2 _) 3 _
      have x7 := k7.at (hk6.at ((Kept.setCell (Kept.refl [w2.heap.size] w4) (p := ⟨w2.heap.size, 0, none⟩) (.inl (by simp)) (.int .i64 0)).at hx4 (by simpa using hne)) (by simp)) (by simpa using hne)
      have ow7 := k7.ownsRow ow6 (fun x hx => by have := (ow6.lt x hx).1; simp at this ⊢; omega)
      have CT := hide (xtrail_done w0.heap.size 16 s.size _ _ _ L w7 x7 ow7 hLl)
      have HW7 := hide hw7.symm
      have HKall : Hid (Kept [] w w7) := by
        have a1 : Kept [] w w4 := (((HK0.out.trans HN2.out).trans HK3.out)).next hk4 (by simp; have := HZ.out; omega)
        have a2 : Kept [] w (w4.setCell ⟨w2.heap.size, 0, none⟩ (.int .i64 0)) := a1.setCell (.inr (by have := HZ.out; simp; omega)) _
        exact (a2.trans hk6).next k7 (by simp; have := HZ.out; omega)
      have HB7 := hide b7
      have hwr : w.heap.size ≠ w2.heap.size := by have := HZ.out; omega
      have r7 := k7.at (hk6.at ((Kept.setCell (Kept.refl [w2.heap.size] w4) (p := ⟨w2.heap.size, 0, none⟩) (.inl (by simp)) (.int .i64 0)).at (hk4.at (HK3.out.at (HN2.out.at HR.out (by simp)) (by simp)) (by simp; have := HZ.out; omega)) (by simpa using hwr)) (by simp)) (by simpa using hwr)
      have HR7 := hide r7
      clear hx4 hk4 b5 b6 hk6 hw7 k7 b7 x7 r7 H CS CC ow5 ow6 ow7
      go_wp2_with fail
      refine (xlist _ _).mono ?_
      rintro e w8 ⟨rfl, rfl⟩
      go_wp2_with fail
      refine (xtext _ _).mono ?_
      rintro e w8 ⟨rfl, rfl⟩
      go_wp2_with fail
      rw [HW7.out]
      refine CT.out.mono ?_
      rintro e w9 ⟨v9, rfl, ow9, hk9⟩
      have b9 := hk9.at HB7.out (by simp)
      have r9 := hk9.at HR7.out (by simp)
      have hsz7 := lt_of_block HB7.out
      obtain ⟨a9, c9, hv9⟩ := owns_shape ow9
      subst hv9
      have y0 : w9.cell? ⟨w2.heap.size, 0, none⟩ = some (.int .i64 0) := by rw [cell_at b9]; rfl
      have y1 : w9.cell? ⟨w2.heap.size, 1, none⟩ = some (.int .i64 (s.size : Int)) := by rw [cell_at b9]; rfl
      have y2 : w9.cell? ⟨w2.heap.size, 2, none⟩ = some (.slice none 0 0) := by rw [cell_at b9]; rfl
      have y3 : w9.cell? ⟨w2.heap.size, 3, none⟩ = some (.string ⟨#[]⟩) := by rw [cell_at b9]; rfl
      have y4 : w9.cell? ⟨w2.heap.size, 4, none⟩ = some (.slice none 0 0) := by rw [cell_at b9]; rfl
      have y5 := free_at b9 4
      have u0 : w9.cell? ⟨w.heap.size, 0, none⟩ = some (.int .i64 0) := by rw [cell_at r9]; rfl
      have u1 : w9.cell? ⟨w.heap.size, 1, none⟩ = some (.int .i64 0) := by rw [cell_at r9]; rfl
      have u2 : w9.cell? ⟨w.heap.size, 2, none⟩ = some (.slice none 0 0) := by rw [cell_at r9]; rfl
      have u3 : w9.cell? ⟨w.heap.size, 3, none⟩ = some (.string ⟨#[]⟩) := by rw [cell_at r9]; rfl
      have u4 : w9.cell? ⟨w.heap.size, 4, none⟩ = some (.slice none 0 0) := by rw [cell_at r9]; rfl
      have j0 := free_at r9 0
      have j1 := free_at r9 1
      have j2 := free_at r9 2
      have j3 := free_at r9 3
      have j4 := free_at r9 4
      have hwr2 : w2.heap.size ≠ w.heap.size := fun h => hwr h.symm
      have hle2 : w.heap.size ≤ w2.heap.size := by have := HZ.out; omega
      have HO9 := hide ow9
      have HK9 := hide (HKall.out.trans hk9)
      have hn1 : (Value.slice a9 L.length c9).ownBlock ≠ some w2.heap.size := fun h => by have := (ow9.lt _ h).1; omega
      have hn2 : (Value.slice a9 L.length c9).ownBlock ≠ some w.heap.size := fun h => by have := (ow9.lt _ h).1; omega
      have hle7 : w.heap.size ≤ w7.heap.size := HKall.out.size
      clear b9 r9 ow9 hk9
      go_wp2
      refine bodyPost_ret (v := .tuple #[.agg #[.int .i64 0, .int .i64 (s.size : Int), .slice none 0 0, .string ⟨#[]⟩, .slice a9 L.length c9], .bool true]) ?_ rfl ⟨av, b, ?_⟩
      · simp [results, Tryz.results6, asAddr, Result.andThen, go_sem, u0, u1, u2, u3, u4, hwr, hwr2]
      · rw [hO]
        have m := HK9.out
        exact ⟨_, rfl, ownsRow_base (ownsRow_setCell_other (ownsRow_setCell_other (ownsRow_setCell_other (ownsRow_setCell_other (ownsRow_setCell_other (ownsRow_setCell_other HO9.out hn1 _) hn2 _) hn2 _) hn2 _) hn2 _) hn2 _) hle7, (((((m.setCell (.inr hle2) _).setCell (.inr (Nat.le_refl _)) _).setCell (.inr (Nat.le_refl _)) _).setCell (.inr (Nat.le_refl _)) _).setCell (.inr (Nat.le_refl _)) _).setCell (.inr (Nat.le_refl _)) _⟩
end Go.Proofs.YtnlmfklpebekdaaGreatDoor
