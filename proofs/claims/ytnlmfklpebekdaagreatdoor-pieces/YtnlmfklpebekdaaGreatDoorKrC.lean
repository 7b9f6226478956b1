import Derived.Test.YtnlmfklpebekdaaGreatDoorKrB
set_option linter.unusedSimpArgs false
set_option linter.unusedVariables false
namespace Go.Proofs.YtnlmfklpebekdaaGreatDoor
open Go.RowKit Go.PlainAid

/-- Three lengths, each 0 to 39. -/
structure Cuts (w : World) (g : Nat) : Prop where
  lt : g < w.heap.size
  at_ : ∀ k, k < 3 → ∃ c : Nat, c ≤ 39 ∧ w.cell? ⟨g, k, none⟩ = some (.int .i64 (c : Int))
theorem Cuts.kept {w w' : World} {g : Nat} {S : List Nat} (h : Cuts w g) (hk : Kept S w w') (hs : g ∉ S) : Cuts w' g :=
  ⟨Nat.lt_of_lt_of_le h.lt hk.size, fun k hkk => by obtain ⟨c, h1, h2⟩ := h.at_ k hkk; exact ⟨c, h1, (hk.cell (p := ⟨g, k, none⟩) h.lt hs).trans h2⟩⟩
theorem extract_more (s : ByteArray) (i n : Nat) (h : i + n ≤ s.size) : s.extract 0 i ++ s.extract i (i + n) = s.extract 0 (i + n) := by
  apply ByteArray.ext
  rw [ByteArray.data_append, ByteArray.data_extract, ByteArray.data_extract, ByteArray.data_extract]
  rw [Array.extract_append_extract]
  congr 1
  omega
/-- Behind i bytes: the parser is open and holds them. -/
structure Piece (w1 : World) (bx : Nat) (s : ByteArray) (i : Nat) (tv : Value) (wr : World) : Prop where
  blk : wr.heap[bx]? = some (.cells (xcells 16 tv) 65 (0, 0))
  own : wr.ownsRow w1.heap.size 5 1 tv (s.extract 0 i).size (bcells (s.extract 0 i))
  kept : Kept [bx] w1 wr

set_option maxRecDepth 100000 in
set_option maxHeartbeats 4000000 in
theorem kread_cuts (s : ByteArray) (g : Nat) (w : World) (hs : s.size ≤ 1024) (hcut : Cuts w g) (hg : MaxL w) (he : errorType w) (hel : 0 < w.heap.size) :
    Calls Tryz.prog 6 #[.string s, .int .i64 64, .int .i64 32, .int .i64 16, .slice (some ⟨g, 0, none⟩) 3 3] w fun e w' => ∃ av b, KrPost w s e w' (readGo (rcOf s 16 av b) (lookL KV) 8 (cutOf s) [] 0) := by
  obtain ⟨w0, hw0⟩ : ∃ w0, w0 = w.alloc (.cells zRead 28) := ⟨_, rfl⟩
  have k0 : Kept [] w w0 := by rw [hw0]; exact (Kept.refl _ _).alloc _
  have z0 : w0.heap.size = w.heap.size + 1 := by rw [hw0]; simp
  have r0 : w0.heap[w.heap.size]? = some (.cells zRead 28 (0, 0)) := by rw [hw0]; exact heap_alloc_at w _
  have CN := hide (pnew_ok 64 32 16 w0 ⟨by omega, by omega, by omega, by omega, by omega, by omega⟩)
  have HW := hide (show w.alloc (.cells zRead 28) = w0 from hw0.symm)
  unfold zRead at HW
  have HG := hide (hg.kept k0 (by simp))
  have HE := hide (he.kept k0 (by simp))
  have HC0 := hide (hcut.kept k0 (by simp))
  have hgl := hcut.lt
  have HK0 := hide k0
  have HZ := hide z0
  have HR := hide r0
  clear hw0 k0 z0 r0 hg he hcut
  go_enter Tryz.func6, Tryz.ntmps6
  go_wp2_with fail
  rw [HW.out]
  refine CN.out.mono ?_
  rintro e w1 ⟨rfl, hx1, hk1⟩
  have HC1 := hide (HC0.out.kept hk1 (by simp))
  have HP1 : Hid (Piece w1 w0.heap.size s 0 (.slice none 0 0) w1) := ⟨hx1, by
    have e : s.extract 0 0 = ⟨#[]⟩ := by apply ByteArray.ext; simp
    rw [e]; exact World.ownsRow_nil _ _ _ _, Kept.refl _ _⟩
  have HK1 := hide hk1
  clear hx1 hk1 CN
  by_cases h0 : s.size = 0
  · have e1 : ByteArray.empty = s := by apply ByteArray.ext; exact (Array.eq_empty_of_size_eq_zero h0).symm
    have CW := pwrite_ok w0.heap.size 16 (.slice none 0 0) ⟨#[]⟩ ByteArray.empty w1.heap.size w1 HP1.out.blk (World.ownsRow_nil _ _ _ _) (by decide) (Nat.le_refl _)
    rw [empty_append'] at CW
    have HCW := hide CW
    have hz : ((ByteArray.empty).size : Int) = 0 := rfl
    have E1 := hide e1
    obtain ⟨c, hc39, hc⟩ := HC1.out.at_ 0 (by omega)
    clear e1 CW
    go_wp2_with fail
    refine wp_loop_rounds 2 ?_
    rw [rounds_succ]
    rcases Nat.eq_zero_or_pos c with hc0 | hc0
    · subst hc0
      go_wp2_with fail
      refine HCW.out.mono ?_
      rintro e w2 ⟨rfl, hpw⟩
      rw [E1.out] at hpw
      have HPW := hide hpw
      clear hpw HCW
      go_wp2_with fail
      have hpw := HPW.out
      clear HPW h0 hz hc
      obtain ⟨tv, hx2, ow2, hk2, _⟩ := hpw
      have HX2 := hide hx2
      have HOW2 := hide ow2
      have HK2 := hide hk2
      clear hx2 ow2 hk2
      have hn2 : Kept [] w0 w2 := HK1.out.next (S' := w0.heap.size :: (Value.slice none 0 0).ownBlock.toList) HK2.out (by simp [Value.ownBlock])
      have HN2 := hide hn2
      have k3 : Kept [] w2 (w2.alloc (.cells #[.int .i64 0, .int .i64 0, .slice none 0 0, .string ⟨#[]⟩, .slice none 0 0] 28)) := (Kept.refl _ _).alloc _
      have HK3 := hide k3
      have HB3 := hide (heap_alloc_at w2 (.cells #[.int .i64 0, .int .i64 0, .slice none 0 0, .string ⟨#[]⟩, .slice none 0 0] 28))
      have CC := hide (pclose w0.heap.size 16 tv s w1.heap.size _ (k3.at HX2.out (by simp)) (k3.ownsRow HOW2.out (fun _ _ => by simp)) hs ((HG.out.kept hn2 (by simp)).kept k3 (by simp)) ((HE.out.kept hn2 (by simp)).kept k3 (by simp)) (by have := HZ.out; omega))
      clear hn2 k3
      go_wp2_with fail
      refine CC.out.mono ?_
      rintro e w4 ⟨av, b, hpost⟩
      have hsz2 : w0.heap.size < w2.heap.size := lt_of_block HX2.out
      have hne : w0.heap.size ≠ w2.heap.size := by omega
      cases hO : readGo (rcOf s 16 av b) (lookL KV) 8 (cutOf s) [] 0 with
      | stop at_ =>
        rw [hO] at hpost
        obtain ⟨k, rfl, hst, hx4, hk4⟩ := hpost
        have b4 := hk4.at HB3.out (by simp; omega)
        have f0 := free_at b4 0
        have f1 := free_at b4 1
        have f2 := free_at b4 2
        have f3 := free_at b4 3
        have f4 := free_at b4 4
        have d0 : w4.cell? ⟨w2.heap.size, 0, none⟩ = some (.int .i64 0) := by rw [cell_at b4]; rfl
        have k5 : Kept [w2.heap.size] w4 (w4.setCell ⟨w2.heap.size, 0, none⟩ (.int .i64 7)) := (Kept.refl _ _).setCell (.inl (by simp)) _
        have b5 := block_setCell b4 0 (.int .i64 7)
        have hkne : k ≠ w2.heap.size := by rintro rfl; unfold stopAt at hst; rw [b4] at hst; simp at hst
        have CS := hide (pstop_stop w0.heap.size k 16 at_ _ _ (k5.at hx4 (by simpa using hne)) (k5.at hst (by simpa using hkne)) (((((HE.out.kept HN2.out (by simp)).kept HK3.out (by simp)).kept hk4 (by simp; have := HZ.out; omega)).kept k5 (by simp; omega))))
        have H := hide (And.intro hst (And.intro hx4 (And.intro hk4 b5)))
        clear hst hx4 hk4 b4 b5 k5
        go_wp2_with fail
        refine CS.out.mono ?_
        rintro e w6 ⟨rfl, hk6⟩
        obtain ⟨hst, hx4, hk4, b5⟩ := H.out
        have b6 := hk6.at b5 (by simp)
        have g0 : w6.cell? ⟨w2.heap.size, 0, none⟩ = some (.int .i64 7) := by rw [cell_at b6]; rfl
        have g1 : w6.cell? ⟨w2.heap.size, 1, none⟩ = some (.int .i64 0) := by rw [cell_at b6]; rfl
        have g2 : w6.cell? ⟨w2.heap.size, 2, none⟩ = some (.slice none 0 0) := by rw [cell_at b6]; rfl
        have g3 : w6.cell? ⟨w2.heap.size, 3, none⟩ = some (.string ⟨#[]⟩) := by rw [cell_at b6]; rfl
        have g4 : w6.cell? ⟨w2.heap.size, 4, none⟩ = some (.slice none 0 0) := by rw [cell_at b6]; rfl
        have q1 := free_at b6 1
        have q2 := free_at b6 2
        have q3 := free_at b6 3
        have q4 := free_at b6 4
        obtain ⟨w7, hw7⟩ : ∃ w7, w7 = ((w6.setCell ⟨w2.heap.size, 1, none⟩ (.int .i64 (at_ : Int))).setCell ⟨w2.heap.size, 2, none⟩ (.slice none 0 0)).setCell ⟨w2.heap.size, 3, none⟩ (.string ⟨#[]⟩) := ⟨_, rfl⟩
        have k7 : Kept [w2.heap.size] w6 w7 := by rw [hw7]; exact (((Kept.refl _ _).setCell (.inl (by simp)) _).setCell (.inl (by simp)) _).setCell (.inl (by simp)) _
        have b7 : w7.heap[w2.heap.size]? = some (.cells #[.int .i64 7, .int .i64 (at_ : Int), .slice none 0 0, .string ⟨#[]⟩, .slice none 0 0] 28 (0, 0)) := by rw [hw7]; exact block_setCell (block_setCell (block_setCell b6 1 _) 2 _) 3 _
        have x7 := k7.at (hk6.at ((Kept.setCell (Kept.refl [w2.heap.size] w4) (p := ⟨w2.heap.size, 0, none⟩) (.inl (by simp)) (.int .i64 7)).at hx4 (by simpa using hne)) (by simp)) (by simpa using hne)
        have CT := hide (xtrail_nil w0.heap.size 16 at_ _ w7 x7)
        have HW7 := hide hw7.symm
        have HKall : Hid (Kept [] w w7) := by
          have a1 : Kept [] w w4 := (((HK0.out.trans HN2.out).trans HK3.out)).next hk4 (by simp; have := HZ.out; omega)
          have a2 : Kept [] w (w4.setCell ⟨w2.heap.size, 0, none⟩ (.int .i64 7)) := a1.setCell (.inr (by have := HZ.out; simp; omega)) _
          exact (a2.trans hk6).next k7 (by simp; have := HZ.out; omega)
        have HB7 := hide b7
        have hwr : w.heap.size ≠ w2.heap.size := by have := HZ.out; omega
        have r7 := k7.at (hk6.at ((Kept.setCell (Kept.refl [w2.heap.size] w4) (p := ⟨w2.heap.size, 0, none⟩) (.inl (by simp)) (.int .i64 7)).at (hk4.at (HK3.out.at (HN2.out.at HR.out (by simp)) (by simp)) (by simp; have := HZ.out; omega)) (by simpa using hwr)) (by simp)) (by simpa using hwr)
        have HR7 := hide r7
        clear hst hx4 hk4 b5 b6 hk6 hw7 k7 b7 x7 r7 H CS CC
        go_wp2_with fail
        refine (xlist _ _).mono ?_
        rintro e w8 ⟨rfl, rfl⟩
        go_wp2_with fail
        refine (xtext _ _).mono ?_
        rintro e w8 ⟨rfl, rfl⟩
        go_wp2_with fail
        rw [HW7.out]
        refine CT.out.mono ?_
        rintro e w9 ⟨rfl, rfl⟩
        have b9 := HB7.out
        have r9 := HR7.out
        have y0 : w9.cell? ⟨w2.heap.size, 0, none⟩ = some (.int .i64 7) := by rw [cell_at b9]; rfl
        have y1 : w9.cell? ⟨w2.heap.size, 1, none⟩ = some (.int .i64 (at_ : Int)) := by rw [cell_at b9]; rfl
        have y2 : w9.cell? ⟨w2.heap.size, 2, none⟩ = some (.slice none 0 0) := by rw [cell_at b9]; rfl
        have y3 : w9.cell? ⟨w2.heap.size, 3, none⟩ = some (.string ⟨#[]⟩) := by rw [cell_at b9]; rfl
        have y4 : w9.cell? ⟨w2.heap.size, 4, none⟩ = some (.slice none 0 0) := by rw [cell_at b9]; rfl
        have y5 := free_at b9 4
        have u0 : w9.cell? ⟨w.heap.size, 0, none⟩ = some (.int .i64 0) := by rw [cell_at r9]; rfl
        have u1 : w9.cell? ⟨w.heap.size, 1, none⟩ = some (.int .i64 0) := by rw [cell_at r9]; rfl
        have u2 : w9.cell? ⟨w.heap.size, 2, none⟩ = some (.slice none 0 0) := by rw [cell_at r9]; rfl
        have u3 : w9.cell? ⟨w.heap.size, 3, none⟩ = some (.string ⟨#[]⟩) := by rw [cell_at r9]; rfl
        have u4 : w9.cell? ⟨w.heap.size, 4, none⟩ = some (.slice none 0 0) := by rw [cell_at r9]; rfl
        have j0 := free_at r9 0
        have j1 := free_at r9 1
        have j2 := free_at r9 2
        have j3 := free_at r9 3
        have j4 := free_at r9 4
        have hwr2 : w2.heap.size ≠ w.heap.size := fun h => hwr h.symm
        have hle2 : w.heap.size ≤ w2.heap.size := by have := HZ.out; omega
        clear b9 r9
        go_wp2
        refine bodyPost_ret (v := .tuple #[.agg #[.int .i64 7, .int .i64 (at_ : Int), .slice none 0 0, .string ⟨#[]⟩, .slice none 0 0], .bool true]) ?_ rfl ⟨av, b, ?_⟩
        · simp [results, Tryz.results6, asAddr, Result.andThen, go_sem, u0, u1, u2, u3, u4, hwr, hwr2]
        · rw [hO]
          have m := HKall.out
          exact ⟨rfl, (((((m.setCell (.inr hle2) _).setCell (.inr (Nat.le_refl _)) _).setCell (.inr (Nat.le_refl _)) _).setCell (.inr (Nat.le_refl _)) _).setCell (.inr (Nat.le_refl _)) _).setCell (.inr (Nat.le_refl _)) _⟩
      | done L =>
        rw [hO] at hpost
        obtain ⟨rfl, v4, hx4, ow4, hk4⟩ := hpost
        have hLl : L.length ≤ 4096 := by
          have h7 := readGo_len hO
          simp only [List.length_nil, Nat.zero_add] at h7
          have h8 : (csOf s).size ≤ 1024 := by rw [csOf_size]; have := ats_len s s.size; omega
          have h9 : (rcOf s 16 av b).cs.size = (csOf s).size := rfl
          omega
        have b4 := hk4.at HB3.out (by simp; omega)
        have f0 := free_at b4 0
        have d0 : w4.cell? ⟨w2.heap.size, 0, none⟩ = some (.int .i64 0) := by rw [cell_at b4]; rfl
        have k5 : Kept [w2.heap.size] w4 (w4.setCell ⟨w2.heap.size, 0, none⟩ (.int .i64 0)) := (Kept.refl _ _).setCell (.inl (by simp)) _
        have b5 := block_setCell b4 0 (.int .i64 0)
        have CS := hide (pstop_done w0.heap.size 16 s.size v4 _ (k5.at hx4 (by simpa using hne)))
        have ow5 := k5.ownsRow ow4 (fun x hx => by have := (ow4.lt x hx).1; simp at this ⊢; omega)
        have H := hide (And.intro hx4 (And.intro hk4 (And.intro b5 ow5)))
        clear hx4 hk4 b4 b5 k5 ow4 ow5
        go_wp2_with fail
        refine CS.out.mono ?_
        rintro e w6 ⟨rfl, hk6⟩
        obtain ⟨hx4, hk4, b5, ow5⟩ := H.out
        have b6 := hk6.at b5 (by simp)
        have ow6 := hk6.ownsRow ow5 (fun _ _ => by simp)
        have g0 : w6.cell? ⟨w2.heap.size, 0, none⟩ = some (.int .i64 0) := by rw [cell_at b6]; rfl
        have g1 : w6.cell? ⟨w2.heap.size, 1, none⟩ = some (.int .i64 0) := by rw [cell_at b6]; rfl
        have g2 : w6.cell? ⟨w2.heap.size, 2, none⟩ = some (.slice none 0 0) := by rw [cell_at b6]; rfl
        have g3 : w6.cell? ⟨w2.heap.size, 3, none⟩ = some (.string ⟨#[]⟩) := by rw [cell_at b6]; rfl
        have g4 : w6.cell? ⟨w2.heap.size, 4, none⟩ = some (.slice none 0 0) := by rw [cell_at b6]; rfl
        have q1 := free_at b6 1
        have q2 := free_at b6 2
        have q3 := free_at b6 3
        have q4 := free_at b6 4
        obtain ⟨w7, hw7⟩ : ∃ w7, w7 = ((w6.setCell ⟨w2.heap.size, 1, none⟩ (.int .i64 (s.size : Int))).setCell ⟨w2.heap.size, 2, none⟩ (.slice none 0 0)).setCell ⟨w2.heap.size, 3, none⟩ (.string ⟨#[]⟩) := ⟨_, rfl⟩
        have k7 : Kept [w2.heap.size] w6 w7 := by rw [hw7]; exact (((Kept.refl _ _).setCell (.inl (by simp)) _).setCell (.inl (by simp)) _).setCell (.inl (by simp)) _
        have b7 : w7.heap[w2.heap.size]? = some (.cells #[.int .i64 0, .int .i64 (s.size : Int), .slice none 0 0, .string ⟨#[]⟩, .slice none 0 0] 28 (0, 0)) := by rw [hw7]; exact block_setCell (block_setCell (block_setCell b6 1 _) 2 _) 3 _
        have x7 := k7.at (hk6.at ((Kept.setCell (Kept.refl [w2.heap.size] w4) (p := ⟨w2.heap.size, 0, none⟩) (.inl (by simp)) (.int .i64 0)).at hx4 (by simpa using hne)) (by simp)) (by simpa using hne)
        have ow7 := k7.ownsRow ow6 (fun x hx => by have := (ow6.lt x hx).1; simp at this ⊢; omega)
        have CT := hide (xtrail_done w0.heap.size 16 s.size _ _ _ L w7 x7 ow7 hLl)
        have HW7 := hide hw7.symm
        have HKall : Hid (Kept [] w w7) := by
          have a1 : Kept [] w w4 := (((HK0.out.trans HN2.out).trans HK3.out)).next hk4 (by simp; have := HZ.out; omega)
          have a2 : Kept [] w (w4.setCell ⟨w2.heap.size, 0, none⟩ (.int .i64 0)) := a1.setCell (.inr (by have := HZ.out; simp; omega)) _
          exact (a2.trans hk6).next k7 (by simp; have := HZ.out; omega)
        have HB7 := hide b7
        have hwr : w.heap.size ≠ w2.heap.size := by have := HZ.out; omega
        have r7 := k7.at (hk6.at ((Kept.setCell (Kept.refl [w2.heap.size] w4) (p := ⟨w2.heap.size, 0, none⟩) (.inl (by simp)) (.int .i64 0)).at (hk4.at (HK3.out.at (HN2.out.at HR.out (by simp)) (by simp)) (by simp; have := HZ.out; omega)) (by simpa using hwr)) (by simp)) (by simpa using hwr)
        have HR7 := hide r7
        clear hx4 hk4 b5 b6 hk6 hw7 k7 b7 x7 r7 H CS CC ow5 ow6 ow7
        go_wp2_with fail
        refine (xlist _ _).mono ?_
        rintro e w8 ⟨rfl, rfl⟩
        go_wp2_with fail
        refine (xtext _ _).mono ?_
        rintro e w8 ⟨rfl, rfl⟩
        go_wp2_with fail
        rw [HW7.out]
        refine CT.out.mono ?_
        rintro e w9 ⟨v9, rfl, ow9, hk9⟩
        have b9 := hk9.at HB7.out (by simp)
        have r9 := hk9.at HR7.out (by simp)
        have hsz7 := lt_of_block HB7.out
        obtain ⟨a9, c9, hv9⟩ := owns_shape ow9
        subst hv9
        have y0 : w9.cell? ⟨w2.heap.size, 0, none⟩ = some (.int .i64 0) := by rw [cell_at b9]; rfl
        have y1 : w9.cell? ⟨w2.heap.size, 1, none⟩ = some (.int .i64 (s.size : Int)) := by rw [cell_at b9]; rfl
        have y2 : w9.cell? ⟨w2.heap.size, 2, none⟩ = some (.slice none 0 0) := by rw [cell_at b9]; rfl
        have y3 : w9.cell? ⟨w2.heap.size, 3, none⟩ = some (.string ⟨#[]⟩) := by rw [cell_at b9]; rfl
        have y4 : w9.cell? ⟨w2.heap.size, 4, none⟩ = some (.slice none 0 0) := by rw [cell_at b9]; rfl
        have y5 := free_at b9 4
        have u0 : w9.cell? ⟨w.heap.size, 0, none⟩ = some (.int .i64 0) := by rw [cell_at r9]; rfl
        have u1 : w9.cell? ⟨w.heap.size, 1, none⟩ = some (.int .i64 0) := by rw [cell_at r9]; rfl
        have u2 : w9.cell? ⟨w.heap.size, 2, none⟩ = some (.slice none 0 0) := by rw [cell_at r9]; rfl
        have u3 : w9.cell? ⟨w.heap.size, 3, none⟩ = some (.string ⟨#[]⟩) := by rw [cell_at r9]; rfl
        have u4 : w9.cell? ⟨w.heap.size, 4, none⟩ = some (.slice none 0 0) := by rw [cell_at r9]; rfl
        have j0 := free_at r9 0
        have j1 := free_at r9 1
        have j2 := free_at r9 2
        have j3 := free_at r9 3
        have j4 := free_at r9 4
        have hwr2 : w2.heap.size ≠ w.heap.size := fun h => hwr h.symm
        have hle2 : w.heap.size ≤ w2.heap.size := by have := HZ.out; omega
        have HO9 := hide ow9
        have HK9 := hide (HKall.out.trans hk9)
        have hn1 : (Value.slice a9 L.length c9).ownBlock ≠ some w2.heap.size := fun h => by have := (ow9.lt _ h).1; omega
        have hn2 : (Value.slice a9 L.length c9).ownBlock ≠ some w.heap.size := fun h => by have := (ow9.lt _ h).1; omega
        have hle7 : w.heap.size ≤ w7.heap.size := HKall.out.size
        clear b9 r9 ow9 hk9
        go_wp2
        refine bodyPost_ret (v := .tuple #[.agg #[.int .i64 0, .int .i64 (s.size : Int), .slice none 0 0, .string ⟨#[]⟩, .slice a9 L.length c9], .bool true]) ?_ rfl ⟨av, b, ?_⟩
        · simp [results, Tryz.results6, asAddr, Result.andThen, go_sem, u0, u1, u2, u3, u4, hwr, hwr2]
        · rw [hO]
          have m := HK9.out
          exact ⟨_, rfl, ownsRow_base (ownsRow_setCell_other (ownsRow_setCell_other (ownsRow_setCell_other (ownsRow_setCell_other (ownsRow_setCell_other (ownsRow_setCell_other HO9.out hn1 _) hn2 _) hn2 _) hn2 _) hn2 _) hn2 _) hle7, (((((m.setCell (.inr hle2) _).setCell (.inr (Nat.le_refl _)) _).setCell (.inr (Nat.le_refl _)) _).setCell (.inr (Nat.le_refl _)) _).setCell (.inr (Nat.le_refl _)) _).setCell (.inr (Nat.le_refl _)) _⟩
    · go_wp2_with fail
      refine HCW.out.mono ?_
      rintro e w2 ⟨rfl, hpw⟩
      rw [E1.out] at hpw
      have HPW := hide hpw
      clear hpw HCW
      go_wp2_with fail
      have hpw := HPW.out
      clear HPW h0 hz hc
      obtain ⟨tv, hx2, ow2, hk2, _⟩ := hpw
      have HX2 := hide hx2
      have HOW2 := hide ow2
      have HK2 := hide hk2
      clear hx2 ow2 hk2
      have hn2 : Kept [] w0 w2 := HK1.out.next (S' := w0.heap.size :: (Value.slice none 0 0).ownBlock.toList) HK2.out (by simp [Value.ownBlock])
      have HN2 := hide hn2
      have k3 : Kept [] w2 (w2.alloc (.cells #[.int .i64 0, .int .i64 0, .slice none 0 0, .string ⟨#[]⟩, .slice none 0 0] 28)) := (Kept.refl _ _).alloc _
      have HK3 := hide k3
      have HB3 := hide (heap_alloc_at w2 (.cells #[.int .i64 0, .int .i64 0, .slice none 0 0, .string ⟨#[]⟩, .slice none 0 0] 28))
      have CC := hide (pclose w0.heap.size 16 tv s w1.heap.size _ (k3.at HX2.out (by simp)) (k3.ownsRow HOW2.out (fun _ _ => by simp)) hs ((HG.out.kept hn2 (by simp)).kept k3 (by simp)) ((HE.out.kept hn2 (by simp)).kept k3 (by simp)) (by have := HZ.out; omega))
      clear hn2 k3
      go_wp2_with fail
      refine CC.out.mono ?_
      rintro e w4 ⟨av, b, hpost⟩
      have hsz2 : w0.heap.size < w2.heap.size := lt_of_block HX2.out
      have hne : w0.heap.size ≠ w2.heap.size := by omega
      cases hO : readGo (rcOf s 16 av b) (lookL KV) 8 (cutOf s) [] 0 with
      | stop at_ =>
        rw [hO] at hpost
        obtain ⟨k, rfl, hst, hx4, hk4⟩ := hpost
        have b4 := hk4.at HB3.out (by simp; omega)
        have f0 := free_at b4 0
        have f1 := free_at b4 1
        have f2 := free_at b4 2
        have f3 := free_at b4 3
        have f4 := free_at b4 4
        have d0 : w4.cell? ⟨w2.heap.size, 0, none⟩ = some (.int .i64 0) := by rw [cell_at b4]; rfl
        have k5 : Kept [w2.heap.size] w4 (w4.setCell ⟨w2.heap.size, 0, none⟩ (.int .i64 7)) := (Kept.refl _ _).setCell (.inl (by simp)) _
        have b5 := block_setCell b4 0 (.int .i64 7)
        have hkne : k ≠ w2.heap.size := by rintro rfl; unfold stopAt at hst; rw [b4] at hst; simp at hst
        have CS := hide (pstop_stop w0.heap.size k 16 at_ _ _ (k5.at hx4 (by simpa using hne)) (k5.at hst (by simpa using hkne)) (((((HE.out.kept HN2.out (by simp)).kept HK3.out (by simp)).kept hk4 (by simp; have := HZ.out; omega)).kept k5 (by simp; omega))))
        have H := hide (And.intro hst (And.intro hx4 (And.intro hk4 b5)))
        clear hst hx4 hk4 b4 b5 k5
        go_wp2_with fail
        refine CS.out.mono ?_
        rintro e w6 ⟨rfl, hk6⟩
        obtain ⟨hst, hx4, hk4, b5⟩ := H.out
        have b6 := hk6.at b5 (by simp)
        have g0 : w6.cell? ⟨w2.heap.size, 0, none⟩ = some (.int .i64 7) := by rw [cell_at b6]; rfl
        have g1 : w6.cell? ⟨w2.heap.size, 1, none⟩ = some (.int .i64 0) := by rw [cell_at b6]; rfl
        have g2 : w6.cell? ⟨w2.heap.size, 2, none⟩ = some (.slice none 0 0) := by rw [cell_at b6]; rfl
        have g3 : w6.cell? ⟨w2.heap.size, 3, none⟩ = some (.string ⟨#[]⟩) := by rw [cell_at b6]; rfl
        have g4 : w6.cell? ⟨w2.heap.size, 4, none⟩ = some (.slice none 0 0) := by rw [cell_at b6]; rfl
        have q1 := free_at b6 1
        have q2 := free_at b6 2
        have q3 := free_at b6 3
        have q4 := free_at b6 4
        obtain ⟨w7, hw7⟩ : ∃ w7, w7 = ((w6.setCell ⟨w2.heap.size, 1, none⟩ (.int .i64 (at_ : Int))).setCell ⟨w2.heap.size, 2, none⟩ (.slice none 0 0)).setCell ⟨w2.heap.size, 3, none⟩ (.string ⟨#[]⟩) := ⟨_, rfl⟩
        have k7 : Kept [w2.heap.size] w6 w7 := by rw [hw7]; exact (((Kept.refl _ _).setCell (.inl (by simp)) _).setCell (.inl (by simp)) _).setCell (.inl (by simp)) _
        have b7 : w7.heap[w2.heap.size]? = some (.cells #[.int .i64 7, .int .i64 (at_ : Int), .slice none 0 0, .string ⟨#[]⟩, .slice none 0 0] 28 (0, 0)) := by rw [hw7]; exact block_setCell (block_setCell (block_setCell b6 1 _) 2 _) 3 _
        have x7 := k7.at (hk6.at ((Kept.setCell (Kept.refl [w2.heap.size] w4) (p := ⟨w2.heap.size, 0, none⟩) (.inl (by simp)) (.int .i64 7)).at hx4 (by simpa using hne)) (by simp)) (by simpa using hne)
        have CT := hide (xtrail_nil w0.heap.size 16 at_ _ w7 x7)
        have HW7 := hide hw7.symm
        have HKall : Hid (Kept [] w w7) := by
          have a1 : Kept [] w w4 := (((HK0.out.trans HN2.out).trans HK3.out)).next hk4 (by simp; have := HZ.out; omega)
          have a2 : Kept [] w (w4.setCell ⟨w2.heap.size, 0, none⟩ (.int .i64 7)) := a1.setCell (.inr (by have := HZ.out; simp; omega)) _
          exact (a2.trans hk6).next k7 (by simp; have := HZ.out; omega)
        have HB7 := hide b7
        have hwr : w.heap.size ≠ w2.heap.size := by have := HZ.out; omega
        have r7 := k7.at (hk6.at ((Kept.setCell (Kept.refl [w2.heap.size] w4) (p := ⟨w2.heap.size, 0, none⟩) (.inl (by simp)) (.int .i64 7)).at (hk4.at (HK3.out.at (HN2.out.at HR.out (by simp)) (by simp)) (by simp; have := HZ.out; omega)) (by simpa using hwr)) (by simp)) (by simpa using hwr)
        have HR7 := hide r7
        clear hst hx4 hk4 b5 b6 hk6 hw7 k7 b7 x7 r7 H CS CC
        go_wp2_with fail
        refine (xlist _ _).mono ?_
        rintro e w8 ⟨rfl, rfl⟩
        go_wp2_with fail
        refine (xtext _ _).mono ?_
        rintro e w8 ⟨rfl, rfl⟩
        go_wp2_with fail
        rw [HW7.out]
        refine CT.out.mono ?_
        rintro e w9 ⟨rfl, rfl⟩
        have b9 := HB7.out
        have r9 := HR7.out
        have y0 : w9.cell? ⟨w2.heap.size, 0, none⟩ = some (.int .i64 7) := by rw [cell_at b9]; rfl
        have y1 : w9.cell? ⟨w2.heap.size, 1, none⟩ = some (.int .i64 (at_ : Int)) := by rw [cell_at b9]; rfl
        have y2 : w9.cell? ⟨w2.heap.size, 2, none⟩ = some (.slice none 0 0) := by rw [cell_at b9]; rfl
        have y3 : w9.cell? ⟨w2.heap.size, 3, none⟩ = some (.string ⟨#[]⟩) := by rw [cell_at b9]; rfl
        have y4 : w9.cell? ⟨w2.heap.size, 4, none⟩ = some (.slice none 0 0) := by rw [cell_at b9]; rfl
        have y5 := free_at b9 4
        have u0 : w9.cell? ⟨w.heap.size, 0, none⟩ = some (.int .i64 0) := by rw [cell_at r9]; rfl
        have u1 : w9.cell? ⟨w.heap.size, 1, none⟩ = some (.int .i64 0) := by rw [cell_at r9]; rfl
        have u2 : w9.cell? ⟨w.heap.size, 2, none⟩ = some (.slice none 0 0) := by rw [cell_at r9]; rfl
        have u3 : w9.cell? ⟨w.heap.size, 3, none⟩ = some (.string ⟨#[]⟩) := by rw [cell_at r9]; rfl
        have u4 : w9.cell? ⟨w.heap.size, 4, none⟩ = some (.slice none 0 0) := by rw [cell_at r9]; rfl
        have j0 := free_at r9 0
        have j1 := free_at r9 1
        have j2 := free_at r9 2
        have j3 := free_at r9 3
        have j4 := free_at r9 4
        have hwr2 : w2.heap.size ≠ w.heap.size := fun h => hwr h.symm
        have hle2 : w.heap.size ≤ w2.heap.size := by have := HZ.out; omega
        clear b9 r9
        go_wp2
        refine bodyPost_ret (v := .tuple #[.agg #[.int .i64 7, .int .i64 (at_ : Int), .slice none 0 0, .string ⟨#[]⟩, .slice none 0 0], .bool true]) ?_ rfl ⟨av, b, ?_⟩
        · simp [results, Tryz.results6, asAddr, Result.andThen, go_sem, u0, u1, u2, u3, u4, hwr, hwr2]
        · rw [hO]
          have m := HKall.out
          exact ⟨rfl, (((((m.setCell (.inr hle2) _).setCell (.inr (Nat.le_refl _)) _).setCell (.inr (Nat.le_refl _)) _).setCell (.inr (Nat.le_refl _)) _).setCell (.inr (Nat.le_refl _)) _).setCell (.inr (Nat.le_refl _)) _⟩
      | done L =>
        rw [hO] at hpost
        obtain ⟨rfl, v4, hx4, ow4, hk4⟩ := hpost
        have hLl : L.length ≤ 4096 := by
          have h7 := readGo_len hO
          simp only [List.length_nil, Nat.zero_add] at h7
          have h8 : (csOf s).size ≤ 1024 := by rw [csOf_size]; have := ats_len s s.size; omega
          have h9 : (rcOf s 16 av b).cs.size = (csOf s).size := rfl
          omega
        have b4 := hk4.at HB3.out (by simp; omega)
        have f0 := free_at b4 0
        have d0 : w4.cell? ⟨w2.heap.size, 0, none⟩ = some (.int .i64 0) := by rw [cell_at b4]; rfl
        have k5 : Kept [w2.heap.size] w4 (w4.setCell ⟨w2.heap.size, 0, none⟩ (.int .i64 0)) := (Kept.refl _ _).setCell (.inl (by simp)) _
        have b5 := block_setCell b4 0 (.int .i64 0)
        have CS := hide (pstop_done w0.heap.size 16 s.size v4 _ (k5.at hx4 (by simpa using hne)))
        have ow5 := k5.ownsRow ow4 (fun x hx => by have := (ow4.lt x hx).1; simp at this ⊢; omega)
        have H := hide (And.intro hx4 (And.intro hk4 (And.intro b5 ow5)))
        clear hx4 hk4 b4 b5 k5 ow4 ow5
        go_wp2_with fail
        refine CS.out.mono ?_
        rintro e w6 ⟨rfl, hk6⟩
        obtain ⟨hx4, hk4, b5, ow5⟩ := H.out
        have b6 := hk6.at b5 (by simp)
        have ow6 := hk6.ownsRow ow5 (fun _ _ => by simp)
        have g0 : w6.cell? ⟨w2.heap.size, 0, none⟩ = some (.int .i64 0) := by rw [cell_at b6]; rfl
        have g1 : w6.cell? ⟨w2.heap.size, 1, none⟩ = some (.int .i64 0) := by rw [cell_at b6]; rfl
        have g2 : w6.cell? ⟨w2.heap.size, 2, none⟩ = some (.slice none 0 0) := by rw [cell_at b6]; rfl
        have g3 : w6.cell? ⟨w2.heap.size, 3, none⟩ = some (.string ⟨#[]⟩) := by rw [cell_at b6]; rfl
        have g4 : w6.cell? ⟨w2.heap.size, 4, none⟩ = some (.slice none 0 0) := by rw [cell_at b6]; rfl
        have q1 := free_at b6 1
        have q2 := free_at b6 2
        have q3 := free_at b6 3
        have q4 := free_at b6 4
        obtain ⟨w7, hw7⟩ : ∃ w7, w7 = ((w6.setCell ⟨w2.heap.size, 1, none⟩ (.int .i64 (s.size : Int))).setCell ⟨w2.heap.size, 2, none⟩ (.slice none 0 0)).setCell ⟨w2.heap.size, 3, none⟩ (.string ⟨#[]⟩) := ⟨_, rfl⟩
        have k7 : Kept [w2.heap.size] w6 w7 := by rw [hw7]; exact (((Kept.refl _ _).setCell (.inl (by simp)) _).setCell (.inl (by simp)) _).setCell (.inl (by simp)) _
        have b7 : w7.heap[w2.heap.size]? = some (.cells #[.int .i64 0, .int .i64 (s.size : Int), .slice none 0 0, .string ⟨#[]⟩, .slice none 0 0] 28 (0, 0)) := by rw [hw7]; exact block_setCell (block_setCell (block_setCell b6 1 _) 2 _) 3 _
        have x7 := k7.at (hk6.at ((Kept.setCell (Kept.refl [w2.heap.size] w4) (p := ⟨w2.heap.size, 0, none⟩) (.inl (by simp)) (.int .i64 0)).at hx4 (by simpa using hne)) (by simp)) (by simpa using hne)
        have ow7 := k7.ownsRow ow6 (fun x hx => by have := (ow6.lt x hx).1; simp at this ⊢; omega)
        have CT := hide (xtrail_done w0.heap.size 16 s.size _ _ _ L w7 x7 ow7 hLl)
        have HW7 := hide hw7.symm
        have HKall : Hid (Kept [] w w7) := by
          have a1 : Kept [] w w4 := (((HK0.out.trans HN2.out).trans HK3.out)).next hk4 (by simp; have := HZ.out; omega)
          have a2 : Kept [] w (w4.setCell ⟨w2.heap.size, 0, none⟩ (.int .i64 0)) := a1.setCell (.inr (by have := HZ.out; simp; omega)) _
          exact (a2.trans hk6).next k7 (by simp; have := HZ.out; omega)
        have HB7 := hide b7
        have hwr : w.heap.size ≠ w2.heap.size := by have := HZ.out; omega
        have r7 := k7.at (hk6.at ((Kept.setCell (Kept.refl [w2.heap.size] w4) (p := ⟨w2.heap.size, 0, none⟩) (.inl (by simp)) (.int .i64 0)).at (hk4.at (HK3.out.at (HN2.out.at HR.out (by simp)) (by simp)) (by simp; have := HZ.out; omega)) (by simpa using hwr)) (by simp)) (by simpa using hwr)
        have HR7 := hide r7
        clear hx4 hk4 b5 b6 hk6 hw7 k7 b7 x7 r7 H CS CC ow5 ow6 ow7
        go_wp2_with fail
        refine (xlist _ _).mono ?_
        rintro e w8 ⟨rfl, rfl⟩
        go_wp2_with fail
        refine (xtext _ _).mono ?_
        rintro e w8 ⟨rfl, rfl⟩
        go_wp2_with fail
        rw [HW7.out]
        refine CT.out.mono ?_
        rintro e w9 ⟨v9, rfl, ow9, hk9⟩
        have b9 := hk9.at HB7.out (by simp)
        have r9 := hk9.at HR7.out (by simp)
        have hsz7 := lt_of_block HB7.out
        obtain ⟨a9, c9, hv9⟩ := owns_shape ow9
        subst hv9
        have y0 : w9.cell? ⟨w2.heap.size, 0, none⟩ = some (.int .i64 0) := by rw [cell_at b9]; rfl
        have y1 : w9.cell? ⟨w2.heap.size, 1, none⟩ = some (.int .i64 (s.size : Int)) := by rw [cell_at b9]; rfl
        have y2 : w9.cell? ⟨w2.heap.size, 2, none⟩ = some (.slice none 0 0) := by rw [cell_at b9]; rfl
        have y3 : w9.cell? ⟨w2.heap.size, 3, none⟩ = some (.string ⟨#[]⟩) := by rw [cell_at b9]; rfl
        have y4 : w9.cell? ⟨w2.heap.size, 4, none⟩ = some (.slice none 0 0) := by rw [cell_at b9]; rfl
        have y5 := free_at b9 4
        have u0 : w9.cell? ⟨w.heap.size, 0, none⟩ = some (.int .i64 0) := by rw [cell_at r9]; rfl
        have u1 : w9.cell? ⟨w.heap.size, 1, none⟩ = some (.int .i64 0) := by rw [cell_at r9]; rfl
        have u2 : w9.cell? ⟨w.heap.size, 2, none⟩ = some (.slice none 0 0) := by rw [cell_at r9]; rfl
        have u3 : w9.cell? ⟨w.heap.size, 3, none⟩ = some (.string ⟨#[]⟩) := by rw [cell_at r9]; rfl
        have u4 : w9.cell? ⟨w.heap.size, 4, none⟩ = some (.slice none 0 0) := by rw [cell_at r9]; rfl
        have j0 := free_at r9 0
        have j1 := free_at r9 1
        have j2 := free_at r9 2
        have j3 := free_at r9 3
        have j4 := free_at r9 4
        have hwr2 : w2.heap.size ≠ w.heap.size := fun h => hwr h.symm
        have hle2 : w.heap.size ≤ w2.heap.size := by have := HZ.out; omega
        have HO9 := hide ow9
        have HK9 := hide (HKall.out.trans hk9)
        have hn1 : (Value.slice a9 L.length c9).ownBlock ≠ some w2.heap.size := fun h => by have := (ow9.lt _ h).1; omega
        have hn2 : (Value.slice a9 L.length c9).ownBlock ≠ some w.heap.size := fun h => by have := (ow9.lt _ h).1; omega
        have hle7 : w.heap.size ≤ w7.heap.size := HKall.out.size
        clear b9 r9 ow9 hk9
        go_wp2
        refine bodyPost_ret (v := .tuple #[.agg #[.int .i64 0, .int .i64 (s.size : Int), .slice none 0 0, .string ⟨#[]⟩, .slice a9 L.length c9], .bool true]) ?_ rfl ⟨av, b, ?_⟩
        · simp [results, Tryz.results6, asAddr, Result.andThen, go_sem, u0, u1, u2, u3, u4, hwr, hwr2]
        · rw [hO]
          have m := HK9.out
          exact ⟨_, rfl, ownsRow_base (ownsRow_setCell_other (ownsRow_setCell_other (ownsRow_setCell_other (ownsRow_setCell_other (ownsRow_setCell_other (ownsRow_setCell_other HO9.out hn1 _) hn2 _) hn2 _) hn2 _) hn2 _) hn2 _) hle7, (((((m.setCell (.inr hle2) _).setCell (.inr (Nat.le_refl _)) _).setCell (.inr (Nat.le_refl _)) _).setCell (.inr (Nat.le_refl _)) _).setCell (.inr (Nat.le_refl _)) _).setCell (.inr (Nat.le_refl _)) _⟩
  · go_wp2_with fail
    go_loopw [14, 15] (fun v14 v15 wr => ∃ (k i : Nat) (tv : Value), v14 = .int .i64 k ∧ v15 = .int .i64 i ∧ k ≤ i ∧ i ≤ s.size ∧ Piece w1 w0.heap.size s i tv wr) (fun _ v15 _ => s.size - (intOf v15).toNat)
    case atStart => exact ⟨0, 0, _, rfl, rfl, Nat.le_refl _, Nat.zero_le _, HP1.out⟩
    case round =>
      obtain ⟨k, i, tv, rfl, rfl, hki, hi, hP⟩ := hrel
      have HP := hide hP
      clear hP
      by_cases hlt : i < s.size
      · have hk3 : k % 3 < 3 := Nat.mod_lt _ (by omega)
        obtain ⟨c, hc39, hc⟩ := (HC1.out.kept HP.out.kept (by simp; have := HZ.out; omega)).at_ (k % 3) hk3
        have hrem : (k : Int).tmod 3 = ((k % 3 : Nat) : Int) := by
          rw [Int.tmod_eq_emod_of_nonneg (by omega)]; omega
        have CW : ∀ n, 1 ≤ n → i + n ≤ s.size → Calls Tryz.prog 11 #[.pointer (some ⟨w0.heap.size, 0, none⟩), .string (s.extract i (i + n))] wr fun e w' => e = .returned (.tuple #[.int .i64 (n : Int), .int .i64 0, .bool true]) ∧ ∃ tv', Piece w1 w0.heap.size s (i + n) tv' w' := by
          intro n hn1 hn2
          have hez : (s.extract i (i + n)).size = n := by simp; omega
          have hz0 : (s.extract 0 i).size = i := by simp; omega
          refine (pwrite_ok w0.heap.size 16 tv (s.extract 0 i) (s.extract i (i + n)) w1.heap.size wr HP.out.blk HP.out.own (by omega) HP.out.kept.size).mono ?_
          rintro e w' ⟨rfl, tv', h1, h2, h3, h4⟩
          rw [extract_more s i n hn2] at h2
          refine ⟨by rw [hez], tv', h1, h2, HP.out.kept.next h3 (fun x hx => ?_)⟩
          rcases List.mem_cons.1 hx with rfl | hx
          · exact .inl (by simp)
          · exact .inr (HP.out.own.lt x (by simpa using hx)).1
        have HCW := hide CW
        clear CW
        generalize hm : k % 3 = m at *
        have Hm := hide hm
        clear hm
        rcases Nat.eq_zero_or_pos c with hc0 | hc0
        · subst hc0
          have HW2 := hide (HCW.out 1 (by omega) (by omega))
          have hlt2 : i + 1 ≤ s.size := by omega
          go_wp2_with fail
          refine HW2.out.mono ?_
          rintro e w5 ⟨rfl, tv5, hP5⟩
          have HP5 := hide hP5
          clear hP5
          go_wp2
          go_roundw
          case rel => exact ⟨k + 1, i + 1, tv5, by go_num, by go_num, by omega, by omega, HP5.out⟩
          case measure => simp [intOf]; omega
        · by_cases hbig : s.size - i < c
          · have e9 : i + (s.size - i) = s.size := by omega
            have h9 := HCW.out (s.size - i) (by omega) (by omega)
            rw [e9] at h9
            have HW2 := hide h9
            have E9 := hide e9
            clear h9 e9
            go_wp2_with fail
            refine HW2.out.mono ?_
            rintro e w5 ⟨rfl, tv5, hP5⟩
            have HP5 := hide hP5
            clear hP5
            go_wp2
            go_roundw
            case rel => exact ⟨k + 1, s.size, tv5, by go_num, by first | go_num | (congr 1; omega), by omega, Nat.le_refl _, HP5.out⟩
            case measure => simp [intOf]; omega
          · skip
            have HW2 := hide (HCW.out c (by omega) (by omega))
            have hlt2 : i + c ≤ s.size := by omega
            go_wp2_with fail
            refine HW2.out.mono ?_
            rintro e w5 ⟨rfl, tv5, hP5⟩
            have HP5 := hide hP5
            clear hP5
            go_wp2
            go_roundw
            case rel => exact ⟨k + 1, i + c, tv5, by go_num, by go_num, by omega, by omega, HP5.out⟩
            case measure => simp [intOf]; omega
      · have e : i = s.size := by omega
        subst e
        go_wp2_with fail
        obtain ⟨w2, hw2⟩ : ∃ w2, w2 = wr := ⟨_, rfl⟩
        subst hw2
        have hpw : ∃ tv, w2.heap[w0.heap.size]? = some (.cells (xcells 16 tv) 65 (0, 0)) ∧ w2.ownsRow w1.heap.size 5 1 tv s.size (bcells s) ∧ Kept (w0.heap.size :: (Value.slice none 0 0).ownBlock.toList) w1 w2 ∧ True := by
          have h1 := HP.out.own
          rw [extract_all] at h1
          exact ⟨tv, HP.out.blk, h1, HP.out.kept, trivial⟩
        obtain ⟨tv, hx2, ow2, hk2, _⟩ := hpw
        have HX2 := hide hx2
        have HOW2 := hide ow2
        have HK2 := hide hk2
        clear hx2 ow2 hk2
        have hn2 : Kept [] w0 w2 := HK1.out.next (S' := w0.heap.size :: (Value.slice none 0 0).ownBlock.toList) HK2.out (by simp [Value.ownBlock])
        have HN2 := hide hn2
        have k3 : Kept [] w2 (w2.alloc (.cells #[.int .i64 0, .int .i64 0, .slice none 0 0, .string ⟨#[]⟩, .slice none 0 0] 28)) := (Kept.refl _ _).alloc _
        have HK3 := hide k3
        have HB3 := hide (heap_alloc_at w2 (.cells #[.int .i64 0, .int .i64 0, .slice none 0 0, .string ⟨#[]⟩, .slice none 0 0] 28))
        have CC := hide (pclose w0.heap.size 16 tv s w1.heap.size _ (k3.at HX2.out (by simp)) (k3.ownsRow HOW2.out (fun _ _ => by simp)) hs ((HG.out.kept hn2 (by simp)).kept k3 (by simp)) ((HE.out.kept hn2 (by simp)).kept k3 (by simp)) (by have := HZ.out; omega))
        clear hn2 k3
        go_wp2_with fail
        refine CC.out.mono ?_
        rintro e w4 ⟨av, b, hpost⟩
        have hsz2 : w0.heap.size < w2.heap.size := lt_of_block HX2.out
        have hne : w0.heap.size ≠ w2.heap.size := by omega
        cases hO : readGo (rcOf s 16 av b) (lookL KV) 8 (cutOf s) [] 0 with
        | stop at_ =>
          rw [hO] at hpost
          obtain ⟨k, rfl, hst, hx4, hk4⟩ := hpost
          have b4 := hk4.at HB3.out (by simp; omega)
          have f0 := free_at b4 0
          have f1 := free_at b4 1
          have f2 := free_at b4 2
          have f3 := free_at b4 3
          have f4 := free_at b4 4
          have d0 : w4.cell? ⟨w2.heap.size, 0, none⟩ = some (.int .i64 0) := by rw [cell_at b4]; rfl
          have k5 : Kept [w2.heap.size] w4 (w4.setCell ⟨w2.heap.size, 0, none⟩ (.int .i64 7)) := (Kept.refl _ _).setCell (.inl (by simp)) _
          have b5 := block_setCell b4 0 (.int .i64 7)
          have hkne : k ≠ w2.heap.size := by rintro rfl; unfold stopAt at hst; rw [b4] at hst; simp at hst
          have CS := hide (pstop_stop w0.heap.size k 16 at_ _ _ (k5.at hx4 (by simpa using hne)) (k5.at hst (by simpa using hkne)) (((((HE.out.kept HN2.out (by simp)).kept HK3.out (by simp)).kept hk4 (by simp; have := HZ.out; omega)).kept k5 (by simp; omega))))
          have H := hide (And.intro hst (And.intro hx4 (And.intro hk4 b5)))
          clear hst hx4 hk4 b4 b5 k5
          go_wp2_with fail
          refine CS.out.mono ?_
          rintro e w6 ⟨rfl, hk6⟩
          obtain ⟨hst, hx4, hk4, b5⟩ := H.out
          have b6 := hk6.at b5 (by simp)
          have g0 : w6.cell? ⟨w2.heap.size, 0, none⟩ = some (.int .i64 7) := by rw [cell_at b6]; rfl
          have g1 : w6.cell? ⟨w2.heap.size, 1, none⟩ = some (.int .i64 0) := by rw [cell_at b6]; rfl
          have g2 : w6.cell? ⟨w2.heap.size, 2, none⟩ = some (.slice none 0 0) := by rw [cell_at b6]; rfl
          have g3 : w6.cell? ⟨w2.heap.size, 3, none⟩ = some (.string ⟨#[]⟩) := by rw [cell_at b6]; rfl
          have g4 : w6.cell? ⟨w2.heap.size, 4, none⟩ = some (.slice none 0 0) := by rw [cell_at b6]; rfl
          have q1 := free_at b6 1
          have q2 := free_at b6 2
          have q3 := free_at b6 3
          have q4 := free_at b6 4
          obtain ⟨w7, hw7⟩ : ∃ w7, w7 = ((w6.setCell ⟨w2.heap.size, 1, none⟩ (.int .i64 (at_ : Int))).setCell ⟨w2.heap.size, 2, none⟩ (.slice none 0 0)).setCell ⟨w2.heap.size, 3, none⟩ (.string ⟨#[]⟩) := ⟨_, rfl⟩
          have k7 : Kept [w2.heap.size] w6 w7 := by rw [hw7]; exact (((Kept.refl _ _).setCell (.inl (by simp)) _).setCell (.inl (by simp)) _).setCell (.inl (by simp)) _
          have b7 : w7.heap[w2.heap.size]? = some (.cells #[.int .i64 7, .int .i64 (at_ : Int), .slice none 0 0, .string ⟨#[]⟩, .slice none 0 0] 28 (0, 0)) := by rw [hw7]; exact block_setCell (block_setCell (block_setCell b6 1 _) 2 _) 3 _
          have x7 := k7.at (hk6.at ((Kept.setCell (Kept.refl [w2.heap.size] w4) (p := ⟨w2.heap.size, 0, none⟩) (.inl (by simp)) (.int .i64 7)).at hx4 (by simpa using hne)) (by simp)) (by simpa using hne)
          have CT := hide (xtrail_nil w0.heap.size 16 at_ _ w7 x7)
          have HW7 := hide hw7.symm
          have HKall : Hid (Kept [] w w7) := by
            have a1 : Kept [] w w4 := (((HK0.out.trans HN2.out).trans HK3.out)).next hk4 (by simp; have := HZ.out; omega)
            have a2 : Kept [] w (w4.setCell ⟨w2.heap.size, 0, none⟩ (.int .i64 7)) := a1.setCell (.inr (by have := HZ.out; simp; omega)) _
            exact (a2.trans hk6).next k7 (by simp; have := HZ.out; omega)
          have HB7 := hide b7
          have hwr : w.heap.size ≠ w2.heap.size := by have := HZ.out; omega
          have r7 := k7.at (hk6.at ((Kept.setCell (Kept.refl [w2.heap.size] w4) (p := ⟨w2.heap.size, 0, none⟩) (.inl (by simp)) (.int .i64 7)).at (hk4.at (HK3.out.at (HN2.out.at HR.out (by simp)) (by simp)) (by simp; have := HZ.out; omega)) (by simpa using hwr)) (by simp)) (by simpa using hwr)
          have HR7 := hide r7
          clear hst hx4 hk4 b5 b6 hk6 hw7 k7 b7 x7 r7 H CS CC
          go_wp2_with fail
          refine (xlist _ _).mono ?_
          rintro e w8 ⟨rfl, rfl⟩
          go_wp2_with fail
          refine (xtext _ _).mono ?_
          rintro e w8 ⟨rfl, rfl⟩
          go_wp2_with fail
          rw [HW7.out]
          refine CT.out.mono ?_
          rintro e w9 ⟨rfl, rfl⟩
          have b9 := HB7.out
          have r9 := HR7.out
          have y0 : w9.cell? ⟨w2.heap.size, 0, none⟩ = some (.int .i64 7) := by rw [cell_at b9]; rfl
          have y1 : w9.cell? ⟨w2.heap.size, 1, none⟩ = some (.int .i64 (at_ : Int)) := by rw [cell_at b9]; rfl
          have y2 : w9.cell? ⟨w2.heap.size, 2, none⟩ = some (.slice none 0 0) := by rw [cell_at b9]; rfl
          have y3 : w9.cell? ⟨w2.heap.size, 3, none⟩ = some (.string ⟨#[]⟩) := by rw [cell_at b9]; rfl
          have y4 : w9.cell? ⟨w2.heap.size, 4, none⟩ = some (.slice none 0 0) := by rw [cell_at b9]; rfl
          have y5 := free_at b9 4
          have u0 : w9.cell? ⟨w.heap.size, 0, none⟩ = some (.int .i64 0) := by rw [cell_at r9]; rfl
          have u1 : w9.cell? ⟨w.heap.size, 1, none⟩ = some (.int .i64 0) := by rw [cell_at r9]; rfl
          have u2 : w9.cell? ⟨w.heap.size, 2, none⟩ = some (.slice none 0 0) := by rw [cell_at r9]; rfl
          have u3 : w9.cell? ⟨w.heap.size, 3, none⟩ = some (.string ⟨#[]⟩) := by rw [cell_at r9]; rfl
          have u4 : w9.cell? ⟨w.heap.size, 4, none⟩ = some (.slice none 0 0) := by rw [cell_at r9]; rfl
          have j0 := free_at r9 0
          have j1 := free_at r9 1
          have j2 := free_at r9 2
          have j3 := free_at r9 3
          have j4 := free_at r9 4
          have hwr2 : w2.heap.size ≠ w.heap.size := fun h => hwr h.symm
          have hle2 : w.heap.size ≤ w2.heap.size := by have := HZ.out; omega
          clear b9 r9
          go_wp2
          refine bodyPost_ret (v := .tuple #[.agg #[.int .i64 7, .int .i64 (at_ : Int), .slice none 0 0, .string ⟨#[]⟩, .slice none 0 0], .bool true]) ?_ rfl ⟨av, b, ?_⟩
          · simp [results, Tryz.results6, asAddr, Result.andThen, go_sem, u0, u1, u2, u3, u4, hwr, hwr2]
          · rw [hO]
            have m := HKall.out
            exact ⟨rfl, (((((m.setCell (.inr hle2) _).setCell (.inr (Nat.le_refl _)) _).setCell (.inr (Nat.le_refl _)) _).setCell (.inr (Nat.le_refl _)) _).setCell (.inr (Nat.le_refl _)) _).setCell (.inr (Nat.le_refl _)) _⟩
        | done L =>
          rw [hO] at hpost
          obtain ⟨rfl, v4, hx4, ow4, hk4⟩ := hpost
          have hLl : L.length ≤ 4096 := by
            have h7 := readGo_len hO
            simp only [List.length_nil, Nat.zero_add] at h7
            have h8 : (csOf s).size ≤ 1024 := by rw [csOf_size]; have := ats_len s s.size; omega
            have h9 : (rcOf s 16 av b).cs.size = (csOf s).size := rfl
            omega
          have b4 := hk4.at HB3.out (by simp; omega)
          have f0 := free_at b4 0
          have d0 : w4.cell? ⟨w2.heap.size, 0, none⟩ = some (.int .i64 0) := by rw [cell_at b4]; rfl
          have k5 : Kept [w2.heap.size] w4 (w4.setCell ⟨w2.heap.size, 0, none⟩ (.int .i64 0)) := (Kept.refl _ _).setCell (.inl (by simp)) _
          have b5 := block_setCell b4 0 (.int .i64 0)
          have CS := hide (pstop_done w0.heap.size 16 s.size v4 _ (k5.at hx4 (by simpa using hne)))
          have ow5 := k5.ownsRow ow4 (fun x hx => by have := (ow4.lt x hx).1; simp at this ⊢; omega)
          have H := hide (And.intro hx4 (And.intro hk4 (And.intro b5 ow5)))
          clear hx4 hk4 b4 b5 k5 ow4 ow5
          go_wp2_with fail
          refine CS.out.mono ?_
          rintro e w6 ⟨rfl, hk6⟩
          obtain ⟨hx4, hk4, b5, ow5⟩ := H.out
          have b6 := hk6.at b5 (by simp)
          have ow6 := hk6.ownsRow ow5 (fun _ _ => by simp)
          have g0 : w6.cell? ⟨w2.heap.size, 0, none⟩ = some (.int .i64 0) := by rw [cell_at b6]; rfl
          have g1 : w6.cell? ⟨w2.heap.size, 1, none⟩ = some (.int .i64 0) := by rw [cell_at b6]; rfl
          have g2 : w6.cell? ⟨w2.heap.size, 2, none⟩ = some (.slice none 0 0) := by rw [cell_at b6]; rfl
          have g3 : w6.cell? ⟨w2.heap.size, 3, none⟩ = some (.string ⟨#[]⟩) := by rw [cell_at b6]; rfl
          have g4 : w6.cell? ⟨w2.heap.size, 4, none⟩ = some (.slice none 0 0) := by rw [cell_at b6]; rfl
          have q1 := free_at b6 1
          have q2 := free_at b6 2
          have q3 := free_at b6 3
          have q4 := free_at b6 4
          obtain ⟨w7, hw7⟩ : ∃ w7, w7 = ((w6.setCell ⟨w2.heap.size, 1, none⟩ (.int .i64 (s.size : Int))).setCell ⟨w2.heap.size, 2, none⟩ (.slice none 0 0)).setCell ⟨w2.heap.size, 3, none⟩ (.string ⟨#[]⟩) := ⟨_, rfl⟩
          have k7 : Kept [w2.heap.size] w6 w7 := by rw [hw7]; exact (((Kept.refl _ _).setCell (.inl (by simp)) _).setCell (.inl (by simp)) _).setCell (.inl (by simp)) _
          have b7 : w7.heap[w2.heap.size]? = some (.cells #[.int .i64 0, .int .i64 (s.size : Int), .slice none 0 0, .string ⟨#[]⟩, .slice none 0 0] 28 (0, 0)) := by rw [hw7]; exact block_setCell (block_setCell (block_setCell b6 1 _) 2 _) 3 _
          have x7 := k7.at (hk6.at ((Kept.setCell (Kept.refl [w2.heap.size] w4) (p := ⟨w2.heap.size, 0, none⟩) (.inl (by simp)) (.int .i64 0)).at hx4 (by simpa using hne)) (by simp)) (by simpa using hne)
          have ow7 := k7.ownsRow ow6 (fun x hx => by have := (ow6.lt x hx).1; simp at this ⊢; omega)
          have CT := hide (xtrail_done w0.heap.size 16 s.size _ _ _ L w7 x7 ow7 hLl)
          have HW7 := hide hw7.symm
          have HKall : Hid (Kept [] w w7) := by
            have a1 : Kept [] w w4 := (((HK0.out.trans HN2.out).trans HK3.out)).next hk4 (by simp; have := HZ.out; omega)
            have a2 : Kept [] w (w4.setCell ⟨w2.heap.size, 0, none⟩ (.int .i64 0)) := a1.setCell (.inr (by have := HZ.out; simp; omega)) _
            exact (a2.trans hk6).next k7 (by simp; have := HZ.out; omega)
          have HB7 := hide b7
          have hwr : w.heap.size ≠ w2.heap.size := by have := HZ.out; omega
          have r7 := k7.at (hk6.at ((Kept.setCell (Kept.refl [w2.heap.size] w4) (p := ⟨w2.heap.size, 0, none⟩) (.inl (by simp)) (.int .i64 0)).at (hk4.at (HK3.out.at (HN2.out.at HR.out (by simp)) (by simp)) (by simp; have := HZ.out; omega)) (by simpa using hwr)) (by simp)) (by simpa using hwr)
          have HR7 := hide r7
          clear hx4 hk4 b5 b6 hk6 hw7 k7 b7 x7 r7 H CS CC ow5 ow6 ow7
          go_wp2_with fail
          refine (xlist _ _).mono ?_
          rintro e w8 ⟨rfl, rfl⟩
          go_wp2_with fail
          refine (xtext _ _).mono ?_
          rintro e w8 ⟨rfl, rfl⟩
          go_wp2_with fail
          rw [HW7.out]
          refine CT.out.mono ?_
          rintro e w9 ⟨v9, rfl, ow9, hk9⟩
          have b9 := hk9.at HB7.out (by simp)
          have r9 := hk9.at HR7.out (by simp)
          have hsz7 := lt_of_block HB7.out
          obtain ⟨a9, c9, hv9⟩ := owns_shape ow9
          subst hv9
          have y0 : w9.cell? ⟨w2.heap.size, 0, none⟩ = some (.int .i64 0) := by rw [cell_at b9]; rfl
          have y1 : w9.cell? ⟨w2.heap.size, 1, none⟩ = some (.int .i64 (s.size : Int)) := by rw [cell_at b9]; rfl
          have y2 : w9.cell? ⟨w2.heap.size, 2, none⟩ = some (.slice none 0 0) := by rw [cell_at b9]; rfl
          have y3 : w9.cell? ⟨w2.heap.size, 3, none⟩ = some (.string ⟨#[]⟩) := by rw [cell_at b9]; rfl
          have y4 : w9.cell? ⟨w2.heap.size, 4, none⟩ = some (.slice none 0 0) := by rw [cell_at b9]; rfl
          have y5 := free_at b9 4
          have u0 : w9.cell? ⟨w.heap.size, 0, none⟩ = some (.int .i64 0) := by rw [cell_at r9]; rfl
          have u1 : w9.cell? ⟨w.heap.size, 1, none⟩ = some (.int .i64 0) := by rw [cell_at r9]; rfl
          have u2 : w9.cell? ⟨w.heap.size, 2, none⟩ = some (.slice none 0 0) := by rw [cell_at r9]; rfl
          have u3 : w9.cell? ⟨w.heap.size, 3, none⟩ = some (.string ⟨#[]⟩) := by rw [cell_at r9]; rfl
          have u4 : w9.cell? ⟨w.heap.size, 4, none⟩ = some (.slice none 0 0) := by rw [cell_at r9]; rfl
          have j0 := free_at r9 0
          have j1 := free_at r9 1
          have j2 := free_at r9 2
          have j3 := free_at r9 3
          have j4 := free_at r9 4
          have hwr2 : w2.heap.size ≠ w.heap.size := fun h => hwr h.symm
          have hle2 : w.heap.size ≤ w2.heap.size := by have := HZ.out; omega
          have HO9 := hide ow9
          have HK9 := hide (HKall.out.trans hk9)
          have hn1 : (Value.slice a9 L.length c9).ownBlock ≠ some w2.heap.size := fun h => by have := (ow9.lt _ h).1; omega
          have hn2 : (Value.slice a9 L.length c9).ownBlock ≠ some w.heap.size := fun h => by have := (ow9.lt _ h).1; omega
          have hle7 : w.heap.size ≤ w7.heap.size := HKall.out.size
          clear b9 r9 ow9 hk9
          go_wp2
          refine bodyPost_ret (v := .tuple #[.agg #[.int .i64 0, .int .i64 (s.size : Int), .slice none 0 0, .string ⟨#[]⟩, .slice a9 L.length c9], .bool true]) ?_ rfl ⟨av, b, ?_⟩
          · simp [results, Tryz.results6, asAddr, Result.andThen, go_sem, u0, u1, u2, u3, u4, hwr, hwr2]
          · rw [hO]
            have m := HK9.out
            exact ⟨_, rfl, ownsRow_base (ownsRow_setCell_other (ownsRow_setCell_other (ownsRow_setCell_other (ownsRow_setCell_other (ownsRow_setCell_other (ownsRow_setCell_other HO9.out hn1 _) hn2 _) hn2 _) hn2 _) hn2 _) hn2 _) hle7, (((((m.setCell (.inr hle2) _).setCell (.inr (Nat.le_refl _)) _).setCell (.inr (Nat.le_refl _)) _).setCell (.inr (Nat.le_refl _)) _).setCell (.inr (Nat.le_refl _)) _).setCell (.inr (Nat.le_refl _)) _⟩
end Go.Proofs.YtnlmfklpebekdaaGreatDoor
