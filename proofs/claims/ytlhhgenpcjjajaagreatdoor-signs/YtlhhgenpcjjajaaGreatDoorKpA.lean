import Derived.Test.YtlhhgenpcjjajaaGreatDoorVsF
import Derived.Test.YtlhhgenpcjjajaaGreatDoorSgC
set_option linter.unusedSimpArgs false
set_option linter.unusedVariables false
namespace Go.Proofs.YtlhhgenpcjjajaaGreatDoor
open Go.RowKit
theorem empty_append' (s : ByteArray) : (⟨#[]⟩ : ByteArray) ++ s = s := by
  apply ByteArray.ext; rw [ByteArray.data_append]; exact Array.empty_append
def zRead : Array Value := #[.int .i64 0, .int .i64 0, .slice none 0 0, .string ⟨#[]⟩, .slice none 0 0]
structure Kvs (w : World) (bx R1 R2 k : Nat) (d f l : Int) (n : Nat) (v : Value) (L : List Sp) (T : List Tn) (c2 : Array Value) (W : World) : Prop where
  px : W.heap[bx]? = some (.cells (pcells d f l n v k) 76 (0, 0))
  tr : IsTn W (.el ⟨#[]⟩ [] T) (.el k)
  sp : W.ownsRow 0 53 3 v L.length (scells L)
  r1 : W.heap[R1]? = some (.cells zRead 28 (0, 0))
  r2 : W.heap[R2]? = some (.cells c2 28 (0, 0))
  ne : R1 ≠ R2
  ge : w.heap.size ≤ R2
  kp : Kept [] w W
theorem Kvs.k0 {w : World} {bx R1 R2 k : Nat} {d f l : Int} {n : Nat} {v : Value} {L : List Sp} {T : List Tn} {c2 : Array Value} {W W' : World} (h : Kvs w bx R1 R2 k d f l n v L T c2 W) (hk : Kept [] W W') : Kvs w bx R1 R2 k d f l n v L T c2 W' :=
  ⟨hk.at h.px (by simp), IsTn.kept hk h.tr, hk.ownsRow h.sp (fun _ _ => by simp), hk.at h.r1 (by simp), hk.at h.r2 (by simp), h.ne, h.ge, h.kp.trans hk⟩
theorem row_not {w : World} {base : Nat} {e : TypeId} {sz n : Nat} {v : Value} {xs : List Value} (ho : w.ownsRow base e sz v n xs) {b : Nat} {c : Array Value} {t : TypeId} (hb : w.heap[b]? = some (.cells c t (0, 0))) (hne : e ≠ t) : ∀ k, v.ownBlock = some k → k ∉ [b] := by
  intro k hk hm
  have e1 := List.mem_singleton.1 hm
  subst e1
  rcases ho.2 with ⟨e2, _⟩ | ⟨q', cap', cur, e2, _, hc, _⟩
  · rw [e2] at hk; cases hk
  · rw [e2] at hk
    have e3 := Option.some.inj hk
    subst e3
    rw [hb] at hc
    simp at hc
    exact hne hc.2.symm
theorem Kvs.set {w : World} {bx R1 R2 k : Nat} {d f l : Int} {n : Nat} {v : Value} {L : List Sp} {T : List Tn} {c2 : Array Value} {W : World} (h : Kvs w bx R1 R2 k d f l n v L T c2 W) (j : Nat) (u : Value) : Kvs w bx R1 R2 k d f l n v L T (c2.setIfInBounds j u) (W.setCell ⟨R2, j, none⟩ u) := by
  have hk : Kept [R2] W (W.setCell ⟨R2, j, none⟩ u) := (Kept.refl _ _).setCell (.inl (by simp)) _
  have hb : bx ∉ [R2] := by
    intro hm
    have e := List.mem_singleton.1 hm
    have hp := h.px
    rw [e, h.r2] at hp
    simp at hp
  exact ⟨hk.at h.px hb, IsTn.kn (KN.of_kept hk (fun q hq c t hc ht => by
      have e := List.mem_singleton.1 hq
      subst e
      rw [h.r2] at hc
      simp at hc
      rw [← hc.2] at ht
      revert ht
      decide)) h.tr, hk.ownsRow h.sp (row_not h.sp h.r2 (by decide)), hk.at h.r1 (by simpa using h.ne), block_setCell h.r2 j u, h.ne, h.ge, h.kp.setCell (.inr h.ge) _⟩
def itemsT (T : List Tn) : List It := itemsE (evS (fun _ => false) T)
def KrT (w : World) (s : ByteArray) (T : List Tn) (e : Ending) (w' : World) : Prop := ∃ v t ta tn tc, e = .returned (.tuple #[.agg #[.int .i64 0, .int .i64 (s.size : Int), v, .string t, .slice ta tn tc], .bool true]) ∧ w'.ownsRow w.heap.size 57 3 v (itemsT T).length (icells (itemsT T)) ∧ Kept [] w w'
def EvOk (T : List Tn) : Prop := ∀ vd, (∀ e ∈ evS vd T, plainEv e = true) ∧ wgts (evS vd T) ≤ 1073741824 ∧ (evS vd T).any isTag = true
theorem PCl.of {w : World} {bx k n : Nat} {d f l : Int} {v : Value} (h : w.heap[bx]? = some (.cells (pcells d f l n v k) 76 (0, 0))) : PCl w bx (pcells d f l n v k) k := ⟨h, rfl⟩
set_option maxRecDepth 100000 in
set_option maxHeartbeats 8000000 in
theorem kread_any (s : ByteArray) (d f l : Nat) (w : World) (hs : s.size ≤ 1024) (hd : 4 ≤ d ∧ d ≤ 64) (hf : 1 ≤ f ∧ f ≤ 32) (hl : 1 ≤ l ∧ l ≤ 16) (hT : Tab w) (hg : GlW w) {T : List Tn} (hn : ReadsTo s d f l T) (hI : (itemsT T).length ≤ 1024) (hE : EvOk T) :
    Calls Tryz.prog 8 #[.string s, .int .i64 (d : Int), .int .i64 (f : Int), .int .i64 (l : Int), .slice none 0 0] w (KrT w s T) := by
  obtain ⟨w0, hw0⟩ : ∃ w0, w0 = w.alloc (.cells zRead 28) := ⟨_, rfl⟩
  have k0 : Kept [] w w0 := by rw [hw0]; exact (Kept.refl _ _).alloc _
  have z0 : w0.heap.size = w.heap.size + 1 := by rw [hw0]; simp
  have r0 : w0.heap[w.heap.size]? = some (.cells zRead 28 (0, 0)) := by rw [hw0]; exact heap_alloc_at w _
  have CN := hide (pnew_ok (d : Int) (f : Int) (l : Int) w0 ⟨by omega, by omega, by omega, by omega, by omega, by omega⟩)
  have HW := hide (show w.alloc (.cells zRead 28) = w0 from hw0.symm)
  unfold zRead at HW
  have HE := hide hE
  have HT := hide hT
  have HG := hide hg
  have HNS := hide hn
  have HK0 := hide k0
  have HZ := hide z0
  have HR := hide r0
  clear hw0 k0 z0 r0 hT hg hn hE
  go_enter Tryz.func8, Tryz.ntmps8
  go_wp2_with fail
  rw [HW.out]
  refine CN.out.mono ?_
  rintro e w1 ⟨rfl, hx1, hk1⟩
  have CW := fun (t : ByteArray) (ht : t.size ≤ 1024) => pwrite_ok w0.heap.size ((d : Int), (f : Int), (l : Int)) (.slice none 0 0) ⟨#[]⟩ t w1.heap.size w1 hx1 (World.ownsRow_nil _ _ _ _) (by show 0 + t.size ≤ 1024; omega) (Nat.le_refl _)
  simp only [empty_append'] at CW
  have HCW := hide (CW s hs)
  have HCT := hide CW
  have HK1 := hide hk1
  have hxl := hide (lt_of_block hx1)
  clear CW hx1 hk1 CN
  go_wp2_with fail
  refine wp_loop_rounds 2 ?_
  rw [rounds_succ]
  by_cases h0 : s.size = 0
  · have e1 : ByteArray.empty = s := by apply ByteArray.ext; exact (Array.eq_empty_of_size_eq_zero h0).symm
    have hz : ((ByteArray.empty).size : Int) = 0 := rfl
    have C0 := hide (HCT.out ByteArray.empty (by decide))
    have E1 := hide e1
    clear e1
    go_wp2_with fail
    refine C0.out.mono ?_
    rintro e w2 ⟨rfl, hpw⟩
    rw [E1.out] at hpw
    have HPW := hide hpw
    clear hpw C0
    go_wp2_with fail
    have hpw := HPW.out
    clear HPW
    clear h0 hz
    obtain ⟨tv, hx2, ow2, hk2, _⟩ := hpw
    have hn2 : Kept [] w0 w2 := HK1.out.next (S' := w0.heap.size :: (Value.slice none 0 0).ownBlock.toList) hk2 (by simp [Value.ownBlock])
    have k3 : Kept [] w2 (w2.alloc (.cells #[.int .i64 0, .int .i64 0, .slice none 0 0, .string ⟨#[]⟩, .slice none 0 0] 28)) := (Kept.refl _ _).alloc _
    have kw3 := (HK0.out.trans hn2).trans k3
    have HB3 := hide (heap_alloc_at w2 (.cells #[.int .i64 0, .int .i64 0, .slice none 0 0, .string ⟨#[]⟩, .slice none 0 0] 28))
    have CC := hide (pclose_any w0.heap.size d f l tv s w1.heap.size _ (k3.at hx2 (by simp)) (k3.ownsRow ow2 (fun _ _ => by simp)) (HT.out.fr (bm := 0) (.of_kept0 kw3)) (HG.out.kept kw3) HNS.out)
    have HKW3 := hide kw3
    have HR3 := hide (k3.at (hn2.at HR.out (by simp)) (by simp))
    have hsz2 : w0.heap.size < w2.heap.size := lt_of_block hx2
    have HSZ := hide hsz2
    clear hx2 ow2 hk2 hn2 k3 kw3 hsz2
    go_wp2_with fail
    refine CC.out.mono ?_
    rintro e w4 ⟨rfl, v4, k4, L4, hx4, ht4, ho4, hl4, hk4⟩
    have hne1 : w2.heap.size ∉ [w0.heap.size] := by have := HSZ.out; simp; omega
    have hne2 : w.heap.size ∉ [w0.heap.size] := by have := HZ.out; simp; omega
    have V4 : Kvs w w0.heap.size w.heap.size w2.heap.size k4 d f l s.size v4 L4 T #[.int .i64 0, .int .i64 0, .slice none 0 0, .string ⟨#[]⟩, .slice none 0 0] w4 :=
      ⟨hx4, ht4, ownsRow_base ho4 (Nat.zero_le _), hk4.at HR3.out hne2, hk4.at HB3.out hne1, by have := HZ.out; have := HSZ.out; omega, by have := HZ.out; have := HSZ.out; omega, HKW3.out.next hk4 (by have := HZ.out; simp; omega)⟩
    have d0 : w4.cell? ⟨w2.heap.size, 0, none⟩ = some (.int .i64 0) := by rw [cell_at V4.r2]; rfl
    have f0 := free_at V4.r2 0
    have ES := hide (setCell_same V4.r2 0 (.int .i64 0) rfl)
    have CS := hide (pstop_plain w0.heap.size d f l s.size k4 v4 w4 V4.px)
    have HV4 := hide V4
    have HL4 := hide hl4
    clear hx4 ht4 ho4 hl4 hk4 V4 CC
    go_wp2_with fail
    rw [ES.out]
    refine CS.out.mono ?_
    rintro e w6 ⟨rfl, hk6⟩
    have V6 := HV4.out.k0 hk6
    have g0 : w6.cell? ⟨w2.heap.size, 0, none⟩ = some (.int .i64 0) := by rw [cell_at V6.r2]; rfl
    have g1 : w6.cell? ⟨w2.heap.size, 1, none⟩ = some (.int .i64 0) := by rw [cell_at V6.r2]; rfl
    have y1 := free_at V6.r2 1
    have V7 := V6.set 1 (.int .i64 (s.size : Int))
    obtain ⟨w7, hw7⟩ : ∃ w7, w7 = w6.setCell ⟨w2.heap.size, 1, none⟩ (.int .i64 (s.size : Int)) := ⟨_, rfl⟩
    rw [← hw7] at V7
    have HW7 := hide hw7.symm
    have CL := hide (list_ok w7 w0.heap.size k4 _ _ _ _ (PCl.of V7.px) V7.tr (itemsT T) rfl (by omega))
    have HV7 := hide V7
    clear hk6 V6 V7 hw7 CS
    go_wp2_with fail
    rw [HW7.out]
    refine CL.out.mono ?_
    rintro e w8 ⟨v8, rfl, ho8, hk8⟩
    obtain ⟨a8, p8, hv8⟩ := owns_shape ho8
    subst hv8
    have V8 := HV7.out.k0 hk8
    have g2 : w8.cell? ⟨w2.heap.size, 2, none⟩ = some (.slice none 0 0) := by rw [cell_at V8.r2]; rfl
    have y2 := free_at V8.r2 2
    have V9 := V8.set 2 (.slice a8 (itemsT T).length p8)
    have ho9 : (w8.setCell ⟨w2.heap.size, 2, none⟩ (.slice a8 (itemsT T).length p8)).ownsRow w.heap.size 57 3 (.slice a8 (itemsT T).length p8) (itemsT T).length (icells (itemsT T)) := ((Kept.refl [w2.heap.size] w8).setCell (.inl (by simp)) _).ownsRow (ownsRow_base ho8 HV7.out.kp.size) (row_not ho8 V8.r2 (by decide))
    obtain ⟨w9, hw9⟩ : ∃ w9, w9 = w8.setCell ⟨w2.heap.size, 2, none⟩ (.slice a8 (itemsT T).length p8) := ⟨_, rfl⟩
    rw [← hw9] at V9 ho9
    have HW9 := hide hw9.symm
    have CX := hide (text_ok w9 w0.heap.size k4 _ _ _ _ (PCl.of V9.px) V9.tr (HT.out.fr (bm := 0) (.of_kept0 V9.kp)).1 (HG.out.kept V9.kp) HE.out)
    have HV9 := hide V9
    have HO9 := hide ho9
    clear ho8 hk8 V8 V9 ho9 hw9 CL
    go_wp2_with fail
    rw [HW9.out]
    refine CX.out.mono ?_
    rintro e w10 ⟨t10, rfl, hk10⟩
    have V10 := HV9.out.k0 hk10
    have g3 : w10.cell? ⟨w2.heap.size, 3, none⟩ = some (.string ⟨#[]⟩) := by rw [cell_at V10.r2]; rfl
    have y3 := free_at V10.r2 3
    have V11 := V10.set 3 (.string t10)
    have ho11 := ((Kept.refl [w2.heap.size] w10).setCell (p := ⟨w2.heap.size, 3, none⟩) (.inl (by simp)) (.string t10)).ownsRow (hk10.ownsRow HO9.out (fun _ _ => by simp)) (row_not (hk10.ownsRow HO9.out (fun _ _ => by simp)) V10.r2 (by decide))
    obtain ⟨w11, hw11⟩ : ∃ w11, w11 = w10.setCell ⟨w2.heap.size, 3, none⟩ (.string t10) := ⟨_, rfl⟩
    rw [← hw11] at V11 ho11
    have HW11 := hide hw11.symm
    have CT := hide (trail_plain w0.heap.size d f l s.size k4 0 v4 L4 w11 V11.px V11.sp (by have := HL4.out; omega))
    have HV11 := hide V11
    have HO11 := hide ho11
    clear hk10 V10 V11 ho11 hw11 CX
    go_wp2_with fail
    rw [HW11.out]
    refine CT.out.mono ?_
    rintro e w12 ⟨a12, n12, c12, rfl, hk12⟩
    have V12 := HV11.out.k0 hk12
    have ho12 := hk12.ownsRow HO11.out (fun _ _ => by simp)
    have b12 := V12.r2
    have r12 := V12.r1
    have m0 : w12.cell? ⟨w2.heap.size, 0, none⟩ = some (.int .i64 0) := by rw [cell_at b12]; rfl
    have m1 : w12.cell? ⟨w2.heap.size, 1, none⟩ = some (.int .i64 (s.size : Int)) := by rw [cell_at b12]; rfl
    have m2 : w12.cell? ⟨w2.heap.size, 2, none⟩ = some (.slice a8 (itemsT T).length p8) := by rw [cell_at b12]; rfl
    have m3 : w12.cell? ⟨w2.heap.size, 3, none⟩ = some (.string t10) := by rw [cell_at b12]; rfl
    have m4 : w12.cell? ⟨w2.heap.size, 4, none⟩ = some (.slice none 0 0) := by rw [cell_at b12]; rfl
    have y4 := free_at b12 4
    have u0 : w12.cell? ⟨w.heap.size, 0, none⟩ = some (.int .i64 0) := by rw [cell_at r12]; rfl
    have u1 : w12.cell? ⟨w.heap.size, 1, none⟩ = some (.int .i64 0) := by rw [cell_at r12]; rfl
    have u2 : w12.cell? ⟨w.heap.size, 2, none⟩ = some (.slice none 0 0) := by rw [cell_at r12]; rfl
    have u3 : w12.cell? ⟨w.heap.size, 3, none⟩ = some (.string ⟨#[]⟩) := by rw [cell_at r12]; rfl
    have u4 : w12.cell? ⟨w.heap.size, 4, none⟩ = some (.slice none 0 0) := by rw [cell_at r12]; rfl
    have j0 := free_at r12 0
    have j1 := free_at r12 1
    have j2 := free_at r12 2
    have j3 := free_at r12 3
    have j4 := free_at r12 4
    have hwr : w.heap.size ≠ w2.heap.size := V12.ne
    have hwr2 : w2.heap.size ≠ w.heap.size := fun h => V12.ne h.symm
    have HV12 := hide V12
    have HO12 := hide ho12
    clear V12 ho12 b12 r12 hk12 CT
    generalize hlen : (itemsT T).length = len at *
    have HLEN := hide hlen
    clear hlen
    go_wp2
    refine bodyPost_ret (v := .tuple #[.agg #[.int .i64 0, .int .i64 (s.size : Int), .slice a8 len p8, .string t10, .slice a12 n12 c12], .bool true]) ?_ rfl ⟨_, _, _, _, _, rfl, ?_, ?_⟩
    · simp [results, Tryz.results8, asAddr, Result.andThen, go_sem, u0, u1, u2, u3, u4, hwr, hwr2]
    · rw [HLEN.out]
      have h5 := row_not HO12.out HV12.out.r2 (by decide)
      have h6 := row_not HO12.out HV12.out.r1 (by decide)
      refine Kept.ownsRow (S := [w2.heap.size, w.heap.size]) (((((((Kept.refl _ w12).setCell (.inl (by simp)) _).setCell (.inl (by simp)) _).setCell (.inl (by simp)) _).setCell (.inl (by simp)) _).setCell (.inl (by simp)) _).setCell (.inl (by simp)) _) HO12.out (fun q hq => ?_)
      have a5 := h5 q hq
      have a6 := h6 q hq
      simp at a5 a6 ⊢
      exact ⟨a5, a6⟩
    · have m := HV12.out.kp
      have hge := HV12.out.ge
      exact (((((m.setCell (.inr hge) _).setCell (.inr (Nat.le_refl _)) _).setCell (.inr (Nat.le_refl _)) _).setCell (.inr (Nat.le_refl _)) _).setCell (.inr (Nat.le_refl _)) _).setCell (.inr (Nat.le_refl _)) _
  · go_wp2_with fail
    refine HCW.out.mono ?_
    rintro e w2 ⟨rfl, hpw⟩
    have HPW := hide hpw
    clear hpw
    go_wp2_with fail
    rw [rounds_succ]
    go_wp2_with fail
    have hpw := HPW.out
    clear HPW
    obtain ⟨tv, hx2, ow2, hk2, _⟩ := hpw
    have hn2 : Kept [] w0 w2 := HK1.out.next (S' := w0.heap.size :: (Value.slice none 0 0).ownBlock.toList) hk2 (by simp [Value.ownBlock])
    have k3 : Kept [] w2 (w2.alloc (.cells #[.int .i64 0, .int .i64 0, .slice none 0 0, .string ⟨#[]⟩, .slice none 0 0] 28)) := (Kept.refl _ _).alloc _
    have kw3 := (HK0.out.trans hn2).trans k3
    have HB3 := hide (heap_alloc_at w2 (.cells #[.int .i64 0, .int .i64 0, .slice none 0 0, .string ⟨#[]⟩, .slice none 0 0] 28))
    have CC := hide (pclose_any w0.heap.size d f l tv s w1.heap.size _ (k3.at hx2 (by simp)) (k3.ownsRow ow2 (fun _ _ => by simp)) (HT.out.fr (bm := 0) (.of_kept0 kw3)) (HG.out.kept kw3) HNS.out)
    have HKW3 := hide kw3
    have HR3 := hide (k3.at (hn2.at HR.out (by simp)) (by simp))
    have hsz2 : w0.heap.size < w2.heap.size := lt_of_block hx2
    have HSZ := hide hsz2
    clear hx2 ow2 hk2 hn2 k3 kw3 hsz2
    go_wp2_with fail
    refine CC.out.mono ?_
    rintro e w4 ⟨rfl, v4, k4, L4, hx4, ht4, ho4, hl4, hk4⟩
    have hne1 : w2.heap.size ∉ [w0.heap.size] := by have := HSZ.out; simp; omega
    have hne2 : w.heap.size ∉ [w0.heap.size] := by have := HZ.out; simp; omega
    have V4 : Kvs w w0.heap.size w.heap.size w2.heap.size k4 d f l s.size v4 L4 T #[.int .i64 0, .int .i64 0, .slice none 0 0, .string ⟨#[]⟩, .slice none 0 0] w4 :=
      ⟨hx4, ht4, ownsRow_base ho4 (Nat.zero_le _), hk4.at HR3.out hne2, hk4.at HB3.out hne1, by have := HZ.out; have := HSZ.out; omega, by have := HZ.out; have := HSZ.out; omega, HKW3.out.next hk4 (by have := HZ.out; simp; omega)⟩
    have d0 : w4.cell? ⟨w2.heap.size, 0, none⟩ = some (.int .i64 0) := by rw [cell_at V4.r2]; rfl
    have f0 := free_at V4.r2 0
    have ES := hide (setCell_same V4.r2 0 (.int .i64 0) rfl)
    have CS := hide (pstop_plain w0.heap.size d f l s.size k4 v4 w4 V4.px)
    have HV4 := hide V4
    have HL4 := hide hl4
    clear hx4 ht4 ho4 hl4 hk4 V4 CC
    go_wp2_with fail
    rw [ES.out]
    refine CS.out.mono ?_
    rintro e w6 ⟨rfl, hk6⟩
    have V6 := HV4.out.k0 hk6
    have g0 : w6.cell? ⟨w2.heap.size, 0, none⟩ = some (.int .i64 0) := by rw [cell_at V6.r2]; rfl
    have g1 : w6.cell? ⟨w2.heap.size, 1, none⟩ = some (.int .i64 0) := by rw [cell_at V6.r2]; rfl
    have y1 := free_at V6.r2 1
    have V7 := V6.set 1 (.int .i64 (s.size : Int))
    obtain ⟨w7, hw7⟩ : ∃ w7, w7 = w6.setCell ⟨w2.heap.size, 1, none⟩ (.int .i64 (s.size : Int)) := ⟨_, rfl⟩
    rw [← hw7] at V7
    have HW7 := hide hw7.symm
    have CL := hide (list_ok w7 w0.heap.size k4 _ _ _ _ (PCl.of V7.px) V7.tr (itemsT T) rfl (by omega))
    have HV7 := hide V7
    clear hk6 V6 V7 hw7 CS
    go_wp2_with fail
    rw [HW7.out]
    refine CL.out.mono ?_
    rintro e w8 ⟨v8, rfl, ho8, hk8⟩
    obtain ⟨a8, p8, hv8⟩ := owns_shape ho8
    subst hv8
    have V8 := HV7.out.k0 hk8
    have g2 : w8.cell? ⟨w2.heap.size, 2, none⟩ = some (.slice none 0 0) := by rw [cell_at V8.r2]; rfl
    have y2 := free_at V8.r2 2
    have V9 := V8.set 2 (.slice a8 (itemsT T).length p8)
    have ho9 : (w8.setCell ⟨w2.heap.size, 2, none⟩ (.slice a8 (itemsT T).length p8)).ownsRow w.heap.size 57 3 (.slice a8 (itemsT T).length p8) (itemsT T).length (icells (itemsT T)) := ((Kept.refl [w2.heap.size] w8).setCell (.inl (by simp)) _).ownsRow (ownsRow_base ho8 HV7.out.kp.size) (row_not ho8 V8.r2 (by decide))
    obtain ⟨w9, hw9⟩ : ∃ w9, w9 = w8.setCell ⟨w2.heap.size, 2, none⟩ (.slice a8 (itemsT T).length p8) := ⟨_, rfl⟩
    rw [← hw9] at V9 ho9
    have HW9 := hide hw9.symm
    have CX := hide (text_ok w9 w0.heap.size k4 _ _ _ _ (PCl.of V9.px) V9.tr (HT.out.fr (bm := 0) (.of_kept0 V9.kp)).1 (HG.out.kept V9.kp) HE.out)
    have HV9 := hide V9
    have HO9 := hide ho9
    clear ho8 hk8 V8 V9 ho9 hw9 CL
    go_wp2_with fail
    rw [HW9.out]
    refine CX.out.mono ?_
    rintro e w10 ⟨t10, rfl, hk10⟩
    have V10 := HV9.out.k0 hk10
    have g3 : w10.cell? ⟨w2.heap.size, 3, none⟩ = some (.string ⟨#[]⟩) := by rw [cell_at V10.r2]; rfl
    have y3 := free_at V10.r2 3
    have V11 := V10.set 3 (.string t10)
    have ho11 := ((Kept.refl [w2.heap.size] w10).setCell (p := ⟨w2.heap.size, 3, none⟩) (.inl (by simp)) (.string t10)).ownsRow (hk10.ownsRow HO9.out (fun _ _ => by simp)) (row_not (hk10.ownsRow HO9.out (fun _ _ => by simp)) V10.r2 (by decide))
    obtain ⟨w11, hw11⟩ : ∃ w11, w11 = w10.setCell ⟨w2.heap.size, 3, none⟩ (.string t10) := ⟨_, rfl⟩
    rw [← hw11] at V11 ho11
    have HW11 := hide hw11.symm
    have CT := hide (trail_plain w0.heap.size d f l s.size k4 0 v4 L4 w11 V11.px V11.sp (by have := HL4.out; omega))
    have HV11 := hide V11
    have HO11 := hide ho11
    clear hk10 V10 V11 ho11 hw11 CX
    go_wp2_with fail
    rw [HW11.out]
    refine CT.out.mono ?_
    rintro e w12 ⟨a12, n12, c12, rfl, hk12⟩
    have V12 := HV11.out.k0 hk12
    have ho12 := hk12.ownsRow HO11.out (fun _ _ => by simp)
    have b12 := V12.r2
    have r12 := V12.r1
    have m0 : w12.cell? ⟨w2.heap.size, 0, none⟩ = some (.int .i64 0) := by rw [cell_at b12]; rfl
    have m1 : w12.cell? ⟨w2.heap.size, 1, none⟩ = some (.int .i64 (s.size : Int)) := by rw [cell_at b12]; rfl
    have m2 : w12.cell? ⟨w2.heap.size, 2, none⟩ = some (.slice a8 (itemsT T).length p8) := by rw [cell_at b12]; rfl
    have m3 : w12.cell? ⟨w2.heap.size, 3, none⟩ = some (.string t10) := by rw [cell_at b12]; rfl
    have m4 : w12.cell? ⟨w2.heap.size, 4, none⟩ = some (.slice none 0 0) := by rw [cell_at b12]; rfl
    have y4 := free_at b12 4
    have u0 : w12.cell? ⟨w.heap.size, 0, none⟩ = some (.int .i64 0) := by rw [cell_at r12]; rfl
    have u1 : w12.cell? ⟨w.heap.size, 1, none⟩ = some (.int .i64 0) := by rw [cell_at r12]; rfl
    have u2 : w12.cell? ⟨w.heap.size, 2, none⟩ = some (.slice none 0 0) := by rw [cell_at r12]; rfl
    have u3 : w12.cell? ⟨w.heap.size, 3, none⟩ = some (.string ⟨#[]⟩) := by rw [cell_at r12]; rfl
    have u4 : w12.cell? ⟨w.heap.size, 4, none⟩ = some (.slice none 0 0) := by rw [cell_at r12]; rfl
    have j0 := free_at r12 0
    have j1 := free_at r12 1
    have j2 := free_at r12 2
    have j3 := free_at r12 3
    have j4 := free_at r12 4
    have hwr : w.heap.size ≠ w2.heap.size := V12.ne
    have hwr2 : w2.heap.size ≠ w.heap.size := fun h => V12.ne h.symm
    have HV12 := hide V12
    have HO12 := hide ho12
    clear V12 ho12 b12 r12 hk12 CT
    generalize hlen : (itemsT T).length = len at *
    have HLEN := hide hlen
    clear hlen
    go_wp2
    refine bodyPost_ret (v := .tuple #[.agg #[.int .i64 0, .int .i64 (s.size : Int), .slice a8 len p8, .string t10, .slice a12 n12 c12], .bool true]) ?_ rfl ⟨_, _, _, _, _, rfl, ?_, ?_⟩
    · simp [results, Tryz.results8, asAddr, Result.andThen, go_sem, u0, u1, u2, u3, u4, hwr, hwr2]
    · rw [HLEN.out]
      have h5 := row_not HO12.out HV12.out.r2 (by decide)
      have h6 := row_not HO12.out HV12.out.r1 (by decide)
      refine Kept.ownsRow (S := [w2.heap.size, w.heap.size]) (((((((Kept.refl _ w12).setCell (.inl (by simp)) _).setCell (.inl (by simp)) _).setCell (.inl (by simp)) _).setCell (.inl (by simp)) _).setCell (.inl (by simp)) _).setCell (.inl (by simp)) _) HO12.out (fun q hq => ?_)
      have a5 := h5 q hq
      have a6 := h6 q hq
      simp at a5 a6 ⊢
      exact ⟨a5, a6⟩
    · have m := HV12.out.kp
      have hge := HV12.out.ge
      exact (((((m.setCell (.inr hge) _).setCell (.inr (Nat.le_refl _)) _).setCell (.inr (Nat.le_refl _)) _).setCell (.inr (Nat.le_refl _)) _).setCell (.inr (Nat.le_refl _)) _).setCell (.inr (Nat.le_refl _)) _
end Go.Proofs.YtlhhgenpcjjajaaGreatDoor
namespace Go.Proofs.YtlhhgenpcjjajaaGreatDoor
open Go.RowKit
def kidsG (ats : List (ByteArray × ByteArray)) (t : ByteArray) : List Tn := [.el (⟨#[104, 116, 109, 108]⟩ : ByteArray) [] [.el (⟨#[104, 101, 97, 100]⟩ : ByteArray) [] [], .el (⟨#[98, 111, 100, 121]⟩ : ByteArray) [] [.el (⟨#[115, 112, 97, 110]⟩ : ByteArray) ats [.tx t]]]]
theorem rf_treeS {E : Env} {fl : Nat → Nat} {a : Nat} {ats : List (ByteArray × ByteArray)} {t : ByteArray} {w : World} (h : RF E fl (SS a ats (some t)) w) : IsTn w (.el ⟨#[]⟩ [] (kidsG ats t)) (.el (fl 0)) := by
  obtain ⟨L, rfl, hr⟩ := h
  obtain ⟨a0, b0, c0⟩ : NodeAt E.bs L w 0 (.el ⟨⟨#[]⟩, [], none, [.el 1]⟩) := hr.nds 0 _ rfl
  obtain ⟨a1, b1, c1⟩ : NodeAt E.bs L w 1 (.el ⟨(⟨#[104, 116, 109, 108]⟩ : ByteArray), [], some 0, [.el 2, .el 3]⟩) := hr.nds 1 _ rfl
  obtain ⟨a2, b2, c2⟩ : NodeAt E.bs L w 2 (.el ⟨(⟨#[104, 101, 97, 100]⟩ : ByteArray), [], some 1, []⟩) := hr.nds 2 _ rfl
  obtain ⟨a3, b3, c3⟩ : NodeAt E.bs L w 3 (.el ⟨(⟨#[98, 111, 100, 121]⟩ : ByteArray), [], some 1, [.el 4]⟩) := hr.nds 3 _ rfl
  obtain ⟨a4, b4, c4⟩ : NodeAt E.bs L w 4 (.el ⟨(⟨#[115, 112, 97, 110]⟩ : ByteArray), ats, some 3, [.tx 5]⟩) := hr.nds 4 _ rfl
  unfold kidsG
  simp only [IsTn, IsTs, and_true]
  refine ⟨_, _, _, _, a0.zero, b0, c0, ?_⟩
  simp only [List.map_cons, List.map_nil, Nd.map, IsTs, IsTn, and_true]
  refine ⟨_, _, _, _, a1.zero, b1, c1, ?_⟩
  simp only [List.map_cons, List.map_nil, Nd.map, IsTs, IsTn, and_true]
  refine ⟨⟨_, _, _, _, a2.zero, b2, c2, ?_⟩, ⟨_, _, _, _, a3.zero, b3, c3, ?_⟩⟩
  · simp [IsTs]
  · simp only [List.map_cons, List.map_nil, Nd.map, IsTs, IsTn, and_true]
    refine ⟨_, _, _, _, a4.zero, b4, c4, ?_⟩
    simp only [List.map_cons, List.map_nil, Nd.map, IsTs, IsTn, and_true]
    exact hr.nds 5 (.tx t) rfl
def sgT (n : Nat) : ByteArray := ⟨#[120]⟩ ++ sgn n ++ ⟨#[121]⟩
theorem sign_reads {n : Nat} (h1 : 1 ≤ n) (h2 : n ≤ 127) : ReadsTo (txt n) 64 1 1 (kidsG (atN n) (sgT n)) := by
  intro tv base w ho hT hg
  have hk := kD_le n
  refine (read_run (txt n) tv base 64 1 1 w ho (by rw [(txt_cs h1 h2).2]; omega) (by decide) (by decide) (by decide) hT hg (sign_run h1 h2)).mono ?_
  rintro e w' ⟨v, k, L, E, fl, rfl, hfl, hrf, how, hle, hk2⟩
  have hT := rf_treeS hrf
  rw [hfl] at hT
  exact ⟨v, k, L, rfl, hT, how, hle, hk2⟩
theorem sgT_size (n : Nat) : (sgT n).size = 3 := by
  unfold sgT
  rw [ByteArray.size_append, ByteArray.size_append]
  rfl
theorem evG_ok (n : Nat) : EvOk (kidsG (atN n) (sgT n)) := by
  intro vd
  have p1 : plainEv (.enter (⟨#[104, 116, 109, 108]⟩ : ByteArray) []) = true := by simp only [plainEv, ByteArray.toList_eq]; decide
  have p2 : plainEv (.enter (⟨#[104, 101, 97, 100]⟩ : ByteArray) []) = true := by simp only [plainEv, ByteArray.toList_eq]; decide
  have p3 : plainEv (.enter (⟨#[98, 111, 100, 121]⟩ : ByteArray) []) = true := by simp only [plainEv, ByteArray.toList_eq]; decide
  have p4 : plainEv (.leave (⟨#[104, 116, 109, 108]⟩ : ByteArray)) = true := by decide
  have p5 : plainEv (.leave (⟨#[104, 101, 97, 100]⟩ : ByteArray)) = true := by decide
  have p6 : plainEv (.leave (⟨#[98, 111, 100, 121]⟩ : ByteArray)) = true := by decide
  have p7 : plainEv (.tx (sgT n)) = true := by simp [plainEv, sgT_size]
  have p8 : plainEv (.leave (⟨#[115, 112, 97, 110]⟩ : ByteArray)) = true := by decide
  have z : (sgn n).size = 1 := rfl
  have z2 : (⟨#[97]⟩ : ByteArray).size = 1 := rfl
  have p9 : plainEv (.enter (⟨#[115, 112, 97, 110]⟩ : ByteArray) (atN n)) = true := by
    have q : plainEv (.enter (⟨#[115, 112, 97, 110]⟩ : ByteArray) []) = true := by simp only [plainEv, ByteArray.toList_eq]; decide
    simp only [plainEv, Bool.and_eq_true, atN, List.all_cons, List.all_nil, List.length_cons, List.length_nil, decide_eq_true_eq, z, z2] at q ⊢
    exact ⟨⟨⟨by simp, by simp, by simp⟩, q.1.2⟩, q.2⟩
  have l1 : (atN n).length = 1 := rfl
  cases e1 : vd (⟨#[104, 116, 109, 108]⟩ : ByteArray) <;> cases e2 : vd (⟨#[104, 101, 97, 100]⟩ : ByteArray) <;> cases e3 : vd (⟨#[98, 111, 100, 121]⟩ : ByteArray) <;> cases e4 : vd (⟨#[115, 112, 97, 110]⟩ : ByteArray) <;> simp [kidsG, evS, evT, e1, e2, e3, e4, p1, p2, p3, p4, p5, p6, p7, p8, p9, l1, wgts, wgt, isTag]
theorem itemsG (n : Nat) : (itemsT (kidsG (atN n) (sgT n))).length = 10 ∧ (icells (itemsT (kidsG (atN n) (sgT n))))[17]? = some (.string (sgn n)) ∧ (icells (itemsT (kidsG (atN n) (sgT n))))[19]? = some (.string (sgT n)) := ⟨rfl, rfl, rfl⟩
theorem kread_sign {n : Nat} (h1 : 1 ≤ n) (h2 : n ≤ 127) (w : World) (hT : Tab w) (hg : GlW w) :
    Calls Tryz.prog 8 #[.string (txt n), .int .i64 64, .int .i64 1, .int .i64 1, .slice none 0 0] w (KrT w (txt n) (kidsG (atN n) (sgT n))) := by
  have hk := kD_le n
  exact kread_any (txt n) 64 1 1 w (by rw [(txt_cs h1 h2).2]; omega) (by decide) (by decide) (by decide) hT hg (sign_reads h1 h2) (by rw [(itemsG n).1]; decide) (evG_ok n)
end Go.Proofs.YtlhhgenpcjjajaaGreatDoor
namespace Go.Proofs.YtlhhgenpcjjajaaGreatDoor
open Go.RowKit Go.PlainAid
set_option maxRecDepth 100000 in
set_option maxHeartbeats 1000000 in
theorem pick127 (c : Int) (w : World) (h0 : -9223372036854775808 ≤ c) (h1 : c ≤ 9223372036854775807) :
    Calls Tryz.prog 7 #[.int .i64 c, .int .i64 127] w fun e w' => (∃ m : Nat, m ≤ 126 ∧ e = .returned (.int .i64 (m : Int))) ∧ w' = w := by
  by_cases hc : c < 0
  · have hd : 0 ≤ -(c + 1) := by omega
    have hr : (-(c + 1)).tmod 127 = (((-(c + 1)).toNat % 127 : Nat) : Int) := by rw [Int.tmod_eq_emod_of_nonneg hd]; omega
    go_enter Tryz.func7, Tryz.ntmps7
    go_wp2
    go_ret
    refine ⟨⟨(-(c + 1)).toNat % 127, by omega, ?_⟩, rfl⟩
    have e9 : max (-(c + 1)) 0 % 127 = (((-(c + 1)).toNat % 127 : Nat) : Int) := by omega
    show Ending.returned (Value.int .i64 (max (-(c + 1)) 0 % 127)) = _
    rw [e9]
  · have hr : c.tmod 127 = ((c.toNat % 127 : Nat) : Int) := by rw [Int.tmod_eq_emod_of_nonneg (by omega)]; omega
    go_enter Tryz.func7, Tryz.ntmps7
    go_wp2
    go_ret
    refine ⟨⟨c.toNat % 127, by omega, ?_⟩, rfl⟩
    have e9 : max c 0 % 127 = ((c.toNat % 127 : Nat) : Int) := by omega
    show Ending.returned (Value.int .i64 (max c 0 % 127)) = _
    rw [e9]
theorem one_back (w : World) (b : UInt8) (w' : World) (hk : w'.heap[w.heap.size]? = (w.alloc (.cells #[.int .u8 (b.toNat : Int)] 5)).heap[w.heap.size]?) : (convert 55 9 (.slice (some ⟨w.heap.size, 0, none⟩) 1 1)).run Tryz.prog w' = .ok (.string ⟨#[b]⟩) w' :=
  run_back (w := w.alloc (.cells #[.int .u8 (b.toNat : Int)] 5)) (base := 0) (l := [b]) (World.ownsRow_lit w #[.int .u8 (b.toNat : Int)] 1 (Nat.zero_le _) (by decide) rfl) rfl (fun k hk' => by cases hk'; exact hk)
theorem u8_nat {n : Nat} (h : n ≤ 255) : ((n.toUInt8).toNat : Int) = (n : Int) := by
  have e : (n.toUInt8).toNat = n := by
    show n % 2 ^ 8 = n
    omega
  rw [e]
set_option maxRecDepth 100000 in
set_option maxHeartbeats 1000000 in
theorem digit_one (n : Nat) (h : n < 10) (w : World) :
    Calls Tryz.prog 23 #[.int .i64 (n : Int)] w fun e w' => e = .returned (.string ⟨#[(48 + n).toUInt8]⟩) ∧ Kept [] w w' := by
  obtain ⟨b, e⟩ : ∃ b : UInt8, b = (48 + n).toUInt8 := ⟨_, rfl⟩
  have hb := one_back w b _ rfl
  rw [show (b.toNat : Int) = 48 + (n : Int) by rw [e, u8_nat (by omega)]; omega] at hb
  rw [← e]
  clear e
  have HK := hide ((Kept.refl [] w).alloc (.cells #[.int .u8 (48 + (n : Int))] 5))
  go_enter Tryz.func23, Tryz.ntmps23
  go_wp2
  go_ret
  exact ⟨rfl, HK.out⟩
set_option maxRecDepth 100000 in
set_option maxHeartbeats 1000000 in
theorem digit_more (n : Nat) (h : 10 ≤ n) (h2 : n < 1000) (w : World) (t : ByteArray) (ht : t.size ≤ 16) (C : ∀ w, Calls Tryz.prog 23 #[.int .i64 ((n / 10 : Nat) : Int)] w fun e w' => e = .returned (.string t) ∧ Kept [] w w') :
    Calls Tryz.prog 23 #[.int .i64 (n : Int)] w fun e w' => e = .returned (.string (t ++ ⟨#[(48 + n % 10).toUInt8]⟩)) ∧ Kept [] w w' := by
  have hq : (n : Int).tdiv 10 = ((n / 10 : Nat) : Int) := by rw [Int.tdiv_eq_ediv_of_nonneg (by omega)]; omega
  have hr : (n : Int).tmod 10 = ((n % 10 : Nat) : Int) := by rw [Int.tmod_eq_emod_of_nonneg (by omega)]; omega
  have HC := hide (C w)
  clear C
  obtain ⟨b, e⟩ : ∃ b : UInt8, b = (48 + n % 10).toUInt8 := ⟨_, rfl⟩
  have eb : (b.toNat : Int) = 48 + (n : Int) % 10 := by rw [e, u8_nat (by omega)]; omega
  rw [← e]
  clear e
  go_enter Tryz.func23, Tryz.ntmps23
  go_wp2_with fail
  refine HC.out.mono ?_
  rintro e w1 ⟨rfl, hk⟩
  have hb := one_back w1 b _ rfl
  rw [eb] at hb
  have HK := hide (hk.alloc (.cells #[.int .u8 (48 + (n : Int) % 10)] 5))
  clear hk HC
  go_wp2
  go_ret
  exact ⟨rfl, HK.out⟩
theorem digits_ok (n : Nat) (h2 : n < 1000) (w : World) :
    Calls Tryz.prog 23 #[.int .i64 (n : Int)] w fun e w' => e = .returned (.string ⟨(dg n).toArray⟩) ∧ Kept [] w w' := by
  by_cases h : n < 10
  · unfold dg
    rw [if_pos h]
    exact digit_one n h w
  · by_cases h3 : n < 100
    · unfold dg
      rw [if_neg h, if_pos h3]
      exact digit_more n (by omega) h2 w _ (by show 1 ≤ 16; decide) (digit_one (n / 10) (by omega))
    · unfold dg
      rw [if_neg h, if_neg h3]
      have := digit_more n (by omega) h2 w _ (by show 2 ≤ 16; decide) (digit_more (n / 10) (by omega) (by omega) · _ (by show 1 ≤ 16; decide) (digit_one (n / 10 / 10) (by omega)))
      rw [show n / 10 / 10 = n / 100 by omega] at this
      exact this
theorem txt_eq (n : Nat) : (⟨#[60, 115, 112, 97, 110, 32, 97, 61, 34, 38, 35]⟩ ++ ⟨(dg n).toArray⟩ ++ ⟨#[59, 34, 62, 120, 38, 35]⟩ ++ ⟨(dg n).toArray⟩ ++ ⟨#[59, 121]⟩ : ByteArray) = txt n := by
  apply ByteArray.ext
  unfold txt
  simp [ByteArray.data_append]
theorem dg_size (n : Nat) : (⟨(dg n).toArray⟩ : ByteArray).size ≤ 3 := by
  have := kD_le n
  unfold kD at this
  show (dg n).toArray.size ≤ 3
  rw [List.size_toArray]
  omega
set_option maxRecDepth 100000 in
set_option maxHeartbeats 2000000 in
theorem sign_ok (k : Int) (w : World) (h0 : -9223372036854775808 ≤ k) (h1 : k ≤ 9223372036854775807) (hT : Tab w) (hg : GlW w) :
    Calls Tryz.prog 12 #[.int .i64 k] w fun e w' => e = .returned (.bool true) ∧ Kept [] w w' := by
  have CP := hide (pick127 k w h0 h1)
  have HT := hide hT
  have HG := hide hg
  clear hT hg
  go_enter Tryz.func12, Tryz.ntmps12
  go_wp2_with fail
  refine CP.out.mono ?_
  rintro e w1 ⟨⟨m, hm, rfl⟩, rfl⟩
  obtain ⟨n, hn⟩ : ∃ n, n = 1 + m := ⟨_, rfl⟩
  have hn1 : 1 ≤ n := by omega
  have hn2 : n ≤ 127 := by omega
  have CD := hide (digits_ok n (by omega) w1)
  rw [show ((n : Nat) : Int) = 1 + (m : Int) by omega] at CD
  obtain ⟨d, hd⟩ : ∃ d : ByteArray, d = ⟨(dg n).toArray⟩ := ⟨_, rfl⟩
  have hdz : d.size ≤ 3 := by rw [hd]; exact dg_size n
  obtain ⟨b, hb⟩ : ∃ b : UInt8, b = n.toUInt8 := ⟨_, rfl⟩
  have eb : (b.toNat : Int) = 1 + (m : Int) := by rw [hb, u8_nat (by omega)]; omega
  have CR : Hid (∀ W, Kept [] w1 W → Calls Tryz.prog 8 #[.string (⟨#[60, 115, 112, 97, 110, 32, 97, 61, 34, 38, 35]⟩ ++ d ++ ⟨#[59, 34, 62, 120, 38, 35]⟩ ++ d ++ ⟨#[59, 121]⟩), .int .i64 64, .int .i64 1, .int .i64 1, .slice none 0 0] W fun e W' => ∃ z t ta tn tc g cap, e = .returned (.tuple #[.agg #[.int .i64 0, .int .i64 z, .slice (some ⟨g, 0, none⟩) 10 cap, .string t, .slice ta tn tc], .bool true]) ∧ g < W'.heap.size ∧ W'.cell? ⟨g, 17, none⟩ = some (.string ⟨#[b]⟩) ∧ W'.cell? ⟨g, 19, none⟩ = some (.string (⟨#[120]⟩ ++ ⟨#[b]⟩ ++ ⟨#[121]⟩)) ∧ Kept [] W W') := hide (by
    intro W hk
    rw [hd, txt_eq, hb]
    refine (kread_sign hn1 hn2 W (HT.out.fr (bm := 0) (.of_kept0 hk)) (HG.out.kept hk)).mono ?_
    rintro e W' ⟨v, t, ta, tn, tc, rfl, ho, hk2⟩
    obtain ⟨i1, i2, i3⟩ := itemsG n
    rcases ho.2 with ⟨_, hz⟩ | ⟨g, cap, cur, rfl, _, hc, _⟩
    · rw [i1] at hz; cases hz
    · refine ⟨_, t, ta, tn, tc, g, cap, by rw [i1], lt_of_block hc, ?_, ?_, hk2⟩
      · have := ho.cells (g := g) rfl 17 _ i2
        rwa [addr_add] at this
      · have := ho.cells (g := g) rfl 19 _ i3
        rwa [addr_add] at this)
  rw [← hd] at CD
  clear CP hd hn hb hn1 hn2 HT HG
  go_wp2_with fail
  refine CD.out.mono ?_
  rintro e w2 ⟨rfl, hk2⟩
  have hcv := one_back w2 b _ rfl
  rw [eb] at hcv
  have k3 := hk2.alloc (.cells #[.int .u8 (1 + (m : Int))] 5)
  have D := hide (CR.out _ k3)
  have HK3 := hide k3
  clear CD CR hk2 k3 eb
  go_wp2_with fail
  refine D.out.mono ?_
  rintro e w4 ⟨z, t, ta, tn, tc, g, cap, rfl, hg, c1, c2, hk4⟩
  have ka := (Kept.refl [] w4).alloc (.cells #[.int .i64 0, .int .i64 z, .slice (some ⟨g, 0, none⟩) 10 cap, .string t, .slice ta tn tc] 28 (0, 0))
  have q1 := (ka.cell (p := ⟨g, 17, none⟩) hg (by simp)).trans c1
  have q2 := (ka.cell (p := ⟨g, 19, none⟩) hg (by simp)).trans c2
  have HK5 := hide ((HK3.out.trans hk4).trans ka)
  clear D HK3 hk4 ka c1 c2 hcv
  go_wp2
  go_ret
  exact ⟨rfl, HK5.out⟩
set_option maxHeartbeats 1000000 in
theorem signs_ok (k : Int) (w : World) (h0 : -9223372036854775808 ≤ k) (h1 : k ≤ 9223372036854775807) (hT : Tab w) (hg : GlW w) :
    Calls Tryz.prog 5 #[.int .i64 k] w fun e w' => e = .returned (.bool true) ∧ Kept [] w w' := by
  have C := hide (sign_ok k w h0 h1 hT hg)
  clear hT hg
  go_enter Tryz.func5, Tryz.ntmps5
  go_wp2_with fail
  refine C.out.mono ?_
  rintro e w1 ⟨rfl, hk⟩
  go_wp2
  go_ret
  exact ⟨rfl, hk⟩
end Go.Proofs.YtlhhgenpcjjajaaGreatDoor
