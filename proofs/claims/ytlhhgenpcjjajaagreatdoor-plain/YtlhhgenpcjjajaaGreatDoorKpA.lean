import Derived.Test.YtlhhgenpcjjajaaGreatDoorVsF
import Derived.PlainAid
set_option linter.unusedSimpArgs false
set_option linter.unusedVariables false
namespace Go.Proofs.YtlhhgenpcjjajaaGreatDoor
open Go.RowKit
theorem empty_append' (s : ByteArray) : (⟨#[]⟩ : ByteArray) ++ s = s := by
  apply ByteArray.ext; rw [ByteArray.data_append]; exact Array.empty_append
theorem extract_all (s : ByteArray) : s.extract 0 s.size = s := by simp
def zRead : Array Value := #[.int .i64 0, .int .i64 0, .slice none 0 0, .string ⟨#[]⟩, .slice none 0 0]
structure Kvs (w : World) (bx R1 R2 k : Nat) (d f l : Int) (n : Nat) (v : Value) (L : List Sp) (o : Option ByteArray) (c2 : Array Value) (W : World) : Prop where
  px : W.heap[bx]? = some (.cells (pcells d f l n v k) 76 (0, 0))
  tr : IsTn W (treeP o) (.el k)
  sp : W.ownsRow 0 53 3 v L.length (scells L)
  r1 : W.heap[R1]? = some (.cells zRead 28 (0, 0))
  r2 : W.heap[R2]? = some (.cells c2 28 (0, 0))
  ne : R1 ≠ R2
  ge : w.heap.size ≤ R2
  kp : Kept [] w W
theorem Kvs.k0 {w : World} {bx R1 R2 k : Nat} {d f l : Int} {n : Nat} {v : Value} {L : List Sp} {o : Option ByteArray} {c2 : Array Value} {W W' : World} (h : Kvs w bx R1 R2 k d f l n v L o c2 W) (hk : Kept [] W W') : Kvs w bx R1 R2 k d f l n v L o c2 W' :=
  ⟨hk.at h.px (by simp), IsTn.kept hk h.tr, hk.ownsRow h.sp (fun _ _ => by simp), hk.at h.r1 (by simp), hk.at h.r2 (by simp), h.ne, h.ge, h.kp.trans hk⟩
theorem row_not {w : World} {base : Nat} {e : TypeId} {sz n : Nat} {v : Value} {xs : List Value} (ho : w.ownsRow base e sz v n xs) {b : Nat} {c : Array Value} {t : TypeId} (hb : w.heap[b]? = some (.cells c t (0, 0))) (hne : e ≠ t) : ∀ k, v.ownBlock = some k → k ∉ [b] := by
  intro k hk hm
  have e1 := List.mem_singleton.1 hm
  subst e1
  rcases ho.2 with ⟨e2, _⟩ | ⟨q', cap', cur, e2, _, hc, _⟩
  · rw [e2] at hk; cases hk
  · rw [e2] at hk
    have e3 := Option.some.inj hk
    subst e3
    rw [hb] at hc
    simp at hc
    exact hne hc.2.symm
theorem Kvs.set {w : World} {bx R1 R2 k : Nat} {d f l : Int} {n : Nat} {v : Value} {L : List Sp} {o : Option ByteArray} {c2 : Array Value} {W : World} (h : Kvs w bx R1 R2 k d f l n v L o c2 W) (j : Nat) (u : Value) : Kvs w bx R1 R2 k d f l n v L o (c2.setIfInBounds j u) (W.setCell ⟨R2, j, none⟩ u) := by
  have hk : Kept [R2] W (W.setCell ⟨R2, j, none⟩ u) := (Kept.refl _ _).setCell (.inl (by simp)) _
  have hb : bx ∉ [R2] := by
    intro hm
    have e := List.mem_singleton.1 hm
    have hp := h.px
    rw [e, h.r2] at hp
    simp at hp
  exact ⟨hk.at h.px hb, IsTn.kn (KN.of_kept hk (fun q hq c t hc ht => by
      have e := List.mem_singleton.1 hq
      subst e
      rw [h.r2] at hc
      simp at hc
      rw [← hc.2] at ht
      revert ht
      decide)) h.tr, hk.ownsRow h.sp (row_not h.sp h.r2 (by decide)), hk.at h.r1 (by simpa using h.ne), block_setCell h.r2 j u, h.ne, h.ge, h.kp.setCell (.inr h.ge) _⟩
def itemsP (o : Option ByteArray) : List It := itemsE (evS (fun _ => false) (kidsP o))
def KrP (w : World) (s : ByteArray) (e : Ending) (w' : World) : Prop := ∃ v t ta tn tc, e = .returned (.tuple #[.agg #[.int .i64 0, .int .i64 (s.size : Int), v, .string t, .slice ta tn tc], .bool true]) ∧ w'.ownsRow w.heap.size 57 3 v (itemsP (bodyT (csOf s))).length (icells (itemsP (bodyT (csOf s)))) ∧ Kept [] w w'
theorem itemsP_len (o : Option ByteArray) : (itemsP o).length ≤ 7 := by
  cases o with
  | none => show (6 : Nat) ≤ 7; decide
  | some s => show (7 : Nat) ≤ 7; decide
theorem evP_ok (o : Option ByteArray) (ho : ∀ s, o = some s → s.size ≤ 1024) (vd : ByteArray → Bool) : (∀ e ∈ evS vd (kidsP o), plainEv e = true) ∧ wgts (evS vd (kidsP o)) ≤ 1073741824 ∧ (evS vd (kidsP o)).any isTag = true := by
  have p1 : plainEv (.enter (⟨#[104, 116, 109, 108]⟩ : ByteArray) []) = true := by simp only [plainEv, ByteArray.toList_eq]; decide
  have p2 : plainEv (.enter (⟨#[104, 101, 97, 100]⟩ : ByteArray) []) = true := by simp only [plainEv, ByteArray.toList_eq]; decide
  have p3 : plainEv (.enter (⟨#[98, 111, 100, 121]⟩ : ByteArray) []) = true := by simp only [plainEv, ByteArray.toList_eq]; decide
  have p4 : plainEv (.leave (⟨#[104, 116, 109, 108]⟩ : ByteArray)) = true := by decide
  have p5 : plainEv (.leave (⟨#[104, 101, 97, 100]⟩ : ByteArray)) = true := by decide
  have p6 : plainEv (.leave (⟨#[98, 111, 100, 121]⟩ : ByteArray)) = true := by decide
  have p7 : ∀ s, o = some s → plainEv (.tx s) = true := fun s h => by simp [plainEv, ho s h]
  cases h1 : vd (⟨#[104, 116, 109, 108]⟩ : ByteArray) <;> cases h2 : vd (⟨#[104, 101, 97, 100]⟩ : ByteArray) <;> cases h3 : vd (⟨#[98, 111, 100, 121]⟩ : ByteArray) <;> cases o with
  | none => simp [kidsP, evS, evT, bodyK, h1, h2, h3, p1, p2, p3, p4, p5, p6, wgts, wgt, isTag]
  | some s => simp [kidsP, evS, evT, bodyK, h1, h2, h3, p1, p2, p3, p4, p5, p6, p7 s rfl, wgts, wgt, isTag]
theorem bodyT_size (cs : ByteArray) (h : cs.size ≤ 1024) : ∀ s, bodyT cs = some s → s.size ≤ 1024 := by
  intro s hs
  unfold bodyT at hs
  split at hs
  · injection hs with hs
    subst hs
    simp
    omega
  · cases hs
theorem PCl.of {w : World} {bx k n : Nat} {d f l : Int} {v : Value} (h : w.heap[bx]? = some (.cells (pcells d f l n v k) 76 (0, 0))) : PCl w bx (pcells d f l n v k) k := ⟨h, rfl⟩
set_option maxRecDepth 100000 in
set_option maxHeartbeats 8000000 in
theorem kread_plain (s : ByteArray) (d f l : Nat) (w : World) (hs : s.size ≤ 1024) (hd : 4 ≤ d ∧ d ≤ 64) (hf : 1 ≤ f ∧ f ≤ 32) (hl : 1 ≤ l ∧ l ≤ 16) (hT : Tab w) (hg : GlW w) (hn : noSigns (csOf s)) :
    Calls Tryz.prog 8 #[.string s, .int .i64 (d : Int), .int .i64 (f : Int), .int .i64 (l : Int), .slice none 0 0] w (KrP w s) := by
  obtain ⟨w0, hw0⟩ : ∃ w0, w0 = w.alloc (.cells zRead 28) := ⟨_, rfl⟩
  have k0 : Kept [] w w0 := by rw [hw0]; exact (Kept.refl _ _).alloc _
  have z0 : w0.heap.size = w.heap.size + 1 := by rw [hw0]; simp
  have r0 : w0.heap[w.heap.size]? = some (.cells zRead 28 (0, 0)) := by rw [hw0]; exact heap_alloc_at w _
  have CN := hide (pnew_ok (d : Int) (f : Int) (l : Int) w0 ⟨by omega, by omega, by omega, by omega, by omega, by omega⟩)
  have HW := hide (show w.alloc (.cells zRead 28) = w0 from hw0.symm)
  unfold zRead at HW
  have hcsz : (csOf s).size ≤ 1024 := by rw [csOf_size]; have := ats_len s s.size; omega
  have HT := hide hT
  have HG := hide hg
  have HNS := hide hn
  have HK0 := hide k0
  have HZ := hide z0
  have HR := hide r0
  clear hw0 k0 z0 r0 hT hg hn
  go_enter Tryz.func8, Tryz.ntmps8
  go_wp2_with fail
  rw [HW.out]
  refine CN.out.mono ?_
  rintro e w1 ⟨rfl, hx1, hk1⟩
  have CW := fun (t : ByteArray) (ht : t.size ≤ 1024) => pwrite_ok w0.heap.size ((d : Int), (f : Int), (l : Int)) (.slice none 0 0) ⟨#[]⟩ t w1.heap.size w1 hx1 (World.ownsRow_nil _ _ _ _) (by show 0 + t.size ≤ 1024; omega) (Nat.le_refl _)
  simp only [empty_append'] at CW
  have HCW := hide (CW s hs)
  have HCT := hide CW
  have HK1 := hide hk1
  have hxl := hide (lt_of_block hx1)
  clear CW hx1 hk1 CN
  go_wp2_with fail
  refine wp_loop_rounds 2 ?_
  rw [rounds_succ]
  by_cases h0 : s.size = 0
  · have e1 : ByteArray.empty = s := by apply ByteArray.ext; exact (Array.eq_empty_of_size_eq_zero h0).symm
    have hz : ((ByteArray.empty).size : Int) = 0 := rfl
    have C0 := hide (HCT.out ByteArray.empty (by decide))
    have E1 := hide e1
    clear e1
    go_wp2_with fail
    refine C0.out.mono ?_
    rintro e w2 ⟨rfl, hpw⟩
    rw [E1.out] at hpw
    have HPW := hide hpw
    clear hpw C0
    go_wp2_with fail
    have hpw := HPW.out
    clear HPW
    clear h0 hz
    obtain ⟨tv, hx2, ow2, hk2, _⟩ := hpw
    have hn2 : Kept [] w0 w2 := HK1.out.next (S' := w0.heap.size :: (Value.slice none 0 0).ownBlock.toList) hk2 (by simp [Value.ownBlock])
    have k3 : Kept [] w2 (w2.alloc (.cells #[.int .i64 0, .int .i64 0, .slice none 0 0, .string ⟨#[]⟩, .slice none 0 0] 28)) := (Kept.refl _ _).alloc _
    have kw3 := (HK0.out.trans hn2).trans k3
    have HB3 := hide (heap_alloc_at w2 (.cells #[.int .i64 0, .int .i64 0, .slice none 0 0, .string ⟨#[]⟩, .slice none 0 0] 28))
    have CC := hide (pclose_plain w0.heap.size d f l tv s w1.heap.size _ (k3.at hx2 (by simp)) (k3.ownsRow ow2 (fun _ _ => by simp)) hs hd hf.2 hl.2 (HT.out.fr (bm := 0) (.of_kept0 kw3)) HNS.out)
    have HKW3 := hide kw3
    have HR3 := hide (k3.at (hn2.at HR.out (by simp)) (by simp))
    have hsz2 : w0.heap.size < w2.heap.size := lt_of_block hx2
    have HSZ := hide hsz2
    clear hx2 ow2 hk2 hn2 k3 kw3 hsz2
    go_wp2_with fail
    refine CC.out.mono ?_
    rintro e w4 ⟨rfl, v4, k4, L4, hx4, ht4, ho4, hl4, hk4⟩
    have hne1 : w2.heap.size ∉ [w0.heap.size] := by have := HSZ.out; simp; omega
    have hne2 : w.heap.size ∉ [w0.heap.size] := by have := HZ.out; simp; omega
    have V4 : Kvs w w0.heap.size w.heap.size w2.heap.size k4 d f l s.size v4 L4 (bodyT (csOf s)) #[.int .i64 0, .int .i64 0, .slice none 0 0, .string ⟨#[]⟩, .slice none 0 0] w4 :=
      ⟨hx4, ht4, ownsRow_base ho4 (Nat.zero_le _), hk4.at HR3.out hne2, hk4.at HB3.out hne1, by have := HZ.out; have := HSZ.out; omega, by have := HZ.out; have := HSZ.out; omega, HKW3.out.next hk4 (by have := HZ.out; simp; omega)⟩
    have d0 : w4.cell? ⟨w2.heap.size, 0, none⟩ = some (.int .i64 0) := by rw [cell_at V4.r2]; rfl
    have f0 := free_at V4.r2 0
    have ES := hide (setCell_same V4.r2 0 (.int .i64 0) rfl)
    have CS := hide (pstop_plain w0.heap.size d f l s.size k4 v4 w4 V4.px)
    have HV4 := hide V4
    have HL4 := hide hl4
    clear hx4 ht4 ho4 hl4 hk4 V4 CC
    go_wp2_with fail
    rw [ES.out]
    refine CS.out.mono ?_
    rintro e w6 ⟨rfl, hk6⟩
    have V6 := HV4.out.k0 hk6
    have g0 : w6.cell? ⟨w2.heap.size, 0, none⟩ = some (.int .i64 0) := by rw [cell_at V6.r2]; rfl
    have g1 : w6.cell? ⟨w2.heap.size, 1, none⟩ = some (.int .i64 0) := by rw [cell_at V6.r2]; rfl
    have y1 := free_at V6.r2 1
    have V7 := V6.set 1 (.int .i64 (s.size : Int))
    obtain ⟨w7, hw7⟩ : ∃ w7, w7 = w6.setCell ⟨w2.heap.size, 1, none⟩ (.int .i64 (s.size : Int)) := ⟨_, rfl⟩
    rw [← hw7] at V7
    have HW7 := hide hw7.symm
    have CL := hide (list_ok w7 w0.heap.size k4 _ _ _ _ (PCl.of V7.px) V7.tr (itemsP (bodyT (csOf s))) rfl (by have := itemsP_len (bodyT (csOf s)); omega))
    have HV7 := hide V7
    clear hk6 V6 V7 hw7 CS
    go_wp2_with fail
    rw [HW7.out]
    refine CL.out.mono ?_
    rintro e w8 ⟨v8, rfl, ho8, hk8⟩
    obtain ⟨a8, p8, hv8⟩ := owns_shape ho8
    subst hv8
    have V8 := HV7.out.k0 hk8
    have g2 : w8.cell? ⟨w2.heap.size, 2, none⟩ = some (.slice none 0 0) := by rw [cell_at V8.r2]; rfl
    have y2 := free_at V8.r2 2
    have V9 := V8.set 2 (.slice a8 (itemsP (bodyT (csOf s))).length p8)
    have ho9 : (w8.setCell ⟨w2.heap.size, 2, none⟩ (.slice a8 (itemsP (bodyT (csOf s))).length p8)).ownsRow w.heap.size 57 3 (.slice a8 (itemsP (bodyT (csOf s))).length p8) (itemsP (bodyT (csOf s))).length (icells (itemsP (bodyT (csOf s)))) := ((Kept.refl [w2.heap.size] w8).setCell (.inl (by simp)) _).ownsRow (ownsRow_base ho8 HV7.out.kp.size) (row_not ho8 V8.r2 (by decide))
    obtain ⟨w9, hw9⟩ : ∃ w9, w9 = w8.setCell ⟨w2.heap.size, 2, none⟩ (.slice a8 (itemsP (bodyT (csOf s))).length p8) := ⟨_, rfl⟩
    rw [← hw9] at V9 ho9
    have HW9 := hide hw9.symm
    have CX := hide (text_ok w9 w0.heap.size k4 _ _ _ _ (PCl.of V9.px) V9.tr (HT.out.fr (bm := 0) (.of_kept0 V9.kp)).1 (HG.out.kept V9.kp) (evP_ok _ (bodyT_size _ hcsz)))
    have HV9 := hide V9
    have HO9 := hide ho9
    clear ho8 hk8 V8 V9 ho9 hw9 CL
    go_wp2_with fail
    rw [HW9.out]
    refine CX.out.mono ?_
    rintro e w10 ⟨t10, rfl, hk10⟩
    have V10 := HV9.out.k0 hk10
    have g3 : w10.cell? ⟨w2.heap.size, 3, none⟩ = some (.string ⟨#[]⟩) := by rw [cell_at V10.r2]; rfl
    have y3 := free_at V10.r2 3
    have V11 := V10.set 3 (.string t10)
    have ho11 := ((Kept.refl [w2.heap.size] w10).setCell (p := ⟨w2.heap.size, 3, none⟩) (.inl (by simp)) (.string t10)).ownsRow (hk10.ownsRow HO9.out (fun _ _ => by simp)) (row_not (hk10.ownsRow HO9.out (fun _ _ => by simp)) V10.r2 (by decide))
    obtain ⟨w11, hw11⟩ : ∃ w11, w11 = w10.setCell ⟨w2.heap.size, 3, none⟩ (.string t10) := ⟨_, rfl⟩
    rw [← hw11] at V11 ho11
    have HW11 := hide hw11.symm
    have CT := hide (trail_plain w0.heap.size d f l s.size k4 0 v4 L4 w11 V11.px V11.sp (by have := HL4.out; omega))
    have HV11 := hide V11
    have HO11 := hide ho11
    clear hk10 V10 V11 ho11 hw11 CX
    go_wp2_with fail
    rw [HW11.out]
    refine CT.out.mono ?_
    rintro e w12 ⟨a12, n12, c12, rfl, hk12⟩
    have V12 := HV11.out.k0 hk12
    have ho12 := hk12.ownsRow HO11.out (fun _ _ => by simp)
    have b12 := V12.r2
    have r12 := V12.r1
    have m0 : w12.cell? ⟨w2.heap.size, 0, none⟩ = some (.int .i64 0) := by rw [cell_at b12]; rfl
    have m1 : w12.cell? ⟨w2.heap.size, 1, none⟩ = some (.int .i64 (s.size : Int)) := by rw [cell_at b12]; rfl
    have m2 : w12.cell? ⟨w2.heap.size, 2, none⟩ = some (.slice a8 (itemsP (bodyT (csOf s))).length p8) := by rw [cell_at b12]; rfl
    have m3 : w12.cell? ⟨w2.heap.size, 3, none⟩ = some (.string t10) := by rw [cell_at b12]; rfl
    have m4 : w12.cell? ⟨w2.heap.size, 4, none⟩ = some (.slice none 0 0) := by rw [cell_at b12]; rfl
    have y4 := free_at b12 4
    have u0 : w12.cell? ⟨w.heap.size, 0, none⟩ = some (.int .i64 0) := by rw [cell_at r12]; rfl
    have u1 : w12.cell? ⟨w.heap.size, 1, none⟩ = some (.int .i64 0) := by rw [cell_at r12]; rfl
    have u2 : w12.cell? ⟨w.heap.size, 2, none⟩ = some (.slice none 0 0) := by rw [cell_at r12]; rfl
    have u3 : w12.cell? ⟨w.heap.size, 3, none⟩ = some (.string ⟨#[]⟩) := by rw [cell_at r12]; rfl
    have u4 : w12.cell? ⟨w.heap.size, 4, none⟩ = some (.slice none 0 0) := by rw [cell_at r12]; rfl
    have j0 := free_at r12 0
    have j1 := free_at r12 1
    have j2 := free_at r12 2
    have j3 := free_at r12 3
    have j4 := free_at r12 4
    have hwr : w.heap.size ≠ w2.heap.size := V12.ne
    have hwr2 : w2.heap.size ≠ w.heap.size := fun h => V12.ne h.symm
    have HV12 := hide V12
    have HO12 := hide ho12
    clear V12 ho12 b12 r12 hk12 CT
    generalize hlen : (itemsP (bodyT (csOf s))).length = len at *
    have HLEN := hide hlen
    clear hlen
    go_wp2
    refine bodyPost_ret (v := .tuple #[.agg #[.int .i64 0, .int .i64 (s.size : Int), .slice a8 len p8, .string t10, .slice a12 n12 c12], .bool true]) ?_ rfl ⟨_, _, _, _, _, rfl, ?_, ?_⟩
    · simp [results, Tryz.results8, asAddr, Result.andThen, go_sem, u0, u1, u2, u3, u4, hwr, hwr2]
    · rw [HLEN.out]
      have h5 := row_not HO12.out HV12.out.r2 (by decide)
      have h6 := row_not HO12.out HV12.out.r1 (by decide)
      refine Kept.ownsRow (S := [w2.heap.size, w.heap.size]) (((((((Kept.refl _ w12).setCell (.inl (by simp)) _).setCell (.inl (by simp)) _).setCell (.inl (by simp)) _).setCell (.inl (by simp)) _).setCell (.inl (by simp)) _).setCell (.inl (by simp)) _) HO12.out (fun q hq => ?_)
      have a5 := h5 q hq
      have a6 := h6 q hq
      simp at a5 a6 ⊢
      exact ⟨a5, a6⟩
    · have m := HV12.out.kp
      have hge := HV12.out.ge
      exact (((((m.setCell (.inr hge) _).setCell (.inr (Nat.le_refl _)) _).setCell (.inr (Nat.le_refl _)) _).setCell (.inr (Nat.le_refl _)) _).setCell (.inr (Nat.le_refl _)) _).setCell (.inr (Nat.le_refl _)) _
  · go_wp2_with fail
    refine HCW.out.mono ?_
    rintro e w2 ⟨rfl, hpw⟩
    have HPW := hide hpw
    clear hpw
    go_wp2_with fail
    rw [rounds_succ]
    go_wp2_with fail
    have hpw := HPW.out
    clear HPW
    obtain ⟨tv, hx2, ow2, hk2, _⟩ := hpw
    have hn2 : Kept [] w0 w2 := HK1.out.next (S' := w0.heap.size :: (Value.slice none 0 0).ownBlock.toList) hk2 (by simp [Value.ownBlock])
    have k3 : Kept [] w2 (w2.alloc (.cells #[.int .i64 0, .int .i64 0, .slice none 0 0, .string ⟨#[]⟩, .slice none 0 0] 28)) := (Kept.refl _ _).alloc _
    have kw3 := (HK0.out.trans hn2).trans k3
    have HB3 := hide (heap_alloc_at w2 (.cells #[.int .i64 0, .int .i64 0, .slice none 0 0, .string ⟨#[]⟩, .slice none 0 0] 28))
    have CC := hide (pclose_plain w0.heap.size d f l tv s w1.heap.size _ (k3.at hx2 (by simp)) (k3.ownsRow ow2 (fun _ _ => by simp)) hs hd hf.2 hl.2 (HT.out.fr (bm := 0) (.of_kept0 kw3)) HNS.out)
    have HKW3 := hide kw3
    have HR3 := hide (k3.at (hn2.at HR.out (by simp)) (by simp))
    have hsz2 : w0.heap.size < w2.heap.size := lt_of_block hx2
    have HSZ := hide hsz2
    clear hx2 ow2 hk2 hn2 k3 kw3 hsz2
    go_wp2_with fail
    refine CC.out.mono ?_
    rintro e w4 ⟨rfl, v4, k4, L4, hx4, ht4, ho4, hl4, hk4⟩
    have hne1 : w2.heap.size ∉ [w0.heap.size] := by have := HSZ.out; simp; omega
    have hne2 : w.heap.size ∉ [w0.heap.size] := by have := HZ.out; simp; omega
    have V4 : Kvs w w0.heap.size w.heap.size w2.heap.size k4 d f l s.size v4 L4 (bodyT (csOf s)) #[.int .i64 0, .int .i64 0, .slice none 0 0, .string ⟨#[]⟩, .slice none 0 0] w4 :=
      ⟨hx4, ht4, ownsRow_base ho4 (Nat.zero_le _), hk4.at HR3.out hne2, hk4.at HB3.out hne1, by have := HZ.out; have := HSZ.out; omega, by have := HZ.out; have := HSZ.out; omega, HKW3.out.next hk4 (by have := HZ.out; simp; omega)⟩
    have d0 : w4.cell? ⟨w2.heap.size, 0, none⟩ = some (.int .i64 0) := by rw [cell_at V4.r2]; rfl
    have f0 := free_at V4.r2 0
    have ES := hide (setCell_same V4.r2 0 (.int .i64 0) rfl)
    have CS := hide (pstop_plain w0.heap.size d f l s.size k4 v4 w4 V4.px)
    have HV4 := hide V4
    have HL4 := hide hl4
    clear hx4 ht4 ho4 hl4 hk4 V4 CC
    go_wp2_with fail
    rw [ES.out]
    refine CS.out.mono ?_
    rintro e w6 ⟨rfl, hk6⟩
    have V6 := HV4.out.k0 hk6
    have g0 : w6.cell? ⟨w2.heap.size, 0, none⟩ = some (.int .i64 0) := by rw [cell_at V6.r2]; rfl
    have g1 : w6.cell? ⟨w2.heap.size, 1, none⟩ = some (.int .i64 0) := by rw [cell_at V6.r2]; rfl
    have y1 := free_at V6.r2 1
    have V7 := V6.set 1 (.int .i64 (s.size : Int))
    obtain ⟨w7, hw7⟩ : ∃ w7, w7 = w6.setCell ⟨w2.heap.size, 1, none⟩ (.int .i64 (s.size : Int)) := ⟨_, rfl⟩
    rw [← hw7] at V7
    have HW7 := hide hw7.symm
    have CL := hide (list_ok w7 w0.heap.size k4 _ _ _ _ (PCl.of V7.px) V7.tr (itemsP (bodyT (csOf s))) rfl (by have := itemsP_len (bodyT (csOf s)); omega))
    have HV7 := hide V7
    clear hk6 V6 V7 hw7 CS
    go_wp2_with fail
    rw [HW7.out]
    refine CL.out.mono ?_
    rintro e w8 ⟨v8, rfl, ho8, hk8⟩
    obtain ⟨a8, p8, hv8⟩ := owns_shape ho8
    subst hv8
    have V8 := HV7.out.k0 hk8
    have g2 : w8.cell? ⟨w2.heap.size, 2, none⟩ = some (.slice none 0 0) := by rw [cell_at V8.r2]; rfl
    have y2 := free_at V8.r2 2
    have V9 := V8.set 2 (.slice a8 (itemsP (bodyT (csOf s))).length p8)
    have ho9 : (w8.setCell ⟨w2.heap.size, 2, none⟩ (.slice a8 (itemsP (bodyT (csOf s))).length p8)).ownsRow w.heap.size 57 3 (.slice a8 (itemsP (bodyT (csOf s))).length p8) (itemsP (bodyT (csOf s))).length (icells (itemsP (bodyT (csOf s)))) := ((Kept.refl [w2.heap.size] w8).setCell (.inl (by simp)) _).ownsRow (ownsRow_base ho8 HV7.out.kp.size) (row_not ho8 V8.r2 (by decide))
    obtain ⟨w9, hw9⟩ : ∃ w9, w9 = w8.setCell ⟨w2.heap.size, 2, none⟩ (.slice a8 (itemsP (bodyT (csOf s))).length p8) := ⟨_, rfl⟩
    rw [← hw9] at V9 ho9
    have HW9 := hide hw9.symm
    have CX := hide (text_ok w9 w0.heap.size k4 _ _ _ _ (PCl.of V9.px) V9.tr (HT.out.fr (bm := 0) (.of_kept0 V9.kp)).1 (HG.out.kept V9.kp) (evP_ok _ (bodyT_size _ hcsz)))
    have HV9 := hide V9
    have HO9 := hide ho9
    clear ho8 hk8 V8 V9 ho9 hw9 CL
    go_wp2_with fail
    rw [HW9.out]
    refine CX.out.mono ?_
    rintro e w10 ⟨t10, rfl, hk10⟩
    have V10 := HV9.out.k0 hk10
    have g3 : w10.cell? ⟨w2.heap.size, 3, none⟩ = some (.string ⟨#[]⟩) := by rw [cell_at V10.r2]; rfl
    have y3 := free_at V10.r2 3
    have V11 := V10.set 3 (.string t10)
    have ho11 := ((Kept.refl [w2.heap.size] w10).setCell (p := ⟨w2.heap.size, 3, none⟩) (.inl (by simp)) (.string t10)).ownsRow (hk10.ownsRow HO9.out (fun _ _ => by simp)) (row_not (hk10.ownsRow HO9.out (fun _ _ => by simp)) V10.r2 (by decide))
    obtain ⟨w11, hw11⟩ : ∃ w11, w11 = w10.setCell ⟨w2.heap.size, 3, none⟩ (.string t10) := ⟨_, rfl⟩
    rw [← hw11] at V11 ho11
    have HW11 := hide hw11.symm
    have CT := hide (trail_plain w0.heap.size d f l s.size k4 0 v4 L4 w11 V11.px V11.sp (by have := HL4.out; omega))
    have HV11 := hide V11
    have HO11 := hide ho11
    clear hk10 V10 V11 ho11 hw11 CX
    go_wp2_with fail
    rw [HW11.out]
    refine CT.out.mono ?_
    rintro e w12 ⟨a12, n12, c12, rfl, hk12⟩
    have V12 := HV11.out.k0 hk12
    have ho12 := hk12.ownsRow HO11.out (fun _ _ => by simp)
    have b12 := V12.r2
    have r12 := V12.r1
    have m0 : w12.cell? ⟨w2.heap.size, 0, none⟩ = some (.int .i64 0) := by rw [cell_at b12]; rfl
    have m1 : w12.cell? ⟨w2.heap.size, 1, none⟩ = some (.int .i64 (s.size : Int)) := by rw [cell_at b12]; rfl
    have m2 : w12.cell? ⟨w2.heap.size, 2, none⟩ = some (.slice a8 (itemsP (bodyT (csOf s))).length p8) := by rw [cell_at b12]; rfl
    have m3 : w12.cell? ⟨w2.heap.size, 3, none⟩ = some (.string t10) := by rw [cell_at b12]; rfl
    have m4 : w12.cell? ⟨w2.heap.size, 4, none⟩ = some (.slice none 0 0) := by rw [cell_at b12]; rfl
    have y4 := free_at b12 4
    have u0 : w12.cell? ⟨w.heap.size, 0, none⟩ = some (.int .i64 0) := by rw [cell_at r12]; rfl
    have u1 : w12.cell? ⟨w.heap.size, 1, none⟩ = some (.int .i64 0) := by rw [cell_at r12]; rfl
    have u2 : w12.cell? ⟨w.heap.size, 2, none⟩ = some (.slice none 0 0) := by rw [cell_at r12]; rfl
    have u3 : w12.cell? ⟨w.heap.size, 3, none⟩ = some (.string ⟨#[]⟩) := by rw [cell_at r12]; rfl
    have u4 : w12.cell? ⟨w.heap.size, 4, none⟩ = some (.slice none 0 0) := by rw [cell_at r12]; rfl
    have j0 := free_at r12 0
    have j1 := free_at r12 1
    have j2 := free_at r12 2
    have j3 := free_at r12 3
    have j4 := free_at r12 4
    have hwr : w.heap.size ≠ w2.heap.size := V12.ne
    have hwr2 : w2.heap.size ≠ w.heap.size := fun h => V12.ne h.symm
    have HV12 := hide V12
    have HO12 := hide ho12
    clear V12 ho12 b12 r12 hk12 CT
    generalize hlen : (itemsP (bodyT (csOf s))).length = len at *
    have HLEN := hide hlen
    clear hlen
    go_wp2
    refine bodyPost_ret (v := .tuple #[.agg #[.int .i64 0, .int .i64 (s.size : Int), .slice a8 len p8, .string t10, .slice a12 n12 c12], .bool true]) ?_ rfl ⟨_, _, _, _, _, rfl, ?_, ?_⟩
    · simp [results, Tryz.results8, asAddr, Result.andThen, go_sem, u0, u1, u2, u3, u4, hwr, hwr2]
    · rw [HLEN.out]
      have h5 := row_not HO12.out HV12.out.r2 (by decide)
      have h6 := row_not HO12.out HV12.out.r1 (by decide)
      refine Kept.ownsRow (S := [w2.heap.size, w.heap.size]) (((((((Kept.refl _ w12).setCell (.inl (by simp)) _).setCell (.inl (by simp)) _).setCell (.inl (by simp)) _).setCell (.inl (by simp)) _).setCell (.inl (by simp)) _).setCell (.inl (by simp)) _) HO12.out (fun q hq => ?_)
      have a5 := h5 q hq
      have a6 := h6 q hq
      simp at a5 a6 ⊢
      exact ⟨a5, a6⟩
    · have m := HV12.out.kp
      have hge := HV12.out.ge
      exact (((((m.setCell (.inr hge) _).setCell (.inr (Nat.le_refl _)) _).setCell (.inr (Nat.le_refl _)) _).setCell (.inr (Nat.le_refl _)) _).setCell (.inr (Nat.le_refl _)) _).setCell (.inr (Nat.le_refl _)) _
end Go.Proofs.YtlhhgenpcjjajaaGreatDoor
namespace Go.Proofs.YtlhhgenpcjjajaaGreatDoor
open Go.RowKit Go.PlainAid
theorem one_byte {u : ByteArray} (h : u.size = 1) : ∃ c, u = ⟨#[c]⟩ ∧ bt u 0 = (c.toNat : Int) := by
  obtain ⟨d⟩ := u
  have hd : d.size = 1 := h
  obtain ⟨c, hc⟩ := Array.size_eq_one_iff.1 hd
  subst hc
  exact ⟨c, rfl, rfl⟩
theorem blank_bt {u : ByteArray} (h : u.size = 1) : isBlankS u = (decide (bt u 0 = 32) || decide (bt u 0 = 10) || decide (bt u 0 = 9) || decide (bt u 0 = 12)) := by
  obtain ⟨c, rfl, hb⟩ := one_byte h
  rw [hb]
  unfold isBlankS hasS eqS
  simp only [ByteArray.toList_eq, List.any_cons, List.any_nil, Bool.or_false]
  have e : ∀ n : UInt8, ((([c] : List UInt8) == [n])) = decide ((c.toNat : Int) = (n.toNat : Int)) := by
    intro n
    rw [Bool.eq_iff_iff]
    simp
    rw [← UInt8.toNat_inj]
    omega
  show ((([c] : List UInt8) == [32]) || ((([c] : List UInt8) == [9]) || ((([c] : List UInt8) == [10]) || (([c] : List UInt8) == [12])))) = _
  rw [e, e, e, e]
  show (decide ((c.toNat : Int) = 32) || (decide ((c.toNat : Int) = 9) || (decide ((c.toNat : Int) = 10) || decide ((c.toNat : Int) = 12)))) = _
  cases decide ((c.toNat : Int) = 32) <;> cases decide ((c.toNat : Int) = 9) <;> cases decide ((c.toNat : Int) = 10) <;> cases decide ((c.toNat : Int) = 12) <;> rfl
set_option maxRecDepth 100000 in
set_option maxHeartbeats 2000000 in
theorem blanks_one (u : ByteArray) (w : World) (h : u.size = 1) : Calls Tryz.prog 24 #[.string u] w fun e w' => e = .returned (.bool (isBlankS u)) ∧ Kept [] w w' := by
  have hb := blank_bt h
  have hbt := get_bt u
  obtain ⟨m, hm⟩ : ∃ m, m = isBlankS u := ⟨_, rfl⟩
  rw [← hm]
  rw [← hm] at hb
  generalize hx : bt u 0 = x at hb
  clear hm
  by_cases c0 : x = 32
  · subst c0
    have E : Hid (m = true) := hide (by rw [hb]; decide)
    clear hb
    go_enter Tryz.func24, Tryz.ntmps24
    go_wp2_with fail
    refine wp_loop_rounds 2 ?_
    rw [rounds_succ]
    go_wp2_with fail
    rw [rounds_succ]
    go_wp2
    go_ret
    exact ⟨by rw [E.out]; rfl, Kept.refl _ _⟩
  by_cases c1 : x = 10
  · subst c1
    have E : Hid (m = true) := hide (by rw [hb]; decide)
    clear hb c0
    go_enter Tryz.func24, Tryz.ntmps24
    go_wp2_with fail
    refine wp_loop_rounds 2 ?_
    rw [rounds_succ]
    go_wp2_with fail
    rw [rounds_succ]
    go_wp2
    go_ret
    exact ⟨by rw [E.out]; rfl, Kept.refl _ _⟩
  by_cases c2 : x = 9
  · subst c2
    have E : Hid (m = true) := hide (by rw [hb]; decide)
    clear hb c0 c1
    go_enter Tryz.func24, Tryz.ntmps24
    go_wp2_with fail
    refine wp_loop_rounds 2 ?_
    rw [rounds_succ]
    go_wp2_with fail
    rw [rounds_succ]
    go_wp2
    go_ret
    exact ⟨by rw [E.out]; rfl, Kept.refl _ _⟩
  by_cases c3 : x = 12
  · subst c3
    have E : Hid (m = true) := hide (by rw [hb]; decide)
    clear hb c0 c1 c2
    go_enter Tryz.func24, Tryz.ntmps24
    go_wp2_with fail
    refine wp_loop_rounds 2 ?_
    rw [rounds_succ]
    go_wp2_with fail
    rw [rounds_succ]
    go_wp2
    go_ret
    exact ⟨by rw [E.out]; rfl, Kept.refl _ _⟩
  have E : Hid (m = false) := hide (by rw [hb]; simp [c0, c1, c2, c3])
  clear hb
  have b0 : (x != 32) = true := by simp [c0]
  have b1 : (x != 10) = true := by simp [c1]
  have b2 : (x != 9) = true := by simp [c2]
  have b3 : (x != 12) = true := by simp [c3]
  go_enter Tryz.func24, Tryz.ntmps24
  go_wp2_with fail
  refine wp_loop_rounds 2 ?_
  rw [rounds_succ]
  go_wp2
  go_ret
  exact ⟨by rw [E.out]; rfl, Kept.refl _ _⟩
end Go.Proofs.YtlhhgenpcjjajaaGreatDoor
namespace Go.Proofs.YtlhhgenpcjjajaaGreatDoor
open Go.RowKit Go.PlainAid
def goodB (x : Int) : Prop := x ≠ 60 ∧ x ≠ 38 ∧ x ≠ 0 ∧ x ≠ 13
def good (u : ByteArray) : Prop := ∀ j, j < u.size → goodB (bt u j)
theorem bt_append (u v : ByteArray) (j : Nat) : bt (u ++ v) j = if j < u.size then bt u j else bt v (j - u.size) := by
  unfold bt
  have hz : (u ++ v).size = u.size + v.size := by simp
  by_cases h1 : j < u.size
  · rw [if_pos h1, dif_pos (by omega), dif_pos h1, ByteArray.getElem_append_left h1]
  · rw [if_neg h1]
    by_cases h2 : j - u.size < v.size
    · rw [dif_pos (by omega), dif_pos h2, ByteArray.getElem_append_right (by omega)]
    · rw [dif_neg (by omega), dif_neg h2]
theorem bt_extract {s : ByteArray} {a b j : Nat} (h : a + j < b) (hb : b ≤ s.size) : bt (s.extract a b) j = bt s (a + j) := by
  have h1 : j < (s.extract a b).size := by simp; omega
  unfold bt
  rw [dif_pos h1, dif_pos (by omega)]
  rw [ByteArray.getElem_extract]
theorem good.app {u s : ByteArray} {i : Nat} (h : good u) (hi : i < s.size) (hx : goodB (bt s i)) : good (u ++ s.extract i (i + 1)) := by
  intro j hj
  rw [bt_append]
  split
  · rename_i h1; exact h j h1
  · have hz : (u ++ s.extract i (i + 1)).size = u.size + 1 := by simp; omega
    rw [bt_extract (by omega) (by omega)]
    have : i + (j - u.size) = i := by omega
    rw [this]
    exact hx
theorem good_ats {u : ByteArray} (h : good u) : ∀ n, n ≤ u.size → ats u n = List.range n := by
  intro n hn
  unfold ats
  rw [List.filter_eq_self]
  intro a ha
  have ha' : a < n := by simpa using ha
  unfold keepB
  by_cases h0 : 0 < a
  · have := (h (a - 1) (by omega)).2.2.2
    simp [this]
  · simp [h0]
theorem good_cs {u : ByteArray} (h : good u) : csOf u = u := by
  unfold csOf
  rw [good_ats h _ (Nat.le_refl _)]
  apply ByteArray.ext
  apply Array.ext
  · simp
  · intro i h1 h2
    have hi : i < u.size := h2
    have e0 : bt u i = (u[i].toNat : Int) := by unfold bt; rw [dif_pos hi]
    have e1 : chI u i = (u[i].toNat : Int) := by
      unfold chI
      rw [if_neg (h i hi).2.2.2, e0]
    have e2 : chB u i = u[i] := by
      unfold chB
      rw [e1]
      simp
    simp
    exact e2
theorem good_signs {u : ByteArray} (h : good u) : noSigns u := by
  intro i hi
  obtain ⟨g0, g1, g2, g3⟩ := h i hi
  have hz : (chOf u i).size = 1 := by unfold chOf; simp; omega
  obtain ⟨c, hc, hb⟩ := one_byte hz
  have hb2 : bt u i = (c.toNat : Int) := by
    rw [← hb]
    unfold chOf
    rw [bt_extract (by omega) (by omega)]
    rfl
  rw [hb2] at g0 g1 g2
  have hx : (u.extract i u.size).extract 0 1 = ⟨#[c]⟩ := by
    rw [← hc]
    unfold chOf
    rw [ByteArray.extract_extract]
    congr 1
    omega
  have f : ∀ n : UInt8, ((c.toNat : Int) ≠ (n.toNat : Int)) → ((([c] : List UInt8) == [n])) = false := by
    intro n hn
    rw [Bool.eq_false_iff]
    intro he
    apply hn
    simp at he
    rw [he]
  refine ⟨?_, ?_, ?_⟩
  · unfold pre
    rw [show (ByteArray.size ⟨#[60]⟩) = 1 from rfl, hx, ByteArray.toList_eq, ByteArray.toList_eq]
    rw [show ((⟨#[c]⟩ : ByteArray).data.toList == (⟨#[60]⟩ : ByteArray).data.toList) = false from f 60 g0]
    simp
  · unfold pre
    rw [show (ByteArray.size ⟨#[38]⟩) = 1 from rfl, hx, ByteArray.toList_eq, ByteArray.toList_eq]
    rw [show ((⟨#[c]⟩ : ByteArray).data.toList == (⟨#[38]⟩ : ByteArray).data.toList) = false from f 38 g1]
    simp
  · rw [hc]
    unfold isNulS eqS
    rw [ByteArray.toList_eq, ByteArray.toList_eq]
    exact f 0 g2
theorem ext_ext (u : ByteArray) (j : Nat) : (u.extract j u.size).extract 0 1 = chOf u j := by
  unfold chOf
  rw [ByteArray.extract_extract]
  by_cases h : j + 1 ≤ u.size
  · congr 1; omega
  · apply ByteArray.ext
    simp
    rw [show min (j + 1) u.size = min (j + 1) u.data.size from rfl]
    apply Array.ext
    · simp
    · intro i h1 h2; simp
theorem ext_drop (u : ByteArray) (j : Nat) (h : j < u.size) : (u.extract j u.size).extract 1 (u.extract j u.size).size = u.extract (j + 1) u.size := by
  rw [ByteArray.extract_extract]
  have : (u.extract j u.size).size = u.size - j := by simp
  rw [this]
  congr 1
  omega
theorem blank_lt {u : ByteArray} {j : Nat} (h : j < u.size) (hj : j ≤ nb u) (hb : isBlankS (chOf u j) = true) : j + 1 ≤ nb u := by
  apply Classical.byContradiction
  intro hn
  have e : nb u = j := by omega
  have := nbFrom_not u 0 (by unfold nb at e; omega)
  unfold nb at e
  rw [e, hb] at this
  cases this
theorem blank_eq {u : ByteArray} {j : Nat} (hj : j ≤ nb u) (hb : isBlankS (chOf u j) = false) : nb u = j := by
  apply Classical.byContradiction
  intro hn
  have := nbFrom_blank u 0 j (Nat.zero_le _) (by unfold nb at hj hn; omega)
  rw [hb] at this
  cases this
theorem body_none {u : ByteArray} (h : nb u = u.size) : (itemsP (bodyT u)).length = 6 := by
  unfold bodyT
  rw [if_neg (by omega)]
  rfl
theorem body_some {u : ByteArray} (h : nb u < u.size) : itemsP (bodyT u) = itemsP (some (u.extract (nb u) u.size)) := by
  unfold bodyT
  rw [if_pos h]
theorem items_cells (t : ByteArray) : (itemsP (some t)).length = 7 ∧ (icells (itemsP (some t)))[12]? = some (.int .i64 3) ∧ (icells (itemsP (some t)))[13]? = some (.string t) := by
  refine ⟨rfl, rfl, rfl⟩
theorem row_facts {u : ByteArray} {w : World} {base : Nat} {v : Value} (ho : w.ownsRow base 57 3 v (itemsP (bodyT u)).length (icells (itemsP (bodyT u)))) :
    ∃ g cap n, v = .slice (some ⟨g, 0, none⟩) n cap ∧ g < w.heap.size ∧ (nb u = u.size → n = 6) ∧ (nb u < u.size → n = 7 ∧ w.cell? ⟨g, 12, none⟩ = some (.int .i64 3) ∧ w.cell? ⟨g, 13, none⟩ = some (.string (u.extract (nb u) u.size))) := by
  have hle := nbFrom_le u 0
  have hpos : (itemsP (bodyT u)).length ≠ 0 := by
    by_cases h : nb u < u.size
    · rw [body_some h]; exact Nat.succ_ne_zero _
    · rw [body_none (by unfold nb at h ⊢; omega)]; decide
  rcases ho.2 with ⟨_, h0⟩ | ⟨g, cap, cur, rfl, _, hc, _⟩
  · exact absurd h0 hpos
  · refine ⟨g, cap, _, rfl, lt_of_block hc, body_none, fun h => ?_⟩
    have e := body_some h
    rw [e] at ho
    refine ⟨by rw [e]; rfl, ?_, ?_⟩
    · have := ho.cells (g := g) rfl 12 _ (items_cells _).2.1
      rwa [addr_add] at this
    · have := ho.cells (g := g) rfl 13 _ (items_cells _).2.2
      rwa [addr_add] at this
def zOf : Value → Nat
  | .string u => u.size
  | _ => 0
structure InB (w : World) (bx g cap n : Nat) (u : ByteArray) (w' : World) : Prop where
  e0 : w'.cell? ⟨bx, 0, none⟩ = some (.int .i64 0)
  e2 : w'.cell? ⟨bx, 2, none⟩ = some (.slice (some ⟨g, 0, none⟩) n cap)
  b0 : nb u = u.size → n = 6
  b7 : nb u < u.size → n = 7 ∧ w'.cell? ⟨g, 12, none⟩ = some (.int .i64 3) ∧ w'.cell? ⟨g, 13, none⟩ = some (.string (u.extract (nb u) u.size))
  lb : bx < w'.heap.size
  lg : g < w'.heap.size
  kp : Kept [] w w'
theorem Kept.cell0 {w w' : World} (h : Kept [] w w') {b j : Nat} (hb : b < w.heap.size) : w'.cell? ⟨b, j, none⟩ = w.cell? ⟨b, j, none⟩ := by
  have := h.block b hb (by simp)
  simp [World.cell?, this]
theorem InB.k {w : World} {bx g cap n : Nat} {u : ByteArray} {w1 w2 : World} (h : InB w bx g cap n u w1) (k : Kept [] w1 w2) : InB w bx g cap n u w2 :=
  ⟨by rw [k.cell0 h.lb]; exact h.e0, by rw [k.cell0 h.lb]; exact h.e2, h.b0, fun q => by rw [k.cell0 h.lg, k.cell0 h.lg]; exact h.b7 q, Nat.lt_of_lt_of_le h.lb k.size, Nat.lt_of_lt_of_le h.lg k.size, h.kp.trans k⟩
theorem InB.new {w w1 : World} {g cap n : Nat} {u tx : ByteArray} {a : Value} {x : Value} (hg : g < w1.heap.size) (h6 : nb u = u.size → n = 6) (h7 : nb u < u.size → n = 7 ∧ w1.cell? ⟨g, 12, none⟩ = some (.int .i64 3) ∧ w1.cell? ⟨g, 13, none⟩ = some (.string (u.extract (nb u) u.size))) (k : Kept [] w w1) :
    InB w w1.heap.size g cap n u (w1.alloc (.cells #[.int .i64 0, x, .slice (some ⟨g, 0, none⟩) n cap, .string tx, a] 28)) := by
  have k2 : Kept [] w1 (w1.alloc (.cells #[.int .i64 0, x, .slice (some ⟨g, 0, none⟩) n cap, .string tx, a] 28)) := (Kept.refl _ _).alloc _
  have b := heap_alloc_at w1 (.cells #[.int .i64 0, x, .slice (some ⟨g, 0, none⟩) n cap, .string tx, a] 28)
  refine ⟨by rw [cell_at b]; rfl, by rw [cell_at b]; rfl, h6, fun q => ?_, lt_of_block b, Nat.lt_of_lt_of_le hg k2.size, k.trans k2⟩
  rw [k2.cell0 hg, k2.cell0 hg]
  exact h7 q
end Go.Proofs.YtlhhgenpcjjajaaGreatDoor
namespace Go.Proofs.YtlhhgenpcjjajaaGreatDoor
open Go.RowKit Go.PlainAid
set_option maxRecDepth 100000 in
set_option maxHeartbeats 8000000 in
theorem bare_ok (s : ByteArray) (w : World) (hs : s.size ≤ 4096) (hT : Tab w) (hg : GlW w) :
    Calls Tryz.prog 13 #[.string s] w fun e w' => e = .returned (.bool true) ∧ Kept [] w w' := by
  have hbt := get_bt s
  have HT := hide hT
  have HG := hide hg
  clear hT hg
  go_enter Tryz.func13, Tryz.ntmps13
  go_wp2_with fail
  go_loopw [3, 4] (fun t i wr => ∃ (u : ByteArray) (k : Nat), t = .string u ∧ i = .int .i64 k ∧ k ≤ s.size ∧ u.size ≤ 1024 ∧ good u ∧ wr = w) (fun _ i _ => s.size - (intOf i).toNat)
  case atStart => exact ⟨⟨#[]⟩, 0, rfl, rfl, Nat.zero_le _, by decide, fun j hj => absurd hj (Nat.not_lt_zero j), rfl⟩
  case round =>
    obtain ⟨u, k, rfl, rfl, hk, hu, hgd, hw⟩ := hrel
    replace hw := hw.symm
    subst hw
    have HGD := hide hgd
    clear hgd
    by_cases h1 : k < s.size
    · by_cases h2 : u.size < 1024
      · obtain ⟨x, hx⟩ : ∃ x, bt s k = x := ⟨_, rfl⟩
        by_cases c0 : x = 60
        · subst c0
          go_wp2
          go_roundw
          case rel => exact ⟨u, k + 1, rfl, by go_num, by omega, hu, HGD.out, trivial⟩
          case measure => simp [intOf]; omega
        by_cases c1 : x = 38
        · subst c1
          clear c0
          go_wp2
          go_roundw
          case rel => exact ⟨u, k + 1, rfl, by go_num, by omega, hu, HGD.out, trivial⟩
          case measure => simp [intOf]; omega
        by_cases c2 : x = 0
        · subst c2
          clear c0 c1
          go_wp2
          go_roundw
          case rel => exact ⟨u, k + 1, rfl, by go_num, by omega, hu, HGD.out, trivial⟩
          case measure => simp [intOf]; omega
        by_cases c3 : x = 13
        · subst c3
          clear c0 c1 c2
          go_wp2
          go_roundw
          case rel => exact ⟨u, k + 1, rfl, by go_num, by omega, hu, HGD.out, trivial⟩
          case measure => simp [intOf]; omega
        have HGA := hide (HGD.out.app h1 (by rw [hx]; exact ⟨c0, c1, c2, c3⟩))
        have b0 : (x != 60) = true := by simp [c0]
        have b1 : (x != 38) = true := by simp [c1]
        have b2 : (x != 0) = true := by simp [c2]
        have b3 : (x != 13) = true := by simp [c3]
        have hz : (u ++ s.extract k (k + 1)).size ≤ 1024 := by simp; omega
        go_wp2
        go_roundw
        case rel => exact ⟨u ++ s.extract k (k + 1), k + 1, rfl, by go_num, by omega, hz, HGA.out, trivial⟩
        case measure => simp [intOf]; omega
      · have hu2 : u.size = 1024 := by omega
        have C := hide (kread_plain u 4 1 1 w hu ⟨by decide, by decide⟩ ⟨by decide, by decide⟩ ⟨by decide, by decide⟩ HT.out HG.out (by rw [good_cs HGD.out]; exact good_signs HGD.out))
        have HCS := hide (good_cs HGD.out)
        clear HGD
        go_wp2_with fail
        try clear hu2
        refine C.out.mono ?_
        rintro e w1 ⟨v, tx, ta, tn, tc, rfl, ho, hk⟩
        rw [HCS.out] at ho
        obtain ⟨g, cap, n, rfl, hg, h6, h7⟩ := row_facts ho
        have HI0 := hide (InB.new (x := .int .i64 (u.size : Int)) (tx := tx) (a := .slice ta tn tc) (cap := cap) hg h6 h7 hk)
        clear C HT HG ho hk HCS hg h6 h7 hbt
        go_wp2_with fail
        obtain ⟨w2, hw2⟩ : ∃ w2, w2 = w1.alloc (.cells #[.int .i64 0, .int .i64 (u.size : Int), .slice (some ⟨g, 0, none⟩) n cap, .string tx, .slice ta tn tc] 28) := ⟨_, rfl⟩
        have I0 : InB w w1.heap.size g cap n u w2 := by rw [hw2]; exact HI0.out
        rw [← hw2]
        have e0 := I0.e0
        have HI1 := hide I0
        clear I0 HI0 hw2
        go_wp2_with fail
        clear e0
        go_loopw [3] (fun x wz => ∃ (t : ByteArray) (j : Nat), x = .string t ∧ Hid (t = u.extract j u.size) ∧ j ≤ nb u ∧ Hid (InB w w1.heap.size g cap n u wz)) (fun x _ => zOf x)
        case atStart => exact ⟨u, 0, rfl, hide (by simp), Nat.zero_le _, HI1⟩
        case round =>
          obtain ⟨t, j, rfl, ht, hj, hI⟩ := hrel
          by_cases h5 : 0 < t.size
          · have CB := hide (blanks_one (t.extract 0 1) wr (by simp; omega))
            go_wp2_with fail
            refine CB.out.mono ?_
            rintro e w3 ⟨rfl, hk3⟩
            have I3 := hI.out.k hk3
            have HX := hide (ext_ext u j)
            have hzj : t.size = u.size - j := by rw [ht.out]; simp
            cases hb : isBlankS (t.extract 0 1)
            · have e5 : nb u = j := blank_eq hj (by rw [← ext_ext, ← ht.out]; exact hb)
              obtain ⟨rfl, g12, g13⟩ := I3.b7 (by omega)
              have e2 := I3.e2
              have g13' : w3.cell? ⟨g, 13, none⟩ = some (.string t) := by rw [g13, e5, ← ht.out]
              have HI3 := hide I3
              have e6 : t.toList.isEmpty = false := by
                rw [ByteArray.toList_eq, Array.isEmpty_toList]
                rw [Array.isEmpty_eq_false_iff]
                intro h
                have : t.size = 0 := by show t.data.size = 0; rw [h]; rfl
                omega
              clear CB hk3 I3 g13 hI hzj
              go_wp2
              go_ret
              exact ⟨by rfl, HI3.out.kp⟩
            · have e5 : j + 1 ≤ nb u := blank_lt (by omega) hj (by rw [← ext_ext, ← ht.out]; exact hb)
              have ht2 : Hid (t.extract 1 t.size = u.extract (j + 1) u.size) := hide (by have := ext_drop u j (by omega); rw [← ht.out] at this; exact this)
              have HI3 := hide I3
              have hl : 1 ≤ t.size := by omega
              clear CB hk3 I3 hI hzj
              go_wp2
              go_roundw
              case rel => exact ⟨_, j + 1, rfl, ht2, e5, HI3⟩
              case measure => simp [zOf]; omega
          · have e0 : t = ⟨#[]⟩ := by
              apply ByteArray.ext
              apply Array.eq_empty_of_size_eq_zero
              show t.size = 0
              omega
            have hzj : t.size = u.size - j := by rw [ht.out]; simp
            have hle : nb u ≤ u.size := nbFrom_le u 0
            obtain rfl := hI.out.b0 (by omega)
            have e2 := hI.out.e2
            clear ht hzj
            subst e0
            go_wp2
            go_ret
            exact ⟨by rfl, hI.out.kp⟩
    · have hk2 : k = s.size := by omega
      subst hk2
      have C := hide (kread_plain u 4 1 1 w hu ⟨by decide, by decide⟩ ⟨by decide, by decide⟩ ⟨by decide, by decide⟩ HT.out HG.out (by rw [good_cs HGD.out]; exact good_signs HGD.out))
      have HCS := hide (good_cs HGD.out)
      clear HGD
      go_wp2_with fail
      try clear hu2
      refine C.out.mono ?_
      rintro e w1 ⟨v, tx, ta, tn, tc, rfl, ho, hk⟩
      rw [HCS.out] at ho
      obtain ⟨g, cap, n, rfl, hg, h6, h7⟩ := row_facts ho
      have HI0 := hide (InB.new (x := .int .i64 (u.size : Int)) (tx := tx) (a := .slice ta tn tc) (cap := cap) hg h6 h7 hk)
      clear C HT HG ho hk HCS hg h6 h7 hbt
      go_wp2_with fail
      obtain ⟨w2, hw2⟩ : ∃ w2, w2 = w1.alloc (.cells #[.int .i64 0, .int .i64 (u.size : Int), .slice (some ⟨g, 0, none⟩) n cap, .string tx, .slice ta tn tc] 28) := ⟨_, rfl⟩
      have I0 : InB w w1.heap.size g cap n u w2 := by rw [hw2]; exact HI0.out
      rw [← hw2]
      have e0 := I0.e0
      have HI1 := hide I0
      clear I0 HI0 hw2
      go_wp2_with fail
      clear e0
      go_loopw [3] (fun x wz => ∃ (t : ByteArray) (j : Nat), x = .string t ∧ Hid (t = u.extract j u.size) ∧ j ≤ nb u ∧ Hid (InB w w1.heap.size g cap n u wz)) (fun x _ => zOf x)
      case atStart => exact ⟨u, 0, rfl, hide (by simp), Nat.zero_le _, HI1⟩
      case round =>
        obtain ⟨t, j, rfl, ht, hj, hI⟩ := hrel
        by_cases h5 : 0 < t.size
        · have CB := hide (blanks_one (t.extract 0 1) wr (by simp; omega))
          go_wp2_with fail
          refine CB.out.mono ?_
          rintro e w3 ⟨rfl, hk3⟩
          have I3 := hI.out.k hk3
          have HX := hide (ext_ext u j)
          have hzj : t.size = u.size - j := by rw [ht.out]; simp
          cases hb : isBlankS (t.extract 0 1)
          · have e5 : nb u = j := blank_eq hj (by rw [← ext_ext, ← ht.out]; exact hb)
            obtain ⟨rfl, g12, g13⟩ := I3.b7 (by omega)
            have e2 := I3.e2
            have g13' : w3.cell? ⟨g, 13, none⟩ = some (.string t) := by rw [g13, e5, ← ht.out]
            have HI3 := hide I3
            have e6 : t.toList.isEmpty = false := by
              rw [ByteArray.toList_eq, Array.isEmpty_toList]
              rw [Array.isEmpty_eq_false_iff]
              intro h
              have : t.size = 0 := by show t.data.size = 0; rw [h]; rfl
              omega
            clear CB hk3 I3 g13 hI hzj
            go_wp2
            go_ret
            exact ⟨by rfl, HI3.out.kp⟩
          · have e5 : j + 1 ≤ nb u := blank_lt (by omega) hj (by rw [← ext_ext, ← ht.out]; exact hb)
            have ht2 : Hid (t.extract 1 t.size = u.extract (j + 1) u.size) := hide (by have := ext_drop u j (by omega); rw [← ht.out] at this; exact this)
            have HI3 := hide I3
            have hl : 1 ≤ t.size := by omega
            clear CB hk3 I3 hI hzj
            go_wp2
            go_roundw
            case rel => exact ⟨_, j + 1, rfl, ht2, e5, HI3⟩
            case measure => simp [zOf]; omega
        · have e0 : t = ⟨#[]⟩ := by
            apply ByteArray.ext
            apply Array.eq_empty_of_size_eq_zero
            show t.size = 0
            omega
          have hzj : t.size = u.size - j := by rw [ht.out]; simp
          have hle : nb u ≤ u.size := nbFrom_le u 0
          obtain rfl := hI.out.b0 (by omega)
          have e2 := hI.out.e2
          clear ht hzj
          subst e0
          go_wp2
          go_ret
          exact ⟨by rfl, hI.out.kp⟩
end Go.Proofs.YtlhhgenpcjjajaaGreatDoor
namespace Go.Proofs.YtlhhgenpcjjajaaGreatDoor
open Go.RowKit Go.PlainAid
set_option maxRecDepth 100000 in
set_option maxHeartbeats 2000000 in
theorem plain_ok (s : ByteArray) (w : World) (hs : s.size ≤ 140737488351232) (hT : Tab w) (hg : GlW w) :
    Calls Tryz.prog 6 #[.string s] w fun e w' => e = .returned (.bool true) ∧ Kept [] w w' := by
  have HT := hide hT
  have HG := hide hg
  clear hT hg
  by_cases h : s.size ≤ 4096
  · have C := hide (bare_ok s w h HT.out HG.out)
    go_enter Tryz.func6, Tryz.ntmps6
    go_wp2_with fail
    refine C.out.mono ?_
    rintro e w1 ⟨rfl, hk⟩
    go_wp2
    go_ret
    exact ⟨by rfl, hk⟩
  · go_enter Tryz.func6, Tryz.ntmps6
    go_wp2
    go_ret
    exact ⟨by rfl, Kept.refl _ _⟩
end Go.Proofs.YtlhhgenpcjjajaaGreatDoor
