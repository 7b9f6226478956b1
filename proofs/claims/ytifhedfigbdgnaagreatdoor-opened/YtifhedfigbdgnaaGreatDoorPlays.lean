import Derived.Test.YtifhedfigbdgnaaGreatDoorSmall
namespace Go.Proofs.YtifhedfigbdgnaaGreatDoor
open Go.RowKit Go.Extern.Stop Go.Stop Go.Extern

/-- The kinds that are played. -/
def kindAt (k : Nat) : Int := [1, 2, 4, 7, 5, 6].getD k 0
theorem kinds_are {kd : Int} {j : Nat} (hj : j < 6) (h : kd = kindAt j) : kd = 1 ∨ kd = 2 ∨ kd = 4 ∨ kd = 5 ∨ kd = 6 ∨ kd = 7 := by
  subst h
  match j, hj with
  | 0, _ => simp [kindAt]
  | 1, _ => simp [kindAt]
  | 2, _ => simp [kindAt]
  | 3, _ => simp [kindAt]
  | 4, _ => simp [kindAt]
  | 5, _ => simp [kindAt]

theorem step_any (base bW K : Nat) (kd A B C : Int) (S T : ByteArray) (w : World) (h : Good base bW K w) (hk : kd = 1 ∨ kd = 2 ∨ kd = 4 ∨ kd = 5 ∨ kd = 6 ∨ kd = 7) (hK : K < 1048576)
    (hA : -9223372036854775808 ≤ A ∧ A ≤ 9223372036854775807) (hS : S.size ≤ 1048576) (hg : errorType w) :
    Calls Tryz.prog 18 #[.pointer (some ⟨bW, 0, none⟩), .agg (ocells kd A B C S T)] w fun e w' => e = .returned (.bool true) ∧ Good base bW (K + 1) w' ∧ Below base w w' := by
  rcases hk with rfl | hk
  · exact step_new base bW K A B C S T w h hK hg
  · obtain ⟨n, nI, nS, P, vI, vX, vM, vS, hI, h1, h2, h3⟩ := h
    rcases Nat.eq_zero_or_pos n with rfl | hn
    · refine step_none base bW nI nS K P vI vX vM vS kd A B C S T w hI h2 h3 ?_
      rcases hk with h | h | h | h | h <;> simp [h]
    · rcases hk with rfl | rfl | rfl | rfl | rfl
      · exact step_write base bW n nI nS K P vI vX vM vS A B C S T w hI hn h1 h2 h3 hK hA hS hg
      · exact step_stop base bW n nI nS K P vI vX vM vS A B C S T w hI hn h1 h2 h3 hK hA hg
      · exact step_items base bW n nI nS K P vI vX vM vS A B C S T w hI hn h1 h2 h3 hK hA
      · exact step_text base bW n nI nS K P vI vX vM vS A B C S T w hI hn h1 h2 h3 hK hA
      · exact step_trail base bW n nI nS K P vI vX vM vS A B C S T w hI hn h1 h2 h3 hK hA

theorem looks_any (base bW K : Nat) (w : World) (h : Good base bW K w) (hK : K ≤ 1048576) :
    Calls Tryz.prog 19 #[.pointer (some ⟨bW, 0, none⟩)] w fun e w' => e = .returned (.bool true) ∧ Good base bW K w' ∧ Below base w w' := by
  obtain ⟨n, nI, nS, P, vI, vX, vM, vS, hI, h1, h2, h3⟩ := h
  refine (looks_ok base bW n nI nS P vI vX vM vS w hI (by omega) (by omega)).mono ?_
  rintro e w' ⟨rfl, q, rfl⟩
  have hk := (Kept.refl [] w).drewN q
  exact ⟨rfl, ⟨n, nI, nS, P, vI, vX, vM, vS, hI.kept0 hk, h1, h2, h3⟩, hk.below hI.base (by simp)⟩

theorem Good.kept0 {base bW K : Nat} {w w' : World} (h : Good base bW K w) (hk : Kept [] w w') : Good base bW K w' := by
  obtain ⟨n, nI, nS, P, vI, vX, vM, vS, hI, h1, h2, h3⟩ := h
  exact ⟨n, nI, nS, P, vI, vX, vM, vS, hI.kept0 hk, h1, h2, h3⟩
theorem Good.more {base bW K K' : Nat} {w : World} (h : Good base bW K w) (hk : K ≤ K') : Good base bW K' w := by
  obtain ⟨n, nI, nS, P, vI, vX, vM, vS, hI, h1, h2, h3⟩ := h
  exact ⟨n, nI, nS, P, vI, vX, vM, vS, hI, by omega, by omega, by omega⟩
theorem Good.base {base bW K : Nat} {w : World} (h : Good base bW K w) : base ≤ w.heap.size := by
  obtain ⟨n, nI, nS, P, vI, vX, vM, vS, hI, _⟩ := h
  exact hI.base

theorem Good.start (w w' : World) (bW : Nat) (hb : w.heap.size ≤ bW) (hz : w.heap.size ≤ w'.heap.size) (h : w'.heap[bW]? = some (.cells #[.slice none 0 0, .slice none 0 0, .slice none 0 0, .slice none 0 0] 49 (0, 0))) : Good w.heap.size bW 0 w' :=
  ⟨0, 0, 0, fun _ => ⟨0, 0, 0, 0, 0, .slice none 0 0, ⟨#[]⟩⟩, _, _, _, _, ⟨h, hb, World.ownsRow_nil _ _ _ _, World.ownsRow_nil _ _ _ _, World.ownsRow_nil _ _ _ _, World.ownsRow_nil _ _ _ _, fun i hi => absurd hi (by omega), fun i j hi => absurd hi (by omega), hz⟩, Nat.le_refl _, Nat.le_refl _, Nat.le_refl _⟩

theorem errorType_below {w w' : World} {B : Nat} (h : errorType w) (hw : Below B w w') (hB : 0 < B) : errorType w' := by
  show w'.cell? _ = _
  rw [hw.cell (p := ⟨0, 0, none⟩) hB]; exact h

set_option maxRecDepth 100000 in
set_option maxHeartbeats 4000000 in
theorem plays_ok (b off len cap gK : Nat) (ops : Nat → OpRec) (w : World) (h : Script w b off len ops) (hl : len ≤ 140737488351232) (hb : b < w.heap.size) (hgK : gK < w.heap.size)
    (hk : ∀ k, k < 6 → w.cell? ⟨gK, k, none⟩ = some (.int .i64 (kindAt k))) (hg : errorType w) :
    Calls Tryz.prog 9 #[.slice (some ⟨b, off, none⟩) len cap, .slice (some ⟨gK, 0, none⟩) 6 6] w fun e w' => e = .returned (.bool true) ∧ Below w.heap.size w w' := by
  have H := hide h
  have HK := hide hk
  have HG := hide hg
  clear h hk hg
  go_enter Tryz.func9, Tryz.ntmps9
  go_wp2_with fail
  refine (small_any b off len cap ops w H.out hl).mono ?_
  rintro e w1 ⟨r, rfl, hr, q, hq⟩
  have hb1 : Below w.heap.size w w1 := by rw [hq]; exact ((Kept.refl [] w).drewN q).below (Nat.le_refl _) (by simp)
  have HB1 := hide hb1
  have HR := hide hr
  have z1 : w.heap.size ≤ w1.heap.size := hb1.size
  clear hq hb1 hr
  cases r with
  | false =>
    go_wp2
    go_ret
    exact ⟨rfl, HB1.out⟩
  | true =>
    obtain ⟨hl1, hl2⟩ := HR.out rfl
    have HL2 := hide hl2
    clear hl2 HR
    go_wp2_with fail
    have HS0 : Hid (Good w.heap.size w1.heap.size 0 (w1.alloc (.cells #[.slice none 0 0, .slice none 0 0, .slice none 0 0, .slice none 0 0] 49))) :=
      Good.start w _ w1.heap.size z1 (by simp; omega) (heap_alloc_at w1 _)
    have HB0 := hide (HB1.out.alloc z1 (.cells #[.slice none 0 0, .slice none 0 0, .slice none 0 0, .slice none 0 0] 49))
    go_loopw [7] (fun i wr => ∃ k : Nat, k ≤ len ∧ i = .int .i64 k ∧ Good w.heap.size w1.heap.size k wr ∧ Below w.heap.size w wr) (fun i _ => len - (intOf i).toNat)
    case atStart => exact ⟨0, Nat.zero_le _, rfl, HS0.out, HB0.out⟩
    case round =>
      obtain ⟨k, hk, rfl, hGd, hBl⟩ := hrel
      obtain ⟨wo, hwo⟩ : ∃ wo, wo = wr := ⟨_, rfl⟩
      subst hwo
      have HGd := hide hGd
      have HBl := hide hBl
      clear hGd hBl HS0 HB0 HB1
      by_cases hlt : k < len
      · have hSc := H.out.below hb HBl.out
        have d0 := hSc.c0 k hlt
        have HSc := hide hSc
        obtain ⟨kd, hkd⟩ : ∃ kd, kd = (ops k).kd := ⟨_, rfl⟩
        rw [← hkd] at d0
        have Hkd := hide hkd
        have hkk : ∀ j, j < 6 → wo.cell? ⟨gK, j, none⟩ = some (.int .i64 (kindAt j)) := fun j hj => (HBl.out.cell (p := ⟨gK, j, none⟩) hgK).trans (HK.out j hj)
        have Hkk := hide hkk
        have HD0 := hide d0
        clear hSc hkd hkk d0
        go_wp2_with fail
        go_loopw [8, 9] (fun v j ws => ∃ l : Nat, l ≤ 6 ∧ j = .int .i64 l ∧ (∃ c : Bool, v = .bool c ∧ (c = true ↔ ∃ m, m < l ∧ kd = kindAt m)) ∧ ∃ q, ws = wo.drewN q) (fun _ j _ => 6 - (intOf j).toNat)
        case atStart => exact ⟨0, by omega, rfl, ⟨false, rfl, by simp⟩, 0, rfl⟩
        case round =>
          obtain ⟨l, hl6, rfl, ⟨c, rfl, hc⟩, hq⟩ := hrel
          have HQ := hide hq
          have HC := hide hc
          clear hq hc
          by_cases hl7 : l < 6
          · have e0 : wr.cell? ⟨b, off + k * 6, none⟩ = some (.int .i64 kd) := by obtain ⟨q, rfl⟩ := HQ.out; rw [drewN_cell]; exact HD0.out
            have e1 : wr.cell? ⟨gK, l, none⟩ = some (.int .i64 (kindAt l)) := by obtain ⟨q, rfl⟩ := HQ.out; rw [drewN_cell]; exact Hkk.out l hl7
            obtain ⟨m, hm⟩ : ∃ m, m = kindAt l := ⟨_, rfl⟩
            rw [← hm] at e1
            have HM := hide hm
            clear hm
            cases c with
            | true =>
              have HE := hide (HC.out.1 rfl)
              clear HC
              go_wp2_with fail
              go_quiet (fail)
              go_wp2
              go_roundw
              case rel =>
                refine ⟨l + 1, by omega, by go_num, ⟨true, rfl, ?_⟩, by obtain ⟨q, rfl⟩ := HQ.out; exact ⟨_, World.drewN_drewN _ _ _⟩⟩
                obtain ⟨m', h1, h2⟩ := HE.out
                exact ⟨fun _ => ⟨m', by omega, h2⟩, fun _ => rfl⟩
              case measure => simp [intOf]; omega
            | false =>
              have HE : Hid (¬ ∃ m', m' < l ∧ kd = kindAt m') := fun h => absurd (HC.out.2 h) (by simp)
              clear HC
              go_wp2_with fail
              go_quiet (fail)
              go_wp2
              go_roundw
              case rel =>
                refine ⟨l + 1, by omega, by go_num, ⟨kd == m, rfl, ?_⟩, by obtain ⟨q, rfl⟩ := HQ.out; exact ⟨_, World.drewN_drewN _ _ _⟩⟩
                rw [beq_iff_eq, HM.out]
                constructor
                · intro h; exact ⟨l, by omega, h⟩
                · rintro ⟨m', h1, h2⟩
                  by_cases e : m' = l
                  · rw [← e]; exact h2
                  · exact absurd ⟨m', by omega, h2⟩ HE.out
              case measure => simp [intOf]; omega
          · have Kq : Kept [] wo wr := by obtain ⟨q, rfl⟩ := HQ.out; exact (Kept.refl [] wo).drewN q
            have HG1 := hide (HGd.out.kept0 Kq)
            have HB2 := hide (HBl.out.trans (Kq.below HGd.out.base (by simp)))
            have hSc := HSc.out.below hb (Kq.below HGd.out.base (by simp))
            clear Kq
            cases c with
            | false =>
              clear hSc
              go_wp2
              go_roundw
              case rel => exact ⟨k + 1, by omega, by go_num, HG1.out.more (by omega), HB2.out⟩
              case measure => simp [intOf]; omega
            | true =>
              have hkinds : kd = 1 ∨ kd = 2 ∨ kd = 4 ∨ kd = 5 ∨ kd = 6 ∨ kd = 7 := by
                obtain ⟨m', h1, h2⟩ := HC.out.1 rfl
                exact kinds_are (by omega) h2
              have e0 := hSc.c0 k hlt
              have e1 := hSc.c1 k hlt
              have e2 := hSc.c2 k hlt
              have e3 := hSc.c3 k hlt
              have e4 := hSc.c4 k hlt
              have e5 := hSc.c5 k hlt
              have hA := hSc.hA k hlt
              have hS := HL2.out k hlt
              rw [← Hkd.out] at e0
              generalize (ops k).A = A at e1 hA
              generalize (ops k).B = B at e2
              generalize (ops k).C = C at e3
              generalize (ops k).S = S at e4 hS
              generalize (ops k).T = T at e5
              have HST := hide (step_any w.heap.size w1.heap.size k kd A B C S T wr HG1.out hkinds (by omega) hA hS (errorType_below HG.out HB2.out (by omega)))
              clear hSc HC hkinds hA hS
              go_wp2_with fail
              refine HST.out.mono ?_
              rintro e w2 ⟨rfl, hg2, hb2⟩
              have HLK := hide (looks_any w.heap.size w1.heap.size (k + 1) w2 hg2 (by omega))
              have HB3 := hide (HB2.out.trans hb2)
              clear hg2 hb2 HST
              go_wp2_with fail
              refine HLK.out.mono ?_
              rintro e w3 ⟨rfl, hg3, hb3⟩
              have HG3 := hide hg3
              have HB4 := hide (HB3.out.trans hb3)
              clear hg3 hb3 HLK
              go_wp2
              go_roundw
              case rel => exact ⟨k + 1, by omega, by go_num, HG3.out, HB4.out⟩
              case measure => simp [intOf]; omega
      · go_wp2
        go_ret
        exact ⟨rfl, HBl.out⟩
end Go.Proofs.YtifhedfigbdgnaaGreatDoor
