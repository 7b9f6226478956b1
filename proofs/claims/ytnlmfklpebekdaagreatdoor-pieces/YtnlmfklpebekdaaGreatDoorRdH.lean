import Derived.Test.YtnlmfklpebekdaaGreatDoorRdE
set_option linter.unusedSimpArgs false
set_option linter.unusedVariables false
namespace Go.Proofs.YtnlmfklpebekdaaGreatDoor
open Go.RowKit Go.PlainAid

set_option maxRecDepth 100000 in
set_option maxHeartbeats 400000 in
theorem readName_any (r : Nat) (s : ByteArray) (w : World) (hs : s.size ≤ 1048576) (hg : Gl w r) :
    Calls Tryz.prog 72 #[.string s] w fun e w' => e = .returned (.string (noNul (small s))) ∧ Kept [] w w' := by
  have HG := hide hg
  clear hg
  go_enter Tryz.func72, Tryz.ntmps72
  go_wp2_with fail
  refine (small_any s w hs).mono ?_
  rintro e w1 ⟨rfl, hk⟩
  have C := hide (noNul_any r (small s) w1 (by rw [small_size]; exact hs) (HG.out.kept (hk.mono (by simp))))
  have HK := hide hk
  clear hk
  go_wp2_with fail
  refine C.out.mono ?_
  rintro e w2 ⟨rfl, hk2⟩
  have HK2 := hide (HK.out.trans hk2)
  clear hk2
  go_wp2
  go_ret
  exact ⟨rfl, HK2.out⟩

/-- upTo, asked by a fresh OneOf. -/
theorem upToOne (r : Nat) (R : RC) (bg ps : Nat) (s : ByteArray) (w : World) (h : Rd w r R bg ps) (hp : ps ≤ R.cs.size) (hs : R.cs.size ≤ 1024) :
    Calls Tryz.prog 73 #[.pointer (some ⟨r, 0, none⟩), .func (.func 75) #[] #[.pointer (some ⟨w.heap.size, 0, none⟩)]] (w.alloc (.cells #[.string s] 9))
      fun e w' => e = .returned (.string (R.cs.extract ps (scan (inSet s) R.cs ps))) ∧ Kept [r] w w' ∧ Rd w' r R bg (scan (inSet s) R.cs ps) := by
  have hr := lt_of_block h
  have k : Kept [] w (w.alloc (.cells #[.string s] 9)) := (Kept.refl _ _).alloc _
  have b := heap_alloc_at w (.cells #[.string s] 9)
  refine (upTo_any r R bg ps _ _ _ _ (k.at h (by simp)) hp hs (asks_oneOf _ [r] w.heap.size s (by rw [cell_at b]; rfl) (by simp) (by simp; omega))).mono ?_
  rintro e w' ⟨h1, h2, h3⟩
  exact ⟨h1, (k.mono (by simp)).trans h2, h3⟩

set_option maxRecDepth 100000 in
set_option maxHeartbeats 1000000 in
theorem isNext_any (r : Nat) (R : RC) (bg ps : Nat) (k : Nat) (caps : Array Value) (q : Int → Bool) (w : World) (h : Rd w r R bg ps) (hp : ps ≤ R.cs.size) (hs : R.cs.size ≤ 1024) (hq : Asks w [r] k caps q) :
    Calls Tryz.prog 55 #[.pointer (some ⟨r, 0, none⟩), .func (.func k) #[] caps] w fun e w' => e = .returned (.bool (decide (ps < R.cs.size) && q (bt R.cs ps))) ∧ ∃ n, w' = w.drewN n := by
  have HQ := hide hq
  have t := h.text
  have p := h.ps
  have H := hide h
  clear h hq
  have hbt := get_bt R.cs
  have hent := HQ.out.ent
  have C := hide (fun w' (h : Rd w' r R bg ps) => atEnd_any r R bg ps w' h)
  by_cases e : ps = R.cs.size
  · have e3 : decide (ps = R.cs.size) = true := by simp [e]
    rw [e3] at C
    go_enter Tryz.func55, Tryz.ntmps55
    go_wp2_with fail
    go_quiet ((go_at_call 48; refine Calls.quiet_of (C.out _ ?_); exact H.out))
    go_wp2
    go_ret
    exact ⟨by simp [e], ⟨_, rfl⟩⟩
  · have hlt : ps < R.cs.size := by omega
    have e3 : decide (ps = R.cs.size) = false := by simp [e]
    rw [e3] at C
    have hb := hbt ps hlt
    have h0 := bt_nonneg R.cs ps
    have h1 := bt_le R.cs ps
    have D := hide (fun w' h => HQ.out.ask (bt R.cs ps) w' h0 h1 h)
    have e4 : (decide (ps < R.cs.size) && q (bt R.cs ps)) = q (bt R.cs ps) := by simp [hlt]
    rw [e4]
    clear e4
    have HK : Hid (∀ n, Kept [r] w (w.drewN n)) := fun n => (Kept.refl _ _).drewN n
    cases hqv : q (bt R.cs ps)
    all_goals
      rw [hqv] at D
      go_enter Tryz.func55, Tryz.ntmps55
      go_wp2_with fail
      go_quiet (first | (go_at_call 48; refine Calls.quiet_of (C.out _ ?_); exact H.out) | (refine Calls.quiet_of (D.out _ ?_); exact HK.out _))
      go_wp2
      go_ret
      exact ⟨rfl, ⟨_, rfl⟩⟩

/-- What takeInAnyLetters says. -/
def isAny (R : RC) (s : ByteArray) (ps : Nat) : Bool := decide (s.size ≤ R.cs.size - ps) && ((small ((R.cs.extract ps R.cs.size).extract 0 s.size)).toList == s.toList)
theorem pre_self (t : ByteArray) (n : Nat) (h : n ≤ t.size) : pre t (t.extract 0 n) = true := by
  have e : (t.extract 0 n).size = n := by simp; omega
  unfold pre; rw [e]; simp [h]

set_option maxRecDepth 100000 in
set_option maxHeartbeats 1000000 in
theorem takeAny_any (r : Nat) (R : RC) (bg ps : Nat) (s : ByteArray) (w : World) (h : Rd w r R bg ps) (hp : ps ≤ R.cs.size) (hs : R.cs.size ≤ 1024) (hss : s.size ≤ 1024) :
    Calls Tryz.prog 60 #[.pointer (some ⟨r, 0, none⟩), .string s] w fun e w' => e = .returned (.bool (isAny R s ps)) ∧ Kept [r] w w' ∧ Rd w' r R bg (if isAny R s ps = true then ps + s.size else ps) := by
  have H := hide h
  clear h
  obtain ⟨t, ht⟩ : ∃ t, t = R.cs.extract ps R.cs.size := ⟨_, rfl⟩
  have htz : t.size = R.cs.size - ps := by rw [ht]; simp
  have HR1 := hide (rest_any r R bg ps w H.out hp hs)
  rw [← ht] at HR1
  have Ht := hide ht
  clear ht
  by_cases e1 : s.size ≤ t.size
  · have ez : (t.extract 0 s.size).size = s.size := by simp; omega
    cases e2 : ((small (t.extract 0 s.size)).toList == s.toList)
    · have hv : isAny R s ps = false := by unfold isAny; rw [← Ht.out, e2]; simp
      rw [hv]
      have Hv := hide hv
      clear hv
      go_enter Tryz.func60, Tryz.ntmps60
      go_wp2_with fail
      refine HR1.out.mono ?_
      rintro e w1 ⟨rfl, q, rfl⟩
      go_wp2_with fail
      refine (small_any _ _ (by rw [ez]; omega)).mono ?_
      rintro e w2 ⟨rfl, hk2⟩
      have HK2 := hide hk2
      clear hk2
      generalize small (t.extract 0 s.size) = u at *
      go_wp2
      go_ret
      exact ⟨rfl, ((Kept.refl [r] w).drewN q).trans (HK2.out.mono (by simp)), HK2.out.at (show Rd (w.drewN q) r R bg ps from H.out) (by simp)⟩
    · have hv : isAny R s ps = true := by unfold isAny; rw [← Ht.out, e2, ← htz]; simp [e1]
      rw [hv]
      have Hv := hide hv
      clear hv
      go_enter Tryz.func60, Tryz.ntmps60
      go_wp2_with fail
      refine HR1.out.mono ?_
      rintro e w1 ⟨rfl, q, rfl⟩
      go_wp2_with fail
      refine (small_any _ _ (by rw [ez]; omega)).mono ?_
      rintro e w2 ⟨rfl, hk2⟩
      have hR2 : Rd w2 r R bg ps := hk2.at (show Rd (w.drewN q) r R bg ps from H.out) (by simp)
      have T := take_any r R bg ps (t.extract 0 s.size) w2 hR2 hp hs (by rw [ez]; exact hss)
      have hpre := pre_self t s.size e1
      rw [← Ht.out, hpre] at T
      have htk : taken R (t.extract 0 s.size) ps = ps + s.size := by unfold taken; rw [← Ht.out, if_pos hpre, ez]
      rw [htk] at T
      have HT := hide T
      have HK2 := hide hk2
      clear hk2 T hpre htk hR2
      generalize small (t.extract 0 s.size) = u at *
      go_wp2_with fail
      refine HT.out.mono ?_
      rintro e w3 ⟨rfl, hk3, hr3⟩
      have HK3 := hide hk3
      have HR3 := hide hr3
      clear hk3 hr3
      go_wp2
      go_ret
      exact ⟨rfl, (((Kept.refl [r] w).drewN q).trans (HK2.out.mono (by simp))).trans HK3.out, HR3.out⟩
  · have hv : isAny R s ps = false := by unfold isAny; rw [← htz]; simp [e1]
    rw [hv]
    go_enter Tryz.func60, Tryz.ntmps60
    go_wp2_with fail
    refine HR1.out.mono ?_
    rintro e w1 ⟨rfl, q, rfl⟩
    go_wp2
    go_ret
    exact ⟨rfl, ((Kept.refl [r] w).drewN q), H.out⟩
end Go.Proofs.YtnlmfklpebekdaaGreatDoor
