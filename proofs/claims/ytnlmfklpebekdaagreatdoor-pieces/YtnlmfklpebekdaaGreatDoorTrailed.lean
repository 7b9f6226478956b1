import Derived.Test.YtnlmfklpebekdaaGreatDoorSame
import Derived.PlainAid
set_option linter.unusedSimpArgs false
set_option linter.unusedVariables false
namespace Go.Proofs.YtnlmfklpebekdaaGreatDoor
open Go.RowKit Go.PlainAid

/-- Spans that lie side by side from 0 up to the text's end. -/
structure Trail (s : ByteArray) (n : Nat) (A : Nat → Sp) (cut : Nat → Nat) : Prop where
  a : ∀ i, i < n → (A i).a = (cut i : Int)
  b : ∀ i, i < n → (A i).b = (cut (i + 1) : Int)
  lt : ∀ i, i < n → cut i < cut (i + 1)
  le : ∀ i, i ≤ n → cut i ≤ s.size
  zero : cut 0 = 0
  last : cut n = s.size
  kd : ∀ i, i < n → 1 ≤ (A i).k ∧ (A i).k ≤ 6
  ch : ∀ i, 0 < i → i < n → (A i).k = 1 → (A (i - 1)).k ≠ 1
  open_ : ∀ i, i < n → (A i).k ≠ 1 → bt s (cut i) = 60
  shut : ∀ i, i < n → (A i).k ≠ 1 → bt s (cut (i + 1) - 1) = 62 ∨ cut (i + 1) = s.size

theorem SpanRow.kept {w w' : World} {g off n : Nat} {A : Nat → Sp} (h : SpanRow w g off n A) (hk : Kept [] w w') (hg : g < w.heap.size) : SpanRow w' g off n A := by
  have e : ∀ o, w'.cell? ⟨g, o, none⟩ = w.cell? ⟨g, o, none⟩ := fun o => hk.cell (p := ⟨g, o, none⟩) hg (by simp)
  exact ⟨fun i hi => (e _).trans (h.c0 i hi), fun i hi => (e _).trans (h.c1 i hi), fun i hi => (e _).trans (h.c2 i hi)⟩

set_option maxRecDepth 100000 in
set_option maxHeartbeats 4000000 in
theorem trailed_yes (s : ByteArray) (g off cap n : Nat) (A : Nat → Sp) (cut : Nat → Nat) (w : World) (hA : SpanRow w g off n A) (hg : g < w.heap.size) (hn : n ≤ 140737488351232) (hs : s.size ≤ 1024) (hT : Trail s n A cut) :
    Calls Tryz.prog 9 #[.string s, .slice (some ⟨g, off, none⟩) n cap] w fun e w' => e = .returned (.bool true) ∧ Kept [] w w' := by
  have HA := hide hA
  have HT := hide hT
  have hbt := get_bt s
  clear hA hT
  go_enter Tryz.func9, Tryz.ntmps9
  go_wp2
  go_loopw [5, 6] (fun a i wr => ∃ k : Nat, k ≤ n ∧ i = .int .i64 k ∧ a = .int .i64 (cut k : Int) ∧ Kept [] w wr) (fun _ i _ => n - (intOf i).toNat)
  case atStart => exact ⟨0, Nat.zero_le _, rfl, by rw [HT.out.zero]; rfl, Kept.refl _ _⟩
  case round =>
    obtain ⟨k, hk, rfl, rfl, hkw⟩ := hrel
    have HKW := hide hkw
    clear hkw
    by_cases hlt : k < n
    · have hR := HA.out.kept HKW.out hg
      have a0 := hR.c0 k hlt
      have a1 := hR.c1 k hlt
      have a2 := hR.c2 k hlt
      rw [HT.out.a k hlt] at a1
      rw [HT.out.b k hlt] at a2
      have h1 := HT.out.lt k hlt
      have h2 := HT.out.le (k + 1) (by omega)
      have h3 := HT.out.kd k hlt
      have hch := hide (HT.out.ch k)
      have hop := hide (HT.out.open_ k hlt)
      have hsh := hide (HT.out.shut k hlt)
      have hprev : 0 < k → wr.cell? ⟨g, off + (k - 1) * 3, none⟩ = some (.int .i64 (A (k - 1)).k) := fun h => hR.c0 (k - 1) (by omega)
      have HPrev := hide hprev
      clear hR hprev
      obtain ⟨kd, hkd⟩ : ∃ kd, kd = (A k).k := ⟨_, rfl⟩
      rw [← hkd] at a0 h3
      have Hkd := hide hkd
      clear hkd
      have hd : ∃ d, d = cut (k + 1) := ⟨_, rfl⟩
      obtain ⟨d, hd⟩ := hd
      rw [← hd] at h1 h2 a2
      have Hd := hide hd
      clear hd
      generalize hc : cut k = c at a1 h1 hop ⊢
      clear hc
      obtain ⟨h4, h5⟩ := h3
      have HR : Hid (Kept [] w (wr.alloc (.cells #[.int .i64 kd, .int .i64 (c : Int), .int .i64 (d : Int)] 52))) := HKW.out.alloc _
      by_cases hk1 : kd = 1
      · subst hk1
        by_cases hk0 : 0 < k
        · have hp := HPrev.out hk0
          have hpn := hch.out hk0 hlt Hkd.out.symm
          generalize (A (k - 1)).k = kp at hp hpn
          have hpb : (kp == 1) = false := beq_eq_false_iff_ne.2 hpn
          clear hpn
          obtain ⟨j, rfl⟩ : ∃ j, k = j + 1 := ⟨k - 1, by omega⟩
          rw [show j + 1 - 1 = j from rfl] at hp
          have hz : g < wr.heap.size := Nat.lt_of_lt_of_le hg HKW.out.size
          go_wp2
          go_roundw
          case rel => exact ⟨j + 1 + 1, by omega, by go_num, by rw [Hd.out], HR.out⟩
          case measure => simp [intOf]; omega
        · go_wp2
          go_roundw
          case rel => exact ⟨k + 1, by omega, by go_num, by rw [Hd.out], HR.out⟩
          case measure => simp [intOf]; omega
      · have o1 : bt s c = 60 := hop.out (by rw [← Hkd.out]; exact hk1)
        have o2 : bt s (d - 1) = 62 ∨ d = s.size := by rw [Hd.out]; exact hsh.out (by rw [← Hkd.out]; exact hk1)
        by_cases o3 : bt s (d - 1) = 62
        · clear o2
          go_wp2
          go_roundw
          case rel => exact ⟨k + 1, by omega, by go_num, by rw [Hd.out], HR.out⟩
          case measure => simp [intOf]; omega
        · have o4 : d = s.size := by rcases o2 with h | h; exact absurd h o3; exact h
          subst o4
          have o5 : (bt s (s.size - 1) != 62) = true := by rw [bne_iff_ne]; exact o3
          clear o2 o3
          go_wp2
          go_roundw
          case rel => exact ⟨k + 1, by omega, by go_num, by rw [Hd.out], HR.out⟩
          case measure => simp [intOf]; omega
    · have he : cut k = s.size := by rw [show k = n by omega]; exact HT.out.last
      rw [he]
      clear he
      go_wp2
      go_ret
      exact ⟨rfl, HKW.out⟩
end Go.Proofs.YtnlmfklpebekdaaGreatDoor
