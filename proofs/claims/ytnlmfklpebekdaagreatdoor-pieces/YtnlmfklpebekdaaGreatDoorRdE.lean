import Derived.Test.YtnlmfklpebekdaaGreatDoorRdD
import Derived.Lib.IndexAny
import Derived.BigRegion
set_option linter.unusedSimpArgs false
set_option linter.unusedVariables false
namespace Go.Proofs.YtnlmfklpebekdaaGreatDoor
open Go.RowKit Go.PlainAid

/-- c is one of the set. -/
def inSet (s : ByteArray) (c : Int) : Bool := decide (0 ≤ Lib.indexByte s.data.toList c.toNat.toUInt8)
theorem inSet_eq (s : ByteArray) (c : Int) : inSet s c = s.data.toList.contains c.toNat.toUInt8 := by rw [Lib.contains_iff_indexByte]; rfl
theorem toU8 {c : Int} (h0 : 0 ≤ c) (h1 : c ≤ 255) {x : UInt8} (h : c.toNat.toUInt8 = x) : c = (x.toNat : Int) := by
  have := congrArg UInt8.toNat h
  simp at this
  omega
theorem inSet_gt {c : Int} (h0 : 0 ≤ c) (h1 : c ≤ 255) (h : inSet ⟨#[62]⟩ c = true) : c = 62 := by
  rw [inSet_eq] at h
  simp at h
  exact toU8 h0 h1 h

set_option maxRecDepth 100000 in
set_option maxHeartbeats 400000 in
theorem oneOf1_any (b : Nat) (s : ByteArray) (c : Int) (w : World) (h : w.cell? ⟨b, 0, none⟩ = some (.string s)) :
    Calls Tryz.prog 75 #[.int .u8 c, .pointer (some ⟨b, 0, none⟩)] w fun e w' => e = .returned (.bool (inSet s c)) ∧ w' = w := by
  have C := hide (Tryz.strings_IndexByte s c w)
  go_enter Tryz.func75, Tryz.ntmps75
  go_wp2_with fail
  refine C.out.mono ?_
  rintro e w' ⟨rfl, rfl⟩
  generalize hx : Lib.indexByte s.data.toList c.toNat.toUInt8 = x
  have hin : inSet s c = decide (0 ≤ x) := by unfold inSet; rw [hx]
  have Hin := hide hin
  clear hin hx
  by_cases e : 0 ≤ x
  · go_wp2
    go_ret
    exact ⟨by rw [Hin.out]; simp [e], rfl⟩
  · go_wp2
    go_ret
    exact ⟨by rw [Hin.out]; simp [e], rfl⟩

theorem asks_oneOf (w : World) (S : List Nat) (b : Nat) (s : ByteArray) (h : w.cell? ⟨b, 0, none⟩ = some (.string s)) (hb : b < w.heap.size) (hS : b ∉ S) : Asks w S 75 #[.pointer (some ⟨b, 0, none⟩)] (inSet s) where
  ent := enters_of Tryz.func75 (by kernel_rfl) rfl
  ask c w' _ _ hk := (oneOf1_any b s c w' ((hk.cell (p := ⟨b, 0, none⟩) hb hS).trans h)).mono fun e w'' ⟨h1, h2⟩ => ⟨h1, 0, h2⟩

set_option maxRecDepth 100000 in
set_option maxHeartbeats 400000 in
theorem oneOf_any (s : ByteArray) (w : World) :
    Calls Tryz.prog 62 #[.string s] w fun e w' => e = .returned (.func (.func 75) #[] #[.pointer (some ⟨w.heap.size, 0, none⟩)]) ∧ w' = w.alloc (.cells #[.string s] 9) := by
  have hmf : ∀ (fn : Fn) (first cap : Array Value) (w : World), (Instr.makeFunc fn first cap).run Tryz.prog w = .ok (.func fn first cap) w := fun _ _ _ _ => rfl
  go_enter Tryz.func62, Tryz.ntmps62
  go_wp2
  go_ret
  exact ⟨rfl, rfl⟩
theorem letter_asks (w : World) (S : List Nat) : Asks w S 56 #[] (fun c => decide (97 ≤ c ∧ c ≤ 122 ∨ 65 ≤ c ∧ c ≤ 90)) where
  ent := enters_of Tryz.func56 (by kernel_rfl) rfl
  ask c w' h0 h1 _ := (letter_any c w' h0 h1).mono fun e w'' ⟨h1, h2⟩ => ⟨h1, 0, h2⟩

set_option maxRecDepth 100000 in
set_option maxHeartbeats 400000 in
theorem not1_any (b b2 : Nat) (s : ByteArray) (c : Int) (w : World) (h : w.cell? ⟨b, 0, none⟩ = some (.string s)) (h2 : w.cell? ⟨b2, 0, none⟩ = some (.func (.func 75) #[] #[.pointer (some ⟨b, 0, none⟩)])) :
    Calls Tryz.prog 99 #[.int .u8 c, .pointer (some ⟨b2, 0, none⟩)] w fun e w' => e = .returned (.bool (!inSet s c)) ∧ w' = w := by
  have C := hide (oneOf1_any b s c w h)
  clear h
  generalize inSet s c = x at C ⊢
  go_enter Tryz.func99, Tryz.ntmps99
  go_wp2_with fail
  refine C.out.mono ?_
  rintro e w' ⟨rfl, rfl⟩
  cases x
  · go_wp2
    go_ret
    exact ⟨rfl, rfl⟩
  · go_wp2
    go_ret
    exact ⟨rfl, rfl⟩
theorem asks_not (w : World) (S : List Nat) (b b2 : Nat) (s : ByteArray) (h : w.cell? ⟨b, 0, none⟩ = some (.string s)) (h2 : w.cell? ⟨b2, 0, none⟩ = some (.func (.func 75) #[] #[.pointer (some ⟨b, 0, none⟩)])) (hb : b < w.heap.size) (hS : b ∉ S) (hb2 : b2 < w.heap.size) (hS2 : b2 ∉ S) : Asks w S 99 #[.pointer (some ⟨b2, 0, none⟩)] (fun c => !inSet s c) where
  ent := enters_of Tryz.func99 (by kernel_rfl) rfl
  ask c w' _ _ hk := (not1_any b b2 s c w' ((hk.cell (p := ⟨b, 0, none⟩) hb hS).trans h) ((hk.cell (p := ⟨b2, 0, none⟩) hb2 hS2).trans h2)).mono fun e w'' ⟨h1, h2⟩ => ⟨h1, 0, h2⟩
set_option maxRecDepth 100000 in
set_option maxHeartbeats 400000 in
theorem not_any (f : Fn) (x y : Array Value) (w : World) :
    Calls Tryz.prog 82 #[.func f x y] w fun e w' => e = .returned (.func (.func 99) #[] #[.pointer (some ⟨w.heap.size, 0, none⟩)]) ∧ w' = w.alloc (.cells #[.func f x y] 152) := by
  have hmf : ∀ (fn : Fn) (first cap : Array Value) (w : World), (Instr.makeFunc fn first cap).run Tryz.prog w = .ok (.func fn first cap) w := fun _ _ _ _ => rfl
  go_enter Tryz.func82, Tryz.ntmps82
  go_wp2
  go_ret
  exact ⟨rfl, rfl⟩

set_option maxRecDepth 100000 in
set_option maxHeartbeats 400000 in
theorem passOver_any (r : Nat) (R : RC) (bg ps : Nat) (s : ByteArray) (w : World) (h : Rd w r R bg ps) (hp : ps ≤ R.cs.size) (hs : R.cs.size ≤ 1024) :
    Calls Tryz.prog 71 #[.pointer (some ⟨r, 0, none⟩), .string s] w fun e w' => e = .returned (.tuple #[]) ∧ Kept [r] w w' ∧ Rd w' r R bg (scan (fun c => !inSet s c) R.cs ps) := by
  have hr := lt_of_block h
  have H := hide h
  clear h
  obtain ⟨w1, hw1⟩ : ∃ w1, w1 = w.alloc (.cells #[.string s] 9) := ⟨_, rfl⟩
  obtain ⟨w2, hw2⟩ : ∃ w2, w2 = w1.alloc (.cells #[.func (.func 75) #[] #[.pointer (some ⟨w.heap.size, 0, none⟩)]] 152) := ⟨_, rfl⟩
  have z1 : w1.heap.size = w.heap.size + 1 := by rw [hw1]; simp
  have z2 : w2.heap.size = w.heap.size + 2 := by rw [hw2]; simp [z1]
  have b1 : w1.heap[w.heap.size]? = some (.cells #[.string s] 9 (0, 0)) := by rw [hw1]; exact heap_alloc_at w _
  have k1 : Kept [r] w w1 := by rw [hw1]; exact (Kept.refl _ _).alloc _
  have k12 : Kept [] w1 w2 := by rw [hw2]; exact (Kept.refl _ _).alloc _
  have b2 : w2.heap[w1.heap.size]? = some (.cells #[.func (.func 75) #[] #[.pointer (some ⟨w.heap.size, 0, none⟩)]] 152 (0, 0)) := by rw [hw2]; exact heap_alloc_at w1 _
  have b1' := k12.at b1 (by simp)
  have hR2 : Rd w2 r R bg ps := by rw [hw2, hw1]; exact (((Kept.refl [] w).alloc _).alloc _).at H.out (by simp)
  have hk2 : Kept [r] w w2 := k1.trans (k12.mono (by simp))
  have hA : Asks w2 [r] 99 #[.pointer (some ⟨w1.heap.size, 0, none⟩)] (fun c => !inSet s c) :=
    asks_not w2 [r] w.heap.size w1.heap.size s (by rw [cell_at b1']; rfl) (by rw [cell_at b2]; rfl) (by omega) (by simp; omega) (by omega) (by simp; omega)
  have C := hide (upTo_any r R bg ps _ _ _ w2 hR2 hp hs hA)
  have HK := hide hk2
  have HW1 := hide hw1
  have HW2 := hide hw2
  clear hA hk2 hR2 b1' b2 k12 k1 b1 z1 z2 hw1 hw2
  go_enter Tryz.func71, Tryz.ntmps71
  go_wp2_with fail
  refine (oneOf_any s w).mono ?_
  rintro e w' ⟨rfl, rfl⟩
  rw [← HW1.out]
  go_wp2_with fail
  refine (not_any _ _ _ w1).mono ?_
  rintro e w' ⟨rfl, rfl⟩
  rw [← HW2.out]
  go_wp2_with fail
  refine C.out.mono ?_
  rintro e w3 ⟨rfl, hk3, hr3⟩
  have HK3 := hide (HK.out.trans hk3)
  have HR3 := hide hr3
  clear hk3 hr3
  go_wp2
  go_end0
  exact ⟨rfl, HK3.out, HR3.out⟩
end Go.Proofs.YtnlmfklpebekdaaGreatDoor

namespace Go.Proofs.YtnlmfklpebekdaaGreatDoor
open Go.RowKit Go.PlainAid

/-- Of each character its place in the bytes of the text. -/
structure Ats (w : World) (r : Nat) (R : RC) (g cap : Nat) (cut : Nat → Nat) : Prop where
  av : R.av = .slice (some ⟨g, 0, none⟩) (R.cs.size + 1) cap
  ne : g ≠ r
  lt : g < w.heap.size
  at_ : ∀ i, i ≤ R.cs.size → w.cell? ⟨g, i, none⟩ = some (.int .i64 (cut i : Int))
theorem Ats.kept {w w' : World} {r : Nat} {R : RC} {g cap : Nat} {cut : Nat → Nat} (h : Ats w r R g cap cut) (hk : Kept [r] w w') : Ats w' r R g cap cut :=
  ⟨h.av, h.ne, Nat.lt_of_lt_of_le h.lt hk.size, fun i hi => (hk.cell (p := ⟨g, i, none⟩) h.lt (by simp [h.ne])).trans (h.at_ i hi)⟩

set_option maxRecDepth 100000 in
set_option maxHeartbeats 1000000 in
theorem place_any (r : Nat) (R : RC) (bg ps g cap : Nat) (cut : Nat → Nat) (w : World) (h : Rd w r R bg ps) (hA : Ats w r R g cap cut) (hb : bg ≤ R.cs.size) (hp : ps ≤ R.cs.size) (hs : R.cs.size ≤ 1024) :
    Calls Tryz.prog 49 #[.pointer (some ⟨r, 0, none⟩)] w fun e w' => e = .returned (.agg #[.int .i64 (cut bg : Int), .int .i64 (cut ps : Int)]) ∧ Kept [] w w' := by
  have a := h.ats
  rw [hA.av] at a
  have p := h.ps
  have b := h.bg
  have c1 := hA.at_ bg hb
  have c2 := hA.at_ ps hp
  have hr := lt_of_block h
  have hg := hA.lt
  clear h hA
  generalize R.cs.size = n at *
  generalize cut bg = x at *
  generalize cut ps = y at *
  go_enter Tryz.func49, Tryz.ntmps49
  go_wp2_with fail
  go_region
  all_goals (try go_wp2)
  refine bodyPost_ret (v := .agg #[.int .i64 (x : Int), .int .i64 (y : Int)]) ?_ rfl ⟨rfl, ((Kept.refl [] w).alloc _).drew⟩
  simp [results, Tryz.results49, asAddr, Result.andThen, go_sem]
end Go.Proofs.YtnlmfklpebekdaaGreatDoor

namespace Go.Proofs.YtnlmfklpebekdaaGreatDoor
open Go.RowKit Go.PlainAid

theorem Kept.ofBelow {w w' : World} (h : Below w.heap.size w w') : Kept [] w w' := ⟨h.os, h.tape, h.output, h.size, fun k hk _ => h.block k hk⟩

/-- The package variable that strings.Index reads. -/
def Gl (w : World) (r : Nat) : Prop := (∃ m, w.cell? ⟨1, 0, none⟩ = some (.int .i64 m)) ∧ 1 < w.heap.size ∧ r ≠ 1
theorem Gl.kept {w w' : World} {r : Nat} (h : Gl w r) (hk : Kept [r] w w') : Gl w' r := by
  obtain ⟨⟨m, hm⟩, hl, hn⟩ := h
  exact ⟨⟨m, (hk.cell (p := ⟨1, 0, none⟩) hl (by simp; exact fun e => hn e.symm)).trans hm⟩, Nat.lt_of_lt_of_le hl hk.size, hn⟩

def noNul (s : ByteArray) : ByteArray := ⟨(Lib.replaceAll s.data.toList (ByteArray.mk #[0]).data.toList (ByteArray.mk #[239, 191, 189]).data.toList).toArray⟩
set_option maxRecDepth 100000 in
set_option maxHeartbeats 400000 in
theorem noNul_any (r : Nat) (s : ByteArray) (w : World) (hs : s.size ≤ 1048576) (hg : Gl w r) :
    Calls Tryz.prog 69 #[.string s] w fun e w' => e = .returned (.string (noNul s)) ∧ Kept [] w w' := by
  obtain ⟨⟨m, hm⟩, _, _⟩ := hg
  have hc := Lib.countB_le ⟨#[0]⟩ (by decide) s.size s (Nat.le_refl _)
  have C := hide (Tryz.strings_ReplaceAll s ⟨#[0]⟩ ⟨#[239, 191, 189]⟩ m w (by omega) hm (by decide) (by have : (ByteArray.mk #[239, 191, 189]).size = 3 := rfl; rw [this]; omega))
  clear hm hc
  go_enter Tryz.func69, Tryz.ntmps69
  go_wp2_with fail
  refine C.out.mono ?_
  rintro e w' ⟨rfl, hb⟩
  have HB := hide hb
  clear hb
  go_wp2
  go_ret
  exact ⟨rfl, Kept.ofBelow HB.out⟩

/-- A capital's small letter. -/
def low (c : Int) : Int := if 65 ≤ c ∧ c ≤ 90 then c + 32 else c
def small (s : ByteArray) : ByteArray := ⟨s.data.map fun b => if 65 ≤ b.toNat ∧ b.toNat ≤ 90 then b + 32 else b⟩
theorem small_size (s : ByteArray) : (small s).size = s.size := Array.size_map ..
theorem bt_small (s : ByteArray) (j : Nat) (h : j < s.size) : bt (small s) j = low (bt s j) := by
  have hj : j < s.data.size := h
  have h2 : j < (small s).size := by rw [small_size]; exact h
  unfold bt low
  rw [dif_pos h, dif_pos h2]
  show (((small s).data[j]'h2).toNat : Int) = _
  have e : (small s).data[j]'h2 = (if 65 ≤ (s.data[j]).toNat ∧ (s.data[j]).toNat ≤ 90 then s.data[j] + 32 else s.data[j]) := by simp [small]
  rw [e]
  show _ = (if 65 ≤ ((s.data[j]).toNat : Int) ∧ ((s.data[j]).toNat : Int) ≤ 90 then ((s.data[j]).toNat : Int) + 32 else ((s.data[j]).toNat : Int))
  by_cases hc : 65 ≤ (s.data[j]).toNat ∧ (s.data[j]).toNat ≤ 90
  · rw [if_pos hc, if_pos (by omega), UInt8.toNat_add]
    have : (32 : UInt8).toNat = 32 := rfl
    omega
  · rw [if_neg hc, if_neg (by omega)]

/-- Up to k the bytes are small already. -/
def Halfway (g sz : Nat) (s : ByteArray) (k : Nat) (w wr : World) : Prop :=
  (∃ C : Array Value, wr.heap[g]? = some (.cells C 5 (sz, sz + 1)) ∧ C.size = sz ∧ ∀ j, j < s.size → C[j]? = some (.int .u8 (if j < k then low (bt s j) else bt s j))) ∧ Kept [] w wr
theorem Halfway.cell {g sz : Nat} {s : ByteArray} {k : Nat} {w wr : World} (h : Halfway g sz s k w wr) (hz : s.size ≤ sz) (j : Nat) (hj : j < s.size) : wr.cell? ⟨g, j, none⟩ = some (.int .u8 (if j < k then low (bt s j) else bt s j)) ∧ wr.frozen? ⟨g, j, none⟩ = false := by
  obtain ⟨⟨C, hC, _, h⟩, _⟩ := h
  exact ⟨by rw [cell_mark hC]; exact h j hj, free_mark hC j (by omega)⟩
theorem Halfway.keep {g sz : Nat} {s : ByteArray} {k : Nat} {w wr : World} (h : Halfway g sz s k w wr) (hl : low (bt s k) = bt s k) : Halfway g sz s (k + 1) w wr := by
  obtain ⟨⟨C, hC, hs, h⟩, hk⟩ := h
  refine ⟨⟨C, hC, hs, fun j hj => ?_⟩, hk⟩
  rw [h j hj]
  by_cases e : j = k
  · subst e; simp [hl]
  · by_cases e1 : j < k
    · rw [if_pos e1, if_pos (by omega)]
    · rw [if_neg e1, if_neg (by omega)]
theorem Halfway.store {g sz : Nat} {s : ByteArray} {k : Nat} {w wr : World} (h : Halfway g sz s k w wr) (hg : w.heap.size ≤ g) (hz : k < sz) : Halfway g sz s (k + 1) w (wr.setCell ⟨g, k, none⟩ (.int .u8 (low (bt s k)))) := by
  obtain ⟨⟨C, hC, hs, h⟩, hk⟩ := h
  refine ⟨⟨_, mark_setCell hC k _, by simpa using hs, fun j hj => ?_⟩, hk.setCell (.inr hg) _⟩
  by_cases e : j = k
  · subst e; simp [Array.getElem?_setIfInBounds, hs, hz]
  · rw [Array.getElem?_setIfInBounds_ne (fun h => e h.symm), h j hj]
    by_cases e1 : j < k
    · rw [if_pos e1, if_pos (by omega)]
    · rw [if_neg e1, if_neg (by omega)]

set_option maxRecDepth 100000 in
set_option maxHeartbeats 1000000 in
theorem small_any (s : ByteArray) (w : World) (hs : s.size ≤ 1048576) :
    Calls Tryz.prog 70 #[.string s] w fun e w' => e = .returned (.string (small s)) ∧ Kept [] w w' := by
  have hcv := run_bytes_of_string (P := Tryz.prog) w 9 58 5 s Tryz.underlying9 Tryz.underlying58 Tryz.underlying5
  obtain ⟨cp, hcp⟩ : ∃ cp, cp = grownCap w s.size 0 5 := ⟨_, rfl⟩
  rw [← hcp] at hcv
  clear hcp
  have hrz := bytesRow_size s cp
  have hrc : ∀ j, j < s.size → (bytesRow s cp)[j]? = some (.int .u8 (bt s j)) := fun j hj => by rw [bytesRow_at s cp j hj, ← get_bt s j hj]; rfl
  generalize bytesRow s cp = R at hcv hrz hrc
  obtain ⟨W1, hW1⟩ : ∃ W1, W1 = w.drew.alloc (.cells R 5 (R.size, R.size + 1)) := ⟨_, rfl⟩
  rw [← hW1] at hcv
  have hB : W1.heap[w.heap.size]? = some (.cells R 5 (R.size, R.size + 1)) := by rw [hW1]; exact heap_alloc_at w.drew _
  have K1 : Kept [] w W1 := by rw [hW1]; exact (Kept.refl [] w).drew.alloc _
  clear hW1
  have HT : Hid (Halfway w.heap.size R.size s 0 w W1) := ⟨⟨R, hB, rfl, fun j hj => by rw [hrc j hj]; simp⟩, K1⟩
  have HZ := hide hrz
  clear hB K1 hrc hrz
  generalize R.size = sz at *
  go_enter Tryz.func70, Tryz.ntmps70
  go_wp2_with fail
  clear hcv
  go_loopw [10] (fun i wr => ∃ k : Nat, k ≤ s.size ∧ i = .int .i64 k ∧ Halfway w.heap.size sz s k w wr) (fun i _ => s.size - (intOf i).toNat)
  case atStart => exact ⟨0, Nat.zero_le _, rfl, HT.out⟩
  case round =>
    obtain ⟨k, hk, rfl, hT⟩ := hrel
    have HT2 := hide hT
    clear hT
    by_cases hlt : k < s.size
    · have ⟨c1, f1⟩ := HT2.out.cell HZ.out k hlt
      rw [if_neg (by omega)] at c1
      have h0 := bt_nonneg s k
      have h1 := bt_le s k
      by_cases a : 65 ≤ bt s k
      · by_cases b : bt s k ≤ 90
        · have HN := hide (HT2.out.store (Nat.le_refl _) (by have := HZ.out; omega))
          have hlow : low (bt s k) = bt s k - 65 + 97 := by unfold low; rw [if_pos ⟨a, b⟩]; omega
          rw [hlow] at HN
          clear hlow
          generalize bt s k = c at *
          go_wp2
          go_roundw
          case rel => exact ⟨k + 1, by omega, by go_num, HN.out⟩
          case measure => simp [intOf]; omega
        · have HN := hide (HT2.out.keep (by unfold low; rw [if_neg (by omega)]))
          generalize bt s k = c at *
          go_wp2
          go_roundw
          case rel => exact ⟨k + 1, by omega, by go_num, HN.out⟩
          case measure => simp [intOf]; omega
      · have HN := hide (HT2.out.keep (by unfold low; rw [if_neg (by omega)]))
        generalize bt s k = c at *
        go_wp2
        go_roundw
        case rel => exact ⟨k + 1, by omega, by go_num, HN.out⟩
        case measure => simp [intOf]; omega
    · have e : k = s.size := by omega
      subst e
      have hback : (convert 58 9 (.slice (some ⟨w.heap.size, 0, none⟩) s.size cp)).run Tryz.prog wr = .ok (.string (small s)) wr := by
        have := run_convert_bytes_back (P := Tryz.prog) wr 58 9 5 ⟨w.heap.size, 0, none⟩ cp (small s).data.toList Tryz.underlying58 Tryz.underlying5 Tryz.underlying9 (fun j hj => by
          have hj2 : j < s.size := by have := small_size s; simp at hj; have e : (small s).data.size = (small s).size := rfl; omega
          rw [addr_add]
          have := (HT2.out.cell HZ.out j hj2).1
          rw [if_pos hj2] at this
          rw [this, ← bt_small s j hj2, ← get_bt (small s) j (by rw [small_size]; exact hj2)]
          simp; rfl)
        have e2 : (small s).data.toList.length = s.size := by simp; exact small_size s
        rw [e2] at this
        simpa using this
      have HK := hide HT2.out.2
      go_wp2
      go_ret
      exact ⟨rfl, HK.out⟩
end Go.Proofs.YtnlmfklpebekdaaGreatDoor
