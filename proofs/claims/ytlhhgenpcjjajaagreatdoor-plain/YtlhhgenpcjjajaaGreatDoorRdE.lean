import Derived.Test.YtlhhgenpcjjajaaGreatDoorTold
import Derived.Lib.IndexAny
import Derived.BigRegion
import Derived.Test.YtlhhgenpcjjajaaGreatDoorLsI
import Derived.Deep.RegionWith
import Derived.Deep.CutRange
set_option linter.unusedSimpArgs false
set_option linter.unusedVariables false
namespace Go.Proofs.YtlhhgenpcjjajaaGreatDoor
open Go.RowKit Go.PlainAid
def inSet (s : ByteArray) (c : Int) : Bool := decide (0 ≤ Lib.indexByte s.data.toList c.toNat.toUInt8)
theorem inSet_eq (s : ByteArray) (c : Int) : inSet s c = s.data.toList.contains c.toNat.toUInt8 := by rw [Lib.contains_iff_indexByte]; rfl
theorem toU8 {c : Int} (h0 : 0 ≤ c) (h1 : c ≤ 255) {x : UInt8} (h : c.toNat.toUInt8 = x) : c = (x.toNat : Int) := by
  have := congrArg UInt8.toNat h
  simp at this
  omega
theorem inSet_gt {c : Int} (h0 : 0 ≤ c) (h1 : c ≤ 255) (h : inSet ⟨#[62]⟩ c = true) : c = 62 := by
  rw [inSet_eq] at h
  simp at h
  exact toU8 h0 h1 h
set_option maxRecDepth 100000 in
set_option maxHeartbeats 400000 in
theorem oneOf1_any (b : Nat) (s : ByteArray) (c : Int) (w : World) (h : w.cell? ⟨b, 0, none⟩ = some (.string s)) :
    Calls Tryz.prog 260 #[.int .u8 c, .pointer (some ⟨b, 0, none⟩)] w fun e w' => e = .returned (.bool (inSet s c)) ∧ w' = w := by
  have C := hide (Tryz.strings_IndexByte s c w)
  go_enter Tryz.func260, Tryz.ntmps260
  go_wp2_with fail
  refine C.out.mono ?_
  rintro e w' ⟨rfl, rfl⟩
  generalize hx : Lib.indexByte s.data.toList c.toNat.toUInt8 = x
  have hin : inSet s c = decide (0 ≤ x) := by unfold inSet; rw [hx]
  have Hin := hide hin
  clear hin hx
  by_cases e : 0 ≤ x
  · go_wp2
    go_ret
    exact ⟨by rw [Hin.out]; simp [e], rfl⟩
  · go_wp2
    go_ret
    exact ⟨by rw [Hin.out]; simp [e], rfl⟩
theorem asks_oneOf (w : World) (S : List Nat) (b : Nat) (s : ByteArray) (h : w.cell? ⟨b, 0, none⟩ = some (.string s)) (hb : b < w.heap.size) (hS : b ∉ S) : Asks w S 260 #[.pointer (some ⟨b, 0, none⟩)] (inSet s) where
  ent := enters_of Tryz.func260 (by kernel_rfl) rfl
  ask c w' _ _ hk := (oneOf1_any b s c w' ((hk.cell (p := ⟨b, 0, none⟩) hb hS).trans h)).mono fun e w'' ⟨h1, h2⟩ => ⟨h1, 0, h2⟩
set_option maxRecDepth 100000 in
set_option maxHeartbeats 400000 in
theorem oneOf_any (s : ByteArray) (w : World) :
    Calls Tryz.prog 168 #[.string s] w fun e w' => e = .returned (.func (.func 260) #[] #[.pointer (some ⟨w.heap.size, 0, none⟩)]) ∧ w' = w.alloc (.cells #[.string s] 9) := by
  have hmf : ∀ (fn : Fn) (first cap : Array Value) (w : World), (Instr.makeFunc fn first cap).run Tryz.prog w = .ok (.func fn first cap) w := fun _ _ _ _ => rfl
  go_enter Tryz.func168, Tryz.ntmps168
  go_wp2
  go_ret
  exact ⟨rfl, rfl⟩
theorem letter_asks (w : World) (S : List Nat) : Asks w S 162 #[] (fun c => decide (97 ≤ c ∧ c ≤ 122 ∨ 65 ≤ c ∧ c ≤ 90)) where
  ent := enters_of Tryz.func162 (by kernel_rfl) rfl
  ask c w' h0 h1 _ := (letter_any c w' h0 h1).mono fun e w'' ⟨h1, h2⟩ => ⟨h1, 0, h2⟩
set_option maxRecDepth 100000 in
set_option maxHeartbeats 400000 in
theorem not1_any (b b2 : Nat) (s : ByteArray) (c : Int) (w : World) (h : w.cell? ⟨b, 0, none⟩ = some (.string s)) (h2 : w.cell? ⟨b2, 0, none⟩ = some (.func (.func 260) #[] #[.pointer (some ⟨b, 0, none⟩)])) :
    Calls Tryz.prog 341 #[.int .u8 c, .pointer (some ⟨b2, 0, none⟩)] w fun e w' => e = .returned (.bool (!inSet s c)) ∧ w' = w := by
  have C := hide (oneOf1_any b s c w h)
  clear h
  generalize inSet s c = x at C ⊢
  go_enter Tryz.func341, Tryz.ntmps341
  go_wp2_with fail
  refine C.out.mono ?_
  rintro e w' ⟨rfl, rfl⟩
  cases x
  · go_wp2
    go_ret
    exact ⟨rfl, rfl⟩
  · go_wp2
    go_ret
    exact ⟨rfl, rfl⟩
theorem asks_not (w : World) (S : List Nat) (b b2 : Nat) (s : ByteArray) (h : w.cell? ⟨b, 0, none⟩ = some (.string s)) (h2 : w.cell? ⟨b2, 0, none⟩ = some (.func (.func 260) #[] #[.pointer (some ⟨b, 0, none⟩)])) (hb : b < w.heap.size) (hS : b ∉ S) (hb2 : b2 < w.heap.size) (hS2 : b2 ∉ S) : Asks w S 341 #[.pointer (some ⟨b2, 0, none⟩)] (fun c => !inSet s c) where
  ent := enters_of Tryz.func341 (by kernel_rfl) rfl
  ask c w' _ _ hk := (not1_any b b2 s c w' ((hk.cell (p := ⟨b, 0, none⟩) hb hS).trans h) ((hk.cell (p := ⟨b2, 0, none⟩) hb2 hS2).trans h2)).mono fun e w'' ⟨h1, h2⟩ => ⟨h1, 0, h2⟩
set_option maxRecDepth 100000 in
set_option maxHeartbeats 400000 in
theorem not_any (f : Fn) (x y : Array Value) (w : World) :
    Calls Tryz.prog 304 #[.func f x y] w fun e w' => e = .returned (.func (.func 341) #[] #[.pointer (some ⟨w.heap.size, 0, none⟩)]) ∧ w' = w.alloc (.cells #[.func f x y] 224) := by
  have hmf : ∀ (fn : Fn) (first cap : Array Value) (w : World), (Instr.makeFunc fn first cap).run Tryz.prog w = .ok (.func fn first cap) w := fun _ _ _ _ => rfl
  go_enter Tryz.func304, Tryz.ntmps304
  go_wp2
  go_ret
  exact ⟨rfl, rfl⟩
set_option maxRecDepth 100000 in
set_option maxHeartbeats 400000 in
theorem passOver_any (r : Nat) (R : RC) (bg ps : Nat) (s : ByteArray) (w : World) (h : Rd w r R bg ps) (hp : ps ≤ R.cs.size) (hs : R.cs.size ≤ 1024) :
    Calls Tryz.prog 256 #[.pointer (some ⟨r, 0, none⟩), .string s] w fun e w' => e = .returned (.tuple #[]) ∧ Kept [r] w w' ∧ Rd w' r R bg (scan (fun c => !inSet s c) R.cs ps) := by
  have hr := lt_of_block h
  have H := hide h
  clear h
  obtain ⟨w1, hw1⟩ : ∃ w1, w1 = w.alloc (.cells #[.string s] 9) := ⟨_, rfl⟩
  obtain ⟨w2, hw2⟩ : ∃ w2, w2 = w1.alloc (.cells #[.func (.func 260) #[] #[.pointer (some ⟨w.heap.size, 0, none⟩)]] 224) := ⟨_, rfl⟩
  have z1 : w1.heap.size = w.heap.size + 1 := by rw [hw1]; simp
  have z2 : w2.heap.size = w.heap.size + 2 := by rw [hw2]; simp [z1]
  have b1 : w1.heap[w.heap.size]? = some (.cells #[.string s] 9 (0, 0)) := by rw [hw1]; exact heap_alloc_at w _
  have k1 : Kept [r] w w1 := by rw [hw1]; exact (Kept.refl _ _).alloc _
  have k12 : Kept [] w1 w2 := by rw [hw2]; exact (Kept.refl _ _).alloc _
  have b2 : w2.heap[w1.heap.size]? = some (.cells #[.func (.func 260) #[] #[.pointer (some ⟨w.heap.size, 0, none⟩)]] 224 (0, 0)) := by rw [hw2]; exact heap_alloc_at w1 _
  have b1' := k12.at b1 (by simp)
  have hR2 : Rd w2 r R bg ps := by rw [hw2, hw1]; exact (((Kept.refl [] w).alloc _).alloc _).at H.out (by simp)
  have hk2 : Kept [r] w w2 := k1.trans (k12.mono (by simp))
  have hA : Asks w2 [r] 341 #[.pointer (some ⟨w1.heap.size, 0, none⟩)] (fun c => !inSet s c) :=
    asks_not w2 [r] w.heap.size w1.heap.size s (by rw [cell_at b1']; rfl) (by rw [cell_at b2]; rfl) (by omega) (by simp; omega) (by omega) (by simp; omega)
  have C := hide (upTo_any r R bg ps _ _ _ w2 hR2 hp hs hA)
  have HK := hide hk2
  have HW1 := hide hw1
  have HW2 := hide hw2
  clear hA hk2 hR2 b1' b2 k12 k1 b1 z1 z2 hw1 hw2
  go_enter Tryz.func256, Tryz.ntmps256
  go_wp2_with fail
  refine (oneOf_any s w).mono ?_
  rintro e w' ⟨rfl, rfl⟩
  rw [← HW1.out]
  go_wp2_with fail
  refine (not_any _ _ _ w1).mono ?_
  rintro e w' ⟨rfl, rfl⟩
  rw [← HW2.out]
  go_wp2_with fail
  refine C.out.mono ?_
  rintro e w3 ⟨rfl, hk3, hr3⟩
  have HK3 := hide (HK.out.trans hk3)
  have HR3 := hide hr3
  clear hk3 hr3
  go_wp2
  go_end0
  exact ⟨rfl, HK3.out, HR3.out⟩
end Go.Proofs.YtlhhgenpcjjajaaGreatDoor
namespace Go.Proofs.YtlhhgenpcjjajaaGreatDoor
open Go.RowKit Go.PlainAid
structure Ats (w : World) (r : Nat) (R : RC) (g cap : Nat) (cut : Nat → Nat) : Prop where
  av : R.av = .slice (some ⟨g, 0, none⟩) (R.cs.size + 1) cap
  ne : g ≠ r
  lt : g < w.heap.size
  at_ : ∀ i, i ≤ R.cs.size → w.cell? ⟨g, i, none⟩ = some (.int .i64 (cut i : Int))
theorem Ats.kept {w w' : World} {r : Nat} {R : RC} {g cap : Nat} {cut : Nat → Nat} (h : Ats w r R g cap cut) (hk : Kept [r] w w') : Ats w' r R g cap cut :=
  ⟨h.av, h.ne, Nat.lt_of_lt_of_le h.lt hk.size, fun i hi => (hk.cell (p := ⟨g, i, none⟩) h.lt (by simp [h.ne])).trans (h.at_ i hi)⟩
set_option maxRecDepth 100000 in
set_option maxHeartbeats 1000000 in
theorem place_any (r : Nat) (R : RC) (bg ps g cap : Nat) (cut : Nat → Nat) (w : World) (h : Rd w r R bg ps) (hA : Ats w r R g cap cut) (hb : bg ≤ R.cs.size) (hp : ps ≤ R.cs.size) (hs : R.cs.size ≤ 1024) :
    Calls Tryz.prog 88 #[.pointer (some ⟨r, 0, none⟩)] w fun e w' => e = .returned (.agg #[.int .i64 (cut bg : Int), .int .i64 (cut ps : Int)]) ∧ Kept [] w w' := by
  have a := h.ats
  rw [hA.av] at a
  have p := h.ps
  have b := h.bg
  have c1 := hA.at_ bg hb
  have c2 := hA.at_ ps hp
  have hr := lt_of_block h
  have hg := hA.lt
  clear h hA
  generalize R.cs.size = n at *
  generalize cut bg = x at *
  generalize cut ps = y at *
  go_enter Tryz.func88, Tryz.ntmps88
  go_wp2_with fail
  go_region
  all_goals (try go_wp2)
  refine bodyPost_ret (v := .agg #[.int .i64 (x : Int), .int .i64 (y : Int)]) ?_ rfl ⟨rfl, ((Kept.refl [] w).alloc _).drew⟩
  simp [results, Tryz.results88, asAddr, Result.andThen, go_sem]
end Go.Proofs.YtlhhgenpcjjajaaGreatDoor
namespace Go.Proofs.YtlhhgenpcjjajaaGreatDoor
open Go.RowKit Go.PlainAid
theorem pre_amp {s : ByteArray} (h : pre s ⟨#[38]⟩ = false) : pre s ⟨#[38, 35]⟩ = false := by
  rw [Bool.eq_false_iff] at h ⊢
  intro h2
  apply h
  unfold pre at h2 ⊢
  simp only [Bool.and_eq_true, decide_eq_true_eq, beq_iff_eq] at h2 ⊢
  obtain ⟨h3, h4⟩ := h2
  have h3' : 2 ≤ s.size := h3
  refine ⟨Nat.le_trans (by decide) h3', ?_⟩
  simp only [ByteArray.toList_eq] at h4 ⊢
  obtain ⟨d⟩ := s
  have e2 : (ByteArray.extract ⟨d⟩ 0 (ByteArray.size ⟨#[38, 35]⟩)).data.toList = (d.extract 0 2).toList := by simp [ByteArray.size]
  have e1 : (ByteArray.extract ⟨d⟩ 0 (ByteArray.size ⟨#[38]⟩)).data.toList = (d.extract 0 1).toList := by simp [ByteArray.size]
  rw [e2] at h4
  rw [e1]
  have : (d.extract 0 1).toList = ((d.extract 0 2).toList).take 1 := by simp [List.take_take]
  rw [this, h4]
  rfl
set_option maxRecDepth 100000 in
set_option maxHeartbeats 1000000 in
theorem noRef (b : Nat) (lg : Int) (s : ByteArray) (w : World) (hs : s.size ≤ 1024) (hp : pre s ⟨#[38]⟩ = false) :
    Calls Tryz.prog 170 #[.agg #[.map (some b), .int .i64 lg], .string s, .bool false] w fun e w' => e = .returned (.tuple #[.string ⟨#[]⟩, .int .i64 0]) ∧ Kept [] w w' := by
  have hp2 := pre_amp hp
  have HK := hide ((Kept.refl [] w).alloc (.cells #[.map (some b), .int .i64 lg] 162 (0, 0)))
  have C1 := hide (fun w => hasPrefix_any s ⟨#[38, 35]⟩ w (by omega) (by decide))
  have C2 := hide (fun w => hasPrefix_any s ⟨#[38]⟩ w (by omega) (by decide))
  rw [hp2] at C1
  rw [hp] at C2
  clear hp hp2
  go_enter Tryz.func170, Tryz.ntmps170
  go_wp2_with fail
  refine (C1.out _).mono ?_
  rintro e w1 ⟨rfl, rfl⟩
  go_wp2_with fail
  refine (C2.out _).mono ?_
  rintro e w1 ⟨rfl, rfl⟩
  go_wp2
  go_ret2
  exact ⟨rfl, HK.out⟩
structure BareI (r : Nat) (R : RC) (bg : Nat) (cut : Nat → Nat) (w W0 : World) (b0 b1 b2 b3 b4 b5 b6 b7 b8 b9 b10 b11 b12 b13 b14 b15 b16 : Bool) (s11 s12 s13 s14 s15 s16 s17 s18 s19 s20 s21 s22 s23 s24 s25 s26 : Value) (W : World) : Prop where
  f0 : b0 = true → s11 = .pointer (some ⟨r, 0, none⟩)
  f1 : b1 = true → s12 = .agg #[.int .i64 (cut bg : Int), .int .i64 (cut (bg + 1) : Int)]
  f2 : b2 = true → s13 = .pointer (some ⟨r, 0, none⟩)
  f3 : b3 = true → s14 = .pointer (some ⟨r, 0, none⟩)
  f4 : b4 = true → s15 = .pointer (some ⟨r, 0, none⟩)
  f5 : b5 = true → s16 = .string R.cs
  f6 : b6 = true → s17 = .pointer (some ⟨r, 0, none⟩)
  f7 : b7 = true → s18 = .pointer (some ⟨r, 0, none⟩)
  f8 : b8 = true → s19 = .pointer (some ⟨r, 2, none⟩)
  f9 : b9 = true → s20 = .int .i64 (bg : Int)
  f10 : b10 = true → s21 = .pointer (some ⟨r, 0, none⟩)
  f11 : b11 = true → s22 = .pointer (some ⟨r, 0, none⟩)
  f12 : b12 = true → s23 = .pointer (some ⟨r, 3, none⟩)
  f13 : b13 = true → s24 = .int .i64 ((bg : Int) + 1)
  f14 : b14 = true → s25 = .string (R.cs.extract bg (bg + 1))
  f15 : b15 = true → s26 = .agg #[.int .i64 (cut bg : Int), .int .i64 (cut (bg + 1) : Int), .string (R.cs.extract bg (bg + 1))]
  d : (b14 = true → b5 = true ∧ b9 = true ∧ b13 = true) ∧ (b15 = true → b1 = true ∧ b14 = true) ∧ (b16 = true → b15 = true)
  wi : if b16 then (Kept [r] w W ∧ Rd W r R bg (bg + 1) ∧ W.heap[w.heap.size]? = some (.cells #[.int .i64 (cut bg : Int), .int .i64 (cut (bg + 1) : Int), .string (R.cs.extract bg (bg + 1))] 188 (0, 0))) else Kept [] W0 W
theorem bare_fin {r : Nat} {R : RC} {bg : Nat} {a b : Int} {s : ByteArray} {w W0 W : World} (h0 : Kept [r] w W0) (hR : Rd W0 r R bg (bg + 1)) (q : Kept [] W0 W) (g : W.heap[w.heap.size]? = some (.cells #[.int .i64 0, .int .i64 0, .string ⟨#[]⟩] 188 (0, 0))) (hr : r ≠ w.heap.size) :
    Kept [r] w (((W.setCell ⟨w.heap.size, 0, none⟩ (.int .i64 a)).setCell ⟨w.heap.size, 1, none⟩ (.int .i64 b)).setCell ⟨w.heap.size, 2, none⟩ (.string s)) ∧ Rd (((W.setCell ⟨w.heap.size, 0, none⟩ (.int .i64 a)).setCell ⟨w.heap.size, 1, none⟩ (.int .i64 b)).setCell ⟨w.heap.size, 2, none⟩ (.string s)) r R bg (bg + 1) ∧ (((W.setCell ⟨w.heap.size, 0, none⟩ (.int .i64 a)).setCell ⟨w.heap.size, 1, none⟩ (.int .i64 b)).setCell ⟨w.heap.size, 2, none⟩ (.string s)).heap[w.heap.size]? = some (.cells #[.int .i64 a, .int .i64 b, .string s] 188 (0, 0)) := by
  have k1 : Kept [w.heap.size] W (((W.setCell ⟨w.heap.size, 0, none⟩ (.int .i64 a)).setCell ⟨w.heap.size, 1, none⟩ (.int .i64 b)).setCell ⟨w.heap.size, 2, none⟩ (.string s)) := (((Kept.refl [w.heap.size] W).setCell (.inl (by simp)) _).setCell (.inl (by simp)) _).setCell (.inl (by simp)) _
  refine ⟨?_, (hR.kept q (by simp)).kept k1 (by simpa using hr), block_setCell (block_setCell (block_setCell g 0 _) 1 _) 2 _⟩
  exact ((((h0.trans (q.mono (by simp))).setCell (.inr (Nat.le_refl _)) _).setCell (.inr (Nat.le_refl _)) _).setCell (.inr (Nat.le_refl _)) _)
set_option maxRecDepth 100000 in
set_option maxHeartbeats 4000000 in
theorem bareChar_any (r : Nat) (R : RC) (bg ps g cap : Nat) (cut : Nat → Nat) (w : World) (h : Rd w r R bg ps) (hA : Ats w r R g cap cut) (hb : bg < R.cs.size) (hs : R.cs.size ≤ 1024) :
    Calls Tryz.prog 157 #[.pointer (some ⟨r, 0, none⟩)] w fun e w' => e = .returned (.agg #[.int .i64 (cut bg : Int), .int .i64 (cut (bg + 1) : Int), .string (R.cs.extract bg (bg + 1))]) ∧ Kept [r] w w' ∧ Rd w' r R bg (bg + 1) := by
  have b := h.bg
  have p := h.ps
  have fz := h.free 3
  have hr := lt_of_block h
  obtain ⟨z, hz⟩ : ∃ z, z = Obj.cells #[.int .i64 0, .int .i64 0, .string ⟨#[]⟩] 188 (0, 0) := ⟨_, rfl⟩
  obtain ⟨W0, hW0⟩ : ∃ W0, W0 = (w.setCell ⟨r, 3, none⟩ (.int .i64 ((bg + 1 : Nat) : Int))).alloc z := ⟨_, rfl⟩
  have K0 : Kept [r] w W0 := by rw [hW0]; exact ((Kept.refl [r] w).setCell (.inl (by simp)) _).alloc _
  have R0 : Rd W0 r R bg (bg + 1) := by rw [hW0]; exact ((Kept.refl [] _).alloc z).at (h.setPs (bg + 1)) (by simp)
  have G0 : W0.heap[w.heap.size]? = some z := by rw [hW0]; have := heap_alloc_at (w.setCell ⟨r, 3, none⟩ (.int .i64 ((bg + 1 : Nat) : Int))) z; rwa [World.size_setCell] at this
  have C := hide (fun W (hk : Kept [] W0 W) => place_any r R bg (bg + 1) g cap cut W (R0.kept hk (by simp)) ((hA.kept K0).kept (hk.mono (by simp))) (by omega) (by omega) hs)
  have HA := hide hA
  have HK0 := hide K0
  have HR0 := hide R0
  have HG0 := hide G0
  have HZ := hide hz
  have HW0 := hide (show (w.setCell ⟨r, 3, none⟩ (.int .i64 ((bg : Int) + 1))).alloc (.cells #[.int .i64 0, .int .i64 0, .string ⟨#[]⟩] 188 (0, 0)) = W0 from by rw [hW0, hz]; congr 1)
  clear h hA K0 R0 G0 hW0 hz
  go_enter Tryz.func157, Tryz.ntmps157
  go_wp2_with fail
  rw [HW0.out]
  have HNR := hide (show r ≠ w.heap.size by omega)
  clear b p fz hr
  refine wp_region_any (by kernel_rfl) ?_
  try (change wpAny _ _ _ _ _ _ _ (World.drew _))
  refine wpAny_inv (I := fun listed a W => ∃ b0 b1 b2 b3 b4 b5 b6 b7 b8 b9 b10 b11 b12 b13 b14 b15 b16 s11 s12 s13 s14 s15 s16 s17 s18 s19 s20 s21 s22 s23 s24 s25 s26, listed = #[b0, b1, b2, b3, b4, b5, b6, b7, b8, b9, b10, b11, b12, b13, b14, b15, b16] ∧ a = ⟨#[.pointer (some ⟨r, 0, none⟩), undef, .pointer (some ⟨w.heap.size, 0, none⟩), .pointer (some ⟨r, 0, none⟩), .pointer (some ⟨r, 0, none⟩), .pointer (some ⟨r, 0, none⟩), .pointer (some ⟨r, 2, none⟩), .int .i64 (bg : Int), .int .i64 ((bg : Int) + 1), .pointer (some ⟨r, 0, none⟩), .pointer (some ⟨r, 3, none⟩), s11, s12, s13, s14, s15, s16, s17, s18, s19, s20, s21, s22, s23, s24, s25, s26], []⟩ ∧ BareI r R bg cut w W0 b0 b1 b2 b3 b4 b5 b6 b7 b8 b9 b10 b11 b12 b13 b14 b15 b16 s11 s12 s13 s14 s15 s16 s17 s18 s19 s20 s21 s22 s23 s24 s25 s26 W) ?_ ?_ _ _ _ _ ?_ ?_
  · rintro listed a W k ⟨b0, b1, b2, b3, b4, b5, b6, b7, b8, b9, b10, b11, b12, b13, b14, b15, b16, s11, s12, s13, s14, s15, s16, s17, s18, s19, s20, s21, s22, s23, s24, s25, s26, rfl, rfl, hI⟩ hi
    simp only [Region.ready, List.mem_filter, List.mem_range] at hi
    obtain ⟨hlt, hc⟩ := hi
    have hlt : k < 17 := hlt
    obtain rfl | rfl | rfl | rfl | rfl | rfl | rfl | rfl | rfl | rfl | rfl | rfl | rfl | rfl | rfl | rfl | rfl : k = 0 ∨ k = 1 ∨ k = 2 ∨ k = 3 ∨ k = 4 ∨ k = 5 ∨ k = 6 ∨ k = 7 ∨ k = 8 ∨ k = 9 ∨ k = 10 ∨ k = 11 ∨ k = 12 ∨ k = 13 ∨ k = 14 ∨ k = 15 ∨ k = 16 := by omega
    all_goals simp [Region.binds] at hc
    · refine wpOp_step rfl ?_
      intro K' hK'
      go_simp
      refine hK' _ _ ⟨_, _, _, _, _, _, _, _, _, _, _, _, _, _, _, _, _, _, _, _, _, _, _, _, _, _, _, _, _, _, _, _, _, rfl, rfl, ?_⟩
      exact ⟨fun _ => rfl, hI.f1, hI.f2, hI.f3, hI.f4, hI.f5, hI.f6, hI.f7, hI.f8, hI.f9, hI.f10, hI.f11, hI.f12, hI.f13, hI.f14, hI.f15, hI.d, hI.wi⟩
    · refine wpOp_step rfl ?_
      intro K' hK'
      have e0 := hI.f0 (by simp [hc])
      subst e0
      have hb16 : b16 = false := by
        cases b16 with
        | false => rfl
        | true => exact absurd ((hI.d.2.1 (hI.d.2.2 rfl)).1) (by simp [hc])
      subst hb16
      have q : Kept [] W0 W := hI.wi
      have C1 := hide (C.out W q)
      go_simp
      refine C1.out.mono ?_
      rintro e W2 ⟨rfl, hk2⟩
      refine hK' _ _ ⟨_, _, _, _, _, _, _, _, _, _, _, _, _, _, _, _, _, _, _, _, _, _, _, _, _, _, _, _, _, _, _, _, _, rfl, rfl, ?_⟩
      exact ⟨hI.f0, fun _ => rfl, hI.f2, hI.f3, hI.f4, hI.f5, hI.f6, hI.f7, hI.f8, hI.f9, hI.f10, hI.f11, hI.f12, hI.f13, hI.f14, hI.f15, ⟨hI.d.1, fun h => ⟨rfl, (hI.d.2.1 h).2⟩, hI.d.2.2⟩, (by simp only [Bool.false_eq_true, ↓reduceIte]; exact q.trans hk2)⟩
    · refine wpOp_step rfl ?_
      intro K' hK'
      go_simp
      refine hK' _ _ ⟨_, _, _, _, _, _, _, _, _, _, _, _, _, _, _, _, _, _, _, _, _, _, _, _, _, _, _, _, _, _, _, _, _, rfl, rfl, ?_⟩
      exact ⟨hI.f0, hI.f1, fun _ => rfl, hI.f3, hI.f4, hI.f5, hI.f6, hI.f7, hI.f8, hI.f9, hI.f10, hI.f11, hI.f12, hI.f13, hI.f14, hI.f15, hI.d, hI.wi⟩
    · refine wpOp_step rfl ?_
      intro K' hK'
      have e2 := hI.f2 (by simp [hc])
      subst e2
      go_simp
      refine hK' _ _ ⟨_, _, _, _, _, _, _, _, _, _, _, _, _, _, _, _, _, _, _, _, _, _, _, _, _, _, _, _, _, _, _, _, _, rfl, rfl, ?_⟩
      exact ⟨hI.f0, hI.f1, hI.f2, fun _ => rfl, hI.f4, hI.f5, hI.f6, hI.f7, hI.f8, hI.f9, hI.f10, hI.f11, hI.f12, hI.f13, hI.f14, hI.f15, hI.d, hI.wi⟩
    · refine wpOp_step rfl ?_
      intro K' hK'
      have e3 := hI.f3 (by simp [hc])
      subst e3
      go_simp
      refine hK' _ _ ⟨_, _, _, _, _, _, _, _, _, _, _, _, _, _, _, _, _, _, _, _, _, _, _, _, _, _, _, _, _, _, _, _, _, rfl, rfl, ?_⟩
      exact ⟨hI.f0, hI.f1, hI.f2, hI.f3, fun _ => rfl, hI.f5, hI.f6, hI.f7, hI.f8, hI.f9, hI.f10, hI.f11, hI.f12, hI.f13, hI.f14, hI.f15, hI.d, hI.wi⟩
    · refine wpOp_step rfl ?_
      intro K' hK'
      have e4 := hI.f4 (by simp [hc])
      subst e4
      have hb16 : b16 = false := by
        cases b16 with
        | false => rfl
        | true => exact absurd ((hI.d.1 (hI.d.2.1 (hI.d.2.2 rfl)).2).1) (by simp [hc])
      subst hb16
      have q : Kept [] W0 W := hI.wi
      have c0 : W.cell? ⟨r, 0, none⟩ = some (.string R.cs) := (HR0.out.kept q (by simp)).text
      go_simp
      refine hK' _ _ ⟨_, _, _, _, _, _, _, _, _, _, _, _, _, _, _, _, _, _, _, _, _, _, _, _, _, _, _, _, _, _, _, _, _, rfl, rfl, ?_⟩
      exact ⟨hI.f0, hI.f1, hI.f2, hI.f3, hI.f4, fun _ => rfl, hI.f6, hI.f7, hI.f8, hI.f9, hI.f10, hI.f11, hI.f12, hI.f13, hI.f14, hI.f15, ⟨fun h => ⟨rfl, (hI.d.1 h).2.1, (hI.d.1 h).2.2⟩, hI.d.2.1, hI.d.2.2⟩, hI.wi⟩
    · refine wpOp_step rfl ?_
      intro K' hK'
      go_simp
      refine hK' _ _ ⟨_, _, _, _, _, _, _, _, _, _, _, _, _, _, _, _, _, _, _, _, _, _, _, _, _, _, _, _, _, _, _, _, _, rfl, rfl, ?_⟩
      exact ⟨hI.f0, hI.f1, hI.f2, hI.f3, hI.f4, hI.f5, fun _ => rfl, hI.f7, hI.f8, hI.f9, hI.f10, hI.f11, hI.f12, hI.f13, hI.f14, hI.f15, hI.d, hI.wi⟩
    · refine wpOp_step rfl ?_
      intro K' hK'
      have e6 := hI.f6 (by simp [hc])
      subst e6
      go_simp
      refine hK' _ _ ⟨_, _, _, _, _, _, _, _, _, _, _, _, _, _, _, _, _, _, _, _, _, _, _, _, _, _, _, _, _, _, _, _, _, rfl, rfl, ?_⟩
      exact ⟨hI.f0, hI.f1, hI.f2, hI.f3, hI.f4, hI.f5, hI.f6, fun _ => rfl, hI.f8, hI.f9, hI.f10, hI.f11, hI.f12, hI.f13, hI.f14, hI.f15, hI.d, hI.wi⟩
    · refine wpOp_step rfl ?_
      intro K' hK'
      have e7 := hI.f7 (by simp [hc])
      subst e7
      go_simp
      refine hK' _ _ ⟨_, _, _, _, _, _, _, _, _, _, _, _, _, _, _, _, _, _, _, _, _, _, _, _, _, _, _, _, _, _, _, _, _, rfl, rfl, ?_⟩
      exact ⟨hI.f0, hI.f1, hI.f2, hI.f3, hI.f4, hI.f5, hI.f6, hI.f7, fun _ => rfl, hI.f9, hI.f10, hI.f11, hI.f12, hI.f13, hI.f14, hI.f15, hI.d, hI.wi⟩
    · refine wpOp_step rfl ?_
      intro K' hK'
      have e8 := hI.f8 (by simp [hc])
      subst e8
      have hb16 : b16 = false := by
        cases b16 with
        | false => rfl
        | true => exact absurd ((hI.d.1 (hI.d.2.1 (hI.d.2.2 rfl)).2).2.1) (by simp [hc])
      subst hb16
      have q : Kept [] W0 W := hI.wi
      have c2 : W.cell? ⟨r, 2, none⟩ = some (.int .i64 (bg : Int)) := (HR0.out.kept q (by simp)).bg
      go_simp
      refine hK' _ _ ⟨_, _, _, _, _, _, _, _, _, _, _, _, _, _, _, _, _, _, _, _, _, _, _, _, _, _, _, _, _, _, _, _, _, rfl, rfl, ?_⟩
      exact ⟨hI.f0, hI.f1, hI.f2, hI.f3, hI.f4, hI.f5, hI.f6, hI.f7, hI.f8, fun _ => rfl, hI.f10, hI.f11, hI.f12, hI.f13, hI.f14, hI.f15, ⟨fun h => ⟨(hI.d.1 h).1, rfl, (hI.d.1 h).2.2⟩, hI.d.2.1, hI.d.2.2⟩, hI.wi⟩
    · refine wpOp_step rfl ?_
      intro K' hK'
      go_simp
      refine hK' _ _ ⟨_, _, _, _, _, _, _, _, _, _, _, _, _, _, _, _, _, _, _, _, _, _, _, _, _, _, _, _, _, _, _, _, _, rfl, rfl, ?_⟩
      exact ⟨hI.f0, hI.f1, hI.f2, hI.f3, hI.f4, hI.f5, hI.f6, hI.f7, hI.f8, hI.f9, fun _ => rfl, hI.f11, hI.f12, hI.f13, hI.f14, hI.f15, hI.d, hI.wi⟩
    · refine wpOp_step rfl ?_
      intro K' hK'
      have e10 := hI.f10 (by simp [hc])
      subst e10
      go_simp
      refine hK' _ _ ⟨_, _, _, _, _, _, _, _, _, _, _, _, _, _, _, _, _, _, _, _, _, _, _, _, _, _, _, _, _, _, _, _, _, rfl, rfl, ?_⟩
      exact ⟨hI.f0, hI.f1, hI.f2, hI.f3, hI.f4, hI.f5, hI.f6, hI.f7, hI.f8, hI.f9, hI.f10, fun _ => rfl, hI.f12, hI.f13, hI.f14, hI.f15, hI.d, hI.wi⟩
    · refine wpOp_step rfl ?_
      intro K' hK'
      have e11 := hI.f11 (by simp [hc])
      subst e11
      go_simp
      refine hK' _ _ ⟨_, _, _, _, _, _, _, _, _, _, _, _, _, _, _, _, _, _, _, _, _, _, _, _, _, _, _, _, _, _, _, _, _, rfl, rfl, ?_⟩
      exact ⟨hI.f0, hI.f1, hI.f2, hI.f3, hI.f4, hI.f5, hI.f6, hI.f7, hI.f8, hI.f9, hI.f10, hI.f11, fun _ => rfl, hI.f13, hI.f14, hI.f15, hI.d, hI.wi⟩
    · refine wpOp_step rfl ?_
      intro K' hK'
      have e12 := hI.f12 (by simp [hc])
      subst e12
      have hb16 : b16 = false := by
        cases b16 with
        | false => rfl
        | true => exact absurd ((hI.d.1 (hI.d.2.1 (hI.d.2.2 rfl)).2).2.2) (by simp [hc])
      subst hb16
      have q : Kept [] W0 W := hI.wi
      have c3 : W.cell? ⟨r, 3, none⟩ = some (.int .i64 ((bg : Int) + 1)) := (HR0.out.kept q (by simp)).ps
      go_simp
      refine hK' _ _ ⟨_, _, _, _, _, _, _, _, _, _, _, _, _, _, _, _, _, _, _, _, _, _, _, _, _, _, _, _, _, _, _, _, _, rfl, rfl, ?_⟩
      exact ⟨hI.f0, hI.f1, hI.f2, hI.f3, hI.f4, hI.f5, hI.f6, hI.f7, hI.f8, hI.f9, hI.f10, hI.f11, hI.f12, fun _ => rfl, hI.f14, hI.f15, ⟨fun h => ⟨(hI.d.1 h).1, (hI.d.1 h).2.1, rfl⟩, hI.d.2.1, hI.d.2.2⟩, hI.wi⟩
    · refine wpOp_step rfl ?_
      intro K' hK'
      have e5 := hI.f5 (by simp [hc])
      subst e5
      have e9 := hI.f9 (by simp [hc])
      subst e9
      have e13 := hI.f13 (by simp [hc])
      subst e13
      go_simp
      rw [if_pos (by omega), if_pos (by omega)]
      go_simp
      refine hK' _ _ ⟨_, _, _, _, _, _, _, _, _, _, _, _, _, _, _, _, _, _, _, _, _, _, _, _, _, _, _, _, _, _, _, _, _, rfl, rfl, ?_⟩
      exact ⟨hI.f0, hI.f1, hI.f2, hI.f3, hI.f4, hI.f5, hI.f6, hI.f7, hI.f8, hI.f9, hI.f10, hI.f11, hI.f12, hI.f13, fun _ => rfl, hI.f15, ⟨fun _ => ⟨by simp [hc], by simp [hc], by simp [hc]⟩, fun h => ⟨(hI.d.2.1 h).1, rfl⟩, hI.d.2.2⟩, hI.wi⟩
    · refine wpOp_step rfl ?_
      intro K' hK'
      have e1 := hI.f1 (by simp [hc])
      subst e1
      have e14 := hI.f14 (by simp [hc])
      subst e14
      go_simp
      refine hK' _ _ ⟨_, _, _, _, _, _, _, _, _, _, _, _, _, _, _, _, _, _, _, _, _, _, _, _, _, _, _, _, _, _, _, _, _, rfl, rfl, ?_⟩
      exact ⟨hI.f0, hI.f1, hI.f2, hI.f3, hI.f4, hI.f5, hI.f6, hI.f7, hI.f8, hI.f9, hI.f10, hI.f11, hI.f12, hI.f13, hI.f14, fun _ => rfl, ⟨hI.d.1, fun _ => ⟨by simp [hc], by simp [hc]⟩, fun h => rfl⟩, hI.wi⟩
    · refine wpOp_step rfl ?_
      intro K' hK'
      have e15 := hI.f15 (by simp [hc])
      subst e15
      have hb16 : b16 = false := by simp [hc]
      subst hb16
      have q : Kept [] W0 W := hI.wi
      have g1 := q.at (HG0.out.trans (congrArg some HZ.out)) (by simp)
      have q0 : W.cell? ⟨w.heap.size, 0, none⟩ = some (.int .i64 0) := by rw [cell_at g1]; rfl
      have q1 : W.cell? ⟨w.heap.size, 1, none⟩ = some (.int .i64 0) := by rw [cell_at g1]; rfl
      have q2 : W.cell? ⟨w.heap.size, 2, none⟩ = some (.string ⟨#[]⟩) := by rw [cell_at g1]; rfl
      have z0 := free_at g1 0
      have z1 := free_at g1 1
      have z2 := free_at g1 2
      go_simp
      refine hK' _ _ ⟨_, _, _, _, _, _, _, _, _, _, _, _, _, _, _, _, _, _, _, _, _, _, _, _, _, _, _, _, _, _, _, _, _, rfl, rfl, ?_⟩
      exact ⟨hI.f0, hI.f1, hI.f2, hI.f3, hI.f4, hI.f5, hI.f6, hI.f7, hI.f8, hI.f9, hI.f10, hI.f11, hI.f12, hI.f13, hI.f14, hI.f15, ⟨hI.d.1, hI.d.2.1, fun _ => by simp [hc]⟩, bare_fin HK0.out HR0.out q g1 HNR.out⟩
  · rintro listed a W ⟨b0, b1, b2, b3, b4, b5, b6, b7, b8, b9, b10, b11, b12, b13, b14, b15, b16, s11, s12, s13, s14, s15, s16, s17, s18, s19, s20, s21, s22, s23, s24, s25, s26, rfl, rfl, hI⟩ hr
    simp only [Region.ready, List.filter_eq_nil_iff, List.mem_range] at hr
    have q0 := hr 0 (by decide)
    simp [Region.binds] at q0
    subst q0
    have q1 := hr 1 (by decide)
    simp [Region.binds] at q1
    subst q1
    have q2 := hr 2 (by decide)
    simp [Region.binds] at q2
    subst q2
    have q3 := hr 3 (by decide)
    simp [Region.binds] at q3
    subst q3
    have q4 := hr 4 (by decide)
    simp [Region.binds] at q4
    subst q4
    have q5 := hr 5 (by decide)
    simp [Region.binds] at q5
    subst q5
    have q6 := hr 6 (by decide)
    simp [Region.binds] at q6
    subst q6
    have q7 := hr 7 (by decide)
    simp [Region.binds] at q7
    subst q7
    have q8 := hr 8 (by decide)
    simp [Region.binds] at q8
    subst q8
    have q9 := hr 9 (by decide)
    simp [Region.binds] at q9
    subst q9
    have q10 := hr 10 (by decide)
    simp [Region.binds] at q10
    subst q10
    have q11 := hr 11 (by decide)
    simp [Region.binds] at q11
    subst q11
    have q12 := hr 12 (by decide)
    simp [Region.binds] at q12
    subst q12
    have q13 := hr 13 (by decide)
    simp [Region.binds] at q13
    subst q13
    have q14 := hr 14 (by decide)
    simp [Region.binds] at q14
    subst q14
    have q15 := hr 15 (by decide)
    simp [Region.binds] at q15
    subst q15
    have q16 := hr 16 (by decide)
    simp [Region.binds] at q16
    subst q16
    obtain ⟨h1, h2, h3⟩ := hI.wi
    have H1 := hide h1
    have H2 := hide h2
    have H3 := hide h3
    clear h1 h2 h3 hI hr
    rename_i KK hKK
    refine hKK _ _ ?_
    clear hKK KK
    go_wp2
    refine bodyPost_ret (v := .agg #[.int .i64 (cut bg : Int), .int .i64 (cut (bg + 1) : Int), .string (R.cs.extract bg (bg + 1))]) ?_ rfl ⟨rfl, H1.out, H2.out⟩
    have hc := cell_at H3.out
    simp [results, Tryz.results157, asAddr, Result.andThen, go_sem, hc]
  · decide
  · exact ⟨_, _, _, _, _, _, _, _, _, _, _, _, _, _, _, _, _, _, _, _, _, _, _, _, _, _, _, _, _, _, _, _, _, rfl, rfl, by simp, by simp, by simp, by simp, by simp, by simp, by simp, by simp, by simp, by simp, by simp, by simp, by simp, by simp, by simp, by simp, by simp, (Kept.refl [] W0).drew⟩
end Go.Proofs.YtlhhgenpcjjajaaGreatDoor
namespace Go.Proofs.YtlhhgenpcjjajaaGreatDoor
open Go.RowKit Go.PlainAid
set_option maxRecDepth 100000 in
set_option maxHeartbeats 1000000 in
theorem inText_no (r : Nat) (R : RC) (bg ps : Nat) (w : World) (h : Rd w r R bg ps) (ho : R.ofT = ⟨#[]⟩) :
    Calls Tryz.prog 89 #[.pointer (some ⟨r, 0, none⟩)] w fun e w' => e = .returned (.bool false) ∧ Kept [] w w' := by
  have o := h.ofT
  rw [ho] at o
  have hr := lt_of_block h
  clear h ho
  go_enter Tryz.func89, Tryz.ntmps89
  go_wp2
  go_ret
  exact ⟨rfl, Kept.refl _ _⟩
set_option maxRecDepth 100000 in
set_option maxHeartbeats 2000000 in
theorem char_no (r : Nat) (R : RC) (bg ps g cap b : Nat) (cut : Nat → Nat) (w : World) (h : Rd w r R bg ps) (hA : Ats w r R g cap cut) (hmv : R.mv = .map (some b)) (hb : bg < R.cs.size) (hs : R.cs.size ≤ 1024) (hp : pre (R.cs.extract bg R.cs.size) ⟨#[38]⟩ = false) :
    Calls Tryz.prog 93 #[.pointer (some ⟨r, 0, none⟩)] w fun e w' => e = .returned (.agg #[.int .i64 (cut bg : Int), .int .i64 (cut (bg + 1) : Int), .string (R.cs.extract bg (bg + 1))]) ∧ Kept [r] w w' ∧ Rd w' r R bg (bg + 1) := by
  have t1 := h.text
  have b1 := h.bg
  have m1 := h.mv
  have l1 := h.lg
  rw [hmv] at m1
  have hr := lt_of_block h
  have C1 := hide (fun W => noRef b R.lg (R.cs.extract bg R.cs.size) W (by simp; omega) hp)
  have C2 := hide (fun W (hk : Kept [] w W) => bareChar_any r R bg ps g cap cut W (h.kept hk (by simp)) (hA.kept (hk.mono (by simp))) hb hs)
  have HK0 := hide ((Kept.refl [] w).alloc (.cells #[.int .i64 0, .int .i64 0, .string ⟨#[]⟩] 188 (0, 0)))
  have HG0 := hide (heap_alloc_at w (.cells #[.int .i64 0, .int .i64 0, .string ⟨#[]⟩] 188 (0, 0)))
  have HNR := hide (show w.heap.size ≠ r by omega)
  clear h hA hp
  go_enter Tryz.func93, Tryz.ntmps93
  go_wp2_with fail
  go_cut [3, 4] from 5 to 21 (fun tv nv wc => tv = .string ⟨#[]⟩ ∧ nv = .int .i64 0 ∧ Kept [] w wc ∧ wc.heap[w.heap.size]? = some (.cells #[.int .i64 0, .int .i64 0, .string ⟨#[]⟩] 188 (0, 0)))
  case first =>
    go_region_with (go_at_call 170; refine (C1.out _).mono ?_; rintro e w1 ⟨rfl, hk1⟩; have HK1 := hide ((HK0.out.drew).trans hk1); have HG1 := hide ((((Kept.refl [] _).drew).trans hk1).at HG0.out (by simp)); clear hk1)
    all_goals (try (go_wp2_with fail))
    all_goals (go_meet; exact ⟨rfl, rfl, HK1.out, HG1.out⟩)
  case rest =>
    obtain ⟨rfl, rfl, hk, hg⟩ := hcut
    have C3 := hide (C2.out wc hk)
    have HK := hide hk
    have HG := hide hg
    clear t1 b1 m1 l1 hr C1 C2 HK0 HG0 hk hg
    go_wp2_with fail
    refine C3.out.mono ?_
    rintro e w2 ⟨rfl, hk2, hr2⟩
    have g2 := hk2.at HG.out (by simpa using HNR.out)
    have q0 : w2.cell? ⟨w.heap.size, 0, none⟩ = some (.int .i64 0) := by rw [cell_at g2]; rfl
    have q1 : w2.cell? ⟨w.heap.size, 1, none⟩ = some (.int .i64 0) := by rw [cell_at g2]; rfl
    have q2 : w2.cell? ⟨w.heap.size, 2, none⟩ = some (.string ⟨#[]⟩) := by rw [cell_at g2]; rfl
    have z0 := free_at g2 0
    have z1 := free_at g2 1
    have z2 := free_at g2 2
    have HF := hide (bare_fin (a := (cut bg : Int)) (b := (cut (bg + 1) : Int)) (s := R.cs.extract bg (bg + 1)) ((HK.out.mono (by simp)).trans hk2) hr2 (Kept.refl [] w2) g2 (fun e => HNR.out e.symm))
    clear hk2 hr2 g2
    go_wp2
    refine bodyPost_ret (v := .agg #[.int .i64 (cut bg : Int), .int .i64 (cut (bg + 1) : Int), .string (R.cs.extract bg (bg + 1))]) ?_ rfl ⟨rfl, HF.out.1, HF.out.2.1⟩
    have hc := cell_at HF.out.2.2
    simp [results, Tryz.results93, asAddr, Result.andThen, go_sem, hc]
end Go.Proofs.YtlhhgenpcjjajaaGreatDoor
namespace Go.Proofs.YtlhhgenpcjjajaaGreatDoor
open Go.RowKit Go.PlainAid
set_option maxRecDepth 100000 in
set_option maxHeartbeats 2000000 in
theorem next_end (r : Nat) (R : RC) (bg g cap : Nat) (cut : Nat → Nat) (w : World) (h : Rd w r R bg R.cs.size) (hA : Ats w r R g cap cut) (hs : R.cs.size ≤ 1024) :
    Calls Tryz.prog 56 #[.pointer (some ⟨r, 0, none⟩)] w fun e w' => e = .returned (.iface 186 (.agg #[.int .i64 (cut R.cs.size : Int), .int .i64 (cut R.cs.size : Int)])) ∧ Kept [r] w w' ∧ Rd w' r R R.cs.size R.cs.size := by
  have p := h.ps
  have b := h.bg
  have fz := h.free 2
  have hr := lt_of_block h
  obtain ⟨W0, hW0⟩ : ∃ W0, W0 = w.setCell ⟨r, 2, none⟩ (.int .i64 (R.cs.size : Int)) := ⟨_, rfl⟩
  have R0 : Rd W0 r R R.cs.size R.cs.size := by rw [hW0]; exact h.setBg _
  have K0 : Kept [r] w W0 := by rw [hW0]; exact (Kept.refl [r] w).setCell (.inl (by simp)) _
  have C1 := hide (atEnd_any r R R.cs.size R.cs.size W0 R0)
  rw [show decide (R.cs.size = R.cs.size) = true from decide_eq_true rfl] at C1
  have C2 := hide (fun W (hk : Kept [] W0 W) => place_any r R R.cs.size R.cs.size g cap cut W (R0.kept hk (by simp)) ((hA.kept K0).kept (hk.mono (by simp))) (Nat.le_refl _) (Nat.le_refl _) hs)
  have HK0 := hide K0
  have HR0 := hide R0
  have HW0 := hide hW0.symm
  clear h hA K0 R0 hW0
  go_enter Tryz.func56, Tryz.ntmps56
  go_wp2_with fail
  rw [HW0.out]
  clear p b fz hr
  refine C1.out.mono ?_
  rintro e w1 ⟨rfl, q, rfl⟩
  have C3 := hide (C2.out _ ((Kept.refl [] W0).drewN q))
  go_wp2_with fail
  refine C3.out.mono ?_
  rintro e w2 ⟨rfl, hk2⟩
  have HK2 := hide (HK0.out.trans ((((Kept.refl [] W0).drewN q).trans hk2).mono (by simp)))
  have HR2 := hide (HR0.out.kept (((Kept.refl [] W0).drewN q).trans hk2) (by simp))
  clear hk2
  go_wp2
  go_ret
  exact ⟨rfl, HK2.out, HR2.out⟩
set_option maxRecDepth 100000 in
set_option maxHeartbeats 2000000 in
theorem next_char (r : Nat) (R : RC) (bg ps g cap b : Nat) (cut : Nat → Nat) (w : World) (h : Rd w r R bg ps) (hA : Ats w r R g cap cut) (hmv : R.mv = .map (some b)) (ho : R.ofT = ⟨#[]⟩) (hp : ps < R.cs.size) (hs : R.cs.size ≤ 1024)
    (h1 : pre (R.cs.extract ps R.cs.size) ⟨#[60]⟩ = false) (h2 : pre (R.cs.extract ps R.cs.size) ⟨#[38]⟩ = false) :
    Calls Tryz.prog 56 #[.pointer (some ⟨r, 0, none⟩)] w fun e w' => e = .returned (.iface 188 (.agg #[.int .i64 (cut ps : Int), .int .i64 (cut (ps + 1) : Int), .string (R.cs.extract ps (ps + 1))])) ∧ Kept [r] w w' ∧ Rd w' r R ps (ps + 1) := by
  have p := h.ps
  have b0 := h.bg
  have fz := h.free 2
  have hr := lt_of_block h
  obtain ⟨W0, hW0⟩ : ∃ W0, W0 = w.setCell ⟨r, 2, none⟩ (.int .i64 (ps : Int)) := ⟨_, rfl⟩
  have R0 : Rd W0 r R ps ps := by rw [hW0]; exact h.setBg _
  have K0 : Kept [r] w W0 := by rw [hW0]; exact (Kept.refl [r] w).setCell (.inl (by simp)) _
  have C1 := hide (atEnd_any r R ps ps W0 R0)
  have hne : decide (ps = R.cs.size) = false := decide_eq_false (by omega)
  rw [hne] at C1
  have C2 := hide (fun W (hk : Kept [] W0 W) => inText_no r R ps ps W (R0.kept hk (by simp)) ho)
  have C3 := hide (fun W (hk : Kept [] W0 W) => take_any r R ps ps ⟨#[60]⟩ W (R0.kept hk (by simp)) (by omega) hs (by decide))
  have ht : taken R ⟨#[60]⟩ ps = ps := by unfold taken; rw [if_neg (by simp [h1])]
  rw [ht, h1] at C3
  have C4 := hide (fun W (hk : Kept [r] W0 W) (hR : Rd W r R ps ps) => char_no r R ps ps g cap b cut W hR ((hA.kept K0).kept hk) hmv hp hs h2)
  have HK0 := hide K0
  have HR0 := hide R0
  have HW0 := hide hW0.symm
  clear h hA K0 R0 hW0 h1 h2 ht hne
  go_enter Tryz.func56, Tryz.ntmps56
  go_wp2_with fail
  rw [HW0.out]
  clear p b0 fz hr
  refine C1.out.mono ?_
  rintro e w1 ⟨rfl, q, rfl⟩
  have C5 := hide (C2.out _ ((Kept.refl [] W0).drewN q))
  go_wp2_with fail
  refine C5.out.mono ?_
  rintro e w2 ⟨rfl, hk2⟩
  have C6 := hide (C3.out _ (((Kept.refl [] W0).drewN q).trans hk2))
  have HK2 := hide ((((Kept.refl [] W0).drewN q).trans hk2).mono (S' := [r]) (by simp))
  clear hk2 C5
  go_wp2_with fail
  refine C6.out.mono ?_
  rintro e w3 ⟨rfl, hk3, hr3⟩
  have C7 := hide (C4.out _ (HK2.out.trans hk3) hr3)
  have HK3 := hide (HK0.out.trans (HK2.out.trans hk3))
  clear hk3 hr3 C6
  go_wp2_with fail
  refine C7.out.mono ?_
  rintro e w4 ⟨rfl, hk4, hr4⟩
  have HK4 := hide (HK3.out.trans hk4)
  have HR4 := hide hr4
  clear hk4 hr4 C7
  go_wp2
  go_ret
  exact ⟨rfl, HK4.out, HR4.out⟩
end Go.Proofs.YtlhhgenpcjjajaaGreatDoor
