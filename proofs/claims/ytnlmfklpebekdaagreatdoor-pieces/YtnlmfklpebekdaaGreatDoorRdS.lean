import Derived.Test.YtnlmfklpebekdaaGreatDoorRdR
import Derived.Lib.Builder
set_option linter.unusedSimpArgs false
set_option linter.unusedVariables false
namespace Go.Proofs.YtnlmfklpebekdaaGreatDoor
open Go.RowKit Go.PlainAid

/-- n attributes, as they lie from ⟨g, 0⟩ on. -/
structure Atts (w : World) (g n : Nat) (A : Nat → ByteArray × ByteArray) : Prop where
  lt : 0 < n → g < w.heap.size
  nm : ∀ i, i < n → w.cell? ⟨g, i * 2, none⟩ = some (.string (A i).1)
  vl : ∀ i, i < n → w.cell? ⟨g, i * 2 + 1, none⟩ = some (.string (A i).2)
theorem Atts.kept {w w' : World} {g n : Nat} {A : Nat → ByteArray × ByteArray} {S : List Nat} (h : Atts w g n A) (hk : Kept S w w') (hg : g ∉ S) : Atts w' g n A :=
  ⟨fun hn => Nat.lt_of_lt_of_le (h.lt hn) hk.size, fun i hi => (hk.cell (p := ⟨g, i * 2, none⟩) (h.lt (by omega)) hg).trans (h.nm i hi), fun i hi => (hk.cell (p := ⟨g, i * 2 + 1, none⟩) (h.lt (by omega)) hg).trans (h.vl i hi)⟩
/-- One of those from i on has the name. -/
def hasFrom (A : Nat → ByteArray × ByteArray) (n : Nat) (s : ByteArray) (i : Nat) : Bool := if i < n then (if ((A i).1.toList == s.toList) = true then true else hasFrom A n s (i + 1)) else false
  termination_by n - i

set_option maxRecDepth 100000 in
set_option maxHeartbeats 1000000 in
theorem has_any (x y : Int) (nm s : ByteArray) (g n cap : Nat) (A : Nat → ByteArray × ByteArray) (w : World) (hA : Atts w g n A) (hn : n ≤ 1048576) :
    Calls Tryz.prog 95 #[.agg #[.int .i64 x, .int .i64 y, .string nm, .slice (some ⟨g, 0, none⟩) n cap], .string s] w fun e w' => e = .returned (.bool (hasFrom A n s 0)) ∧ Kept [] w w' := by
  obtain ⟨m, hm⟩ : ∃ m, m = hasFrom A n s 0 := ⟨_, rfl⟩
  rw [← hm]
  have HM := hide hm
  have HA := hide hA
  clear hm hA
  go_enter Tryz.func95, Tryz.ntmps95
  go_wp2_with fail
  go_loopw [10] (fun v wr => ∃ k : Nat, v = .int .i64 k ∧ k ≤ n ∧ hasFrom A n s k = m ∧ Kept [] w wr) (fun v _ => n - (intOf v).toNat)
  case atStart => exact ⟨0, rfl, Nat.zero_le _, HM.out.symm, (Kept.refl _ _).alloc _⟩
  case round =>
    obtain ⟨k, rfl, hk, hf, hkw⟩ := hrel
    have HF := hide hf
    have HKW := hide hkw
    by_cases hlt : k < n
    · have hR := HA.out.kept hkw (by simp)
      have a0 := hR.nm k hlt
      have a1 := hR.vl k hlt
      clear hR hf hkw
      cases he : ((A k).1.toList == s.toList)
      · have e : hasFrom A n s (k + 1) = m := by rw [← HF.out, hasFrom.eq_1 A n s k, if_pos hlt, if_neg (by simp [he])]
        have He := hide e
        have he2 : ¬ (A k).1.toList = s.toList := by simpa using he
        clear e
        have HK2 := hide (HKW.out.alloc (.cells #[.string (A k).1, .string (A k).2] 179))
        generalize (A k).1 = u at *
        generalize (A k).2 = v at *
        go_wp2
        go_roundw
        case rel => exact ⟨k + 1, by go_num, by omega, He.out, HK2.out⟩
        case measure => simp [intOf]; omega
      · have e : m = true := by rw [← HF.out, hasFrom.eq_1 A n s k, if_pos hlt, if_pos he]
        have He := hide e
        have he2 : (A k).1.toList = s.toList := by simpa using he
        clear e
        have HK2 := hide (HKW.out.alloc (.cells #[.string (A k).1, .string (A k).2] 179))
        generalize (A k).1 = u at *
        generalize (A k).2 = v at *
        go_wp2
        go_ret
        exact ⟨by rw [He.out]; rfl, HK2.out⟩
    · have e : m = false := by rw [← HF.out, hasFrom.eq_1 A n s k, if_neg hlt]
      have He := hide e
      clear e hf hkw
      go_wp2
      go_ret
      exact ⟨by rw [He.out]; rfl, HKW.out⟩
end Go.Proofs.YtnlmfklpebekdaaGreatDoor

namespace Go.Proofs.YtnlmfklpebekdaaGreatDoor
open Go.RowKit Go.PlainAid

theorem builder_has : (∃ j, Tryz.prog.info? 190 = some j ∧ j.size ≠ 0) := by
  have h : ((Tryz.prog.info? 190).map fun i => i.size) = some 2 := by kernel_rfl
  obtain ⟨j, hj, h2⟩ := Option.map_eq_some_iff.1 h
  exact ⟨j, hj, by omega⟩
theorem builder_lies : liesAt Tryz.prog Tryz.prog.depth 190 (2 / Tryz.prog.cellsOf 190) 0 190 1 = true := by kernel_rfl

set_option maxRecDepth 100000 in
set_option maxHeartbeats 1000000 in
theorem copyCheck_any (B b : Nat) (bs : List Value) (w : World) (h : Lib.IsBuilder 190 5 B b bs w) :
    Calls Tryz.prog 120 #[.pointer (some ⟨b, 0, none⟩)] w fun e w' => e = .returned (.tuple #[]) ∧ Lib.BuilderAt 190 5 B b (.pointer (some ⟨b, 0, none⟩)) bs w' ∧ Below B w w' := by
  obtain ⟨j, hj, hj0⟩ := builder_has
  rcases h with h | h
  · have c0 := h.cell0
    have f0 := h.frozen0
    have HN := hide (h.used (.pointer (some ⟨b, 0, none⟩)))
    have HB := hide ((Below.refl B w).setCell (p := ⟨b, 0, none⟩) h.1 (.pointer (some ⟨b, 0, none⟩)))
    have d0 := HN.out.cell0
    have hu := Lib.run_to_unsafe (P := Tryz.prog) w (src := 188) (dst := 79) ⟨b, 0, none⟩ Tryz.underlying188 Tryz.underlying79 hj hj0 h.shape (show 0 < 2 by decide)
    have hf := Lib.run_from_unsafe (P := Tryz.prog) w (src := 79) (dst := 188) ⟨b, 0, none⟩ Tryz.underlying79 Tryz.underlying188 hj h.shape builder_lies
    have hn := Lib.run_neq_ptr_same (P := Tryz.prog) (w.setCell ⟨b, 0, none⟩ (.pointer (some ⟨b, 0, none⟩))) (tp := 188) ⟨b, 0, none⟩ Tryz.underlying188 hj
    clear h
    go_enter Tryz.func120, Tryz.ntmps120
    go_wp2
    rw [run_callFunc_extern Tryz.func126 (by kernel_rfl) (by kernel_rfl) (by kernel_rfl) (e := Extern.AbiNoEscape.same) (by kernel_rfl)]
    rw [Lib.run_noEscape]
    simp only [Result.andThen]
    rw [Oper.upon_value]
    go_wp2
    go_end0
    exact ⟨rfl, HN.out, HB.out⟩
  · have c0 := h.cell0
    have HN := hide h
    have HB := hide (Below.refl B w)
    have hn := Lib.run_neq_ptr_same (P := Tryz.prog) w (tp := 188) ⟨b, 0, none⟩ Tryz.underlying188 hj
    clear h
    go_enter Tryz.func120, Tryz.ntmps120
    go_wp2
    go_end0
    exact ⟨rfl, HN.out, HB.out⟩

set_option maxRecDepth 100000 in
set_option maxHeartbeats 2000000 in
theorem writeString_any (B b : Nat) (bs : List Value) (s : ByteArray) (w : World) (h : Lib.IsBuilder 190 5 B b bs w) (hlen : bs.length + s.size ≤ 1048576) (hBw : B ≤ w.heap.size) :
    Calls Tryz.prog 112 #[.pointer (some ⟨b, 0, none⟩), .string s] w fun e w' => e = .returned (.tuple #[.int .i64 s.size, .nilIface]) ∧ (Lib.BuilderAt 190 5 B b (.pointer (some ⟨b, 0, none⟩)) (bs ++ Lib.strCells s) w' ∧ Below B w w') := by
  obtain ⟨i0, hi, hz0, hz1, hz2⟩ := info_parts info_u8
  have HH := hide h
  clear h
  go_enter Tryz.func112, Tryz.ntmps112
  go_wp2_with fail
  refine (copyCheck_any B b bs _ HH.out).mono ?_
  rintro e w1 ⟨rfl, h1, hb1⟩
  obtain ⟨hB, v, hbk, hown, hne⟩ := h1
  have c0 : w1.cell? ⟨b, 0, none⟩ = some (.pointer (some ⟨b, 0, none⟩)) := by rw [cell_at hbk]; rfl
  have c1 : w1.cell? ⟨b, 1, none⟩ = some v := by rw [cell_at hbk]; rfl
  go_wp2_with (at_builtin; refine Lib.wpList_append_own_string _ rfl _ _ 58 9 rfl B 5 i0 Tryz.underlying58 Tryz.underlying9 hi hz0 hz1 hz2 _ _ _ rfl hown s rfl ?c3 ?c4 ?c5 ?_)
  case c3 => unfold maxLen; omega
  case c4 => omega
  case c5 => have := hb1.size; omega
  intro v' w2 hown' hgrow _
  have hlt : b < w1.heap.size := lt_of_block hbk
  have hb2 : w2.heap[b]? = some (.cells #[.pointer (some ⟨b, 0, none⟩), v] 190 (0, 0)) := by
    rw [hgrow.block b hlt (fun e => hne e.symm)]
    exact hbk
  have d1 : w2.cell? ⟨b, 1, none⟩ = some v := by rw [cell_at hb2]; rfl
  have f1 : w2.frozen? ⟨b, 1, none⟩ = false := free_at hb2 1
  have HP := hide (Lib.BuilderAt.put (T := 190) (e := 5) hB hb2 (bs' := bs ++ Lib.strCells s) (by simpa [Lib.strCells_length] using hown') (by decide))
  have HBW := hide ((hb1.grown hgrow (by have := hb1.size; omega) (fun k hk => (hown.lt k hk).1)).setCell (p := ⟨b, 1, none⟩) hB v')
  obtain ⟨ao, n', cap, hv⟩ : ∃ ao n' cap, v' = .slice ao n' cap := by
    rcases hown'.2 with ⟨hv, _⟩ | ⟨g, cap, cur, hv, _⟩
    · exact ⟨_, _, _, hv⟩
    · exact ⟨_, _, _, hv⟩
  subst hv
  clear hown' hgrow hbk hown hne hb1
  go_wp2
  go_ret2
  exact ⟨rfl, HP.out, HBW.out⟩
end Go.Proofs.YtnlmfklpebekdaaGreatDoor

namespace Go.Proofs.YtnlmfklpebekdaaGreatDoor
open Go.RowKit Go.PlainAid

theorem notEmpty {t : ByteArray} (h : ¬ t.size = 0) : t.toList.isEmpty = false := by
  rw [ByteArray.toList_eq]
  cases hh : t.data.toList with
  | nil => exact absurd (show t.data.size = 0 by rw [← Array.length_toList, hh]; rfl) h
  | cons => rfl

def strSize : Value → Nat
  | .string t => t.size
  | _ => 0

theorem isBuilder_kept {T e B b : Nat} {bs : List Value} {w w' : World} (h : Lib.IsBuilder T e B b bs w) (hk : Kept [] w w') : Lib.IsBuilder T e B b bs w' := by
  rcases h with ⟨h1, v, h2, h3, h4⟩ | ⟨h1, v, h2, h3, h4⟩
  · exact .inl ⟨h1, v, hk.at h2 (by simp), hk.ownsRow h3 (fun _ _ => by simp), h4⟩
  · exact .inr ⟨h1, v, hk.at h2 (by simp), hk.ownsRow h3 (fun _ _ => by simp), h4⟩
theorem strCells_bytes (l : List UInt8) (t : ByteArray) : Lib.byteCells l ++ Lib.strCells t = Lib.byteCells (l ++ t.data.toList) := by
  unfold Lib.byteCells Lib.strCells; rw [List.map_append]

set_option maxRecDepth 100000 in
set_option maxHeartbeats 2000000 in
theorem value_names (b lg : Nat) (look : ByteArray → Option ByteArray) (s : ByteArray) (w : World) (hL : Lk w b look) (hlg : lg ≤ 1048576) (hs : s.size ≤ 1024) :
    Calls Tryz.prog 106 #[.agg #[.map (some b), .int .i64 (lg : Int)], .string s] w fun e w' => (∃ t : ByteArray, t.size ≤ 16 * 1024 ∧ e = .returned (.string t)) ∧ Kept [] w w' := by
  obtain ⟨w0, hw0⟩ : ∃ w0, w0 = w.alloc (.cells #[.map (some b), .int .i64 (lg : Int)] 123) := ⟨_, rfl⟩
  have hb0 : w0.heap[w.heap.size]? = some (.cells #[.map (some b), .int .i64 (lg : Int)] 123 (0, 0)) := by rw [hw0]; exact heap_alloc_at w _
  have k0 : Kept [] w w0 := by rw [hw0]; exact (Kept.refl _ _).alloc _
  have z0 : w0.heap.size = w.heap.size + 1 := by rw [hw0]; simp
  have HL := hide (hL.kept k0 (by simp))
  have HW := hide hw0.symm
  have HK := hide k0
  have HB0 := hide hb0
  have HZ0 := hide z0
  clear hL hw0 k0 hb0 z0
  go_enter Tryz.func106, Tryz.ntmps106
  go_wp2_with fail
  rw [HW.out]
  have HN := hide (Lib.fresh_isBuilder 190 5 w0)
  have HBL := hide (((Below.refl w0.heap.size w0).alloc (Nat.le_refl _) (.cells #[.pointer none, .slice none 0 0] 190)))
  have ez : w.heap.size + 1 = w0.heap.size := HZ0.out.symm
  try rw [ez]
  clear ez
  go_loopw [1] (fun v wr => ∃ (t : ByteArray) (l : List UInt8), v = .string t ∧ t.size ≤ s.size ∧ l.length + 16 * t.size ≤ 16 * s.size ∧ Lib.IsBuilder 190 5 w0.heap.size w0.heap.size (Lib.byteCells l) wr ∧ Below w0.heap.size w0 wr) (fun v _ => strSize v)
  case atStart => exact ⟨s, [], rfl, Nat.le_refl _, by simp, HN.out, HBL.out⟩
  case round =>
    obtain ⟨t, l, rfl, ht, hl, hI, hB⟩ := hrel
    have HI := hide hI
    have HB := hide hB
    have c0 : wr.cell? ⟨w.heap.size, 0, none⟩ = some (.map (some b)) := by rw [cell_at ((Kept.ofBelow hB).at HB0.out (by simp))]; rfl
    have c1 : wr.cell? ⟨w.heap.size, 1, none⟩ = some (.int .i64 (lg : Int)) := by rw [cell_at ((Kept.ofBelow hB).at HB0.out (by simp))]; rfl
    clear hI hB
    by_cases h0 : t.size = 0
    · have e0 : t = ⟨#[]⟩ := by
        apply ByteArray.ext; exact Array.eq_empty_of_size_eq_zero h0
      subst e0
      have S := hide (Tryz.Builder_String_any w0.heap.size w0.heap.size l wr HI.out HB.out.size)
      go_wp2_with fail
      refine S.out.mono ?_
      rintro e w2 ⟨rfl, hb2⟩
      have HK2 := hide (HK.out.trans (Kept.ofBelow (HB.out.trans hb2)))
      clear hb2
      go_wp2
      go_ret
      refine ⟨⟨_, ?_, rfl⟩, HK2.out⟩
      simp [ByteArray.size]; omega
    · have hne : t.toList.isEmpty = false := notEmpty h0
      have C := hide (read_any b lg look t true wr (HL.out.kept (Kept.ofBelow HB.out) (by simp)) hlg (by omega))
      have hrl := refSize_le (look := look) (lg := lg) (s := t) (inV := true)
      go_wp2_with fail
      refine C.out.mono ?_
      rintro e w2 ⟨⟨x, hx, rfl⟩, hk2⟩
      have HI2 := hide (isBuilder_kept HI.out hk2)
      have HB2 := hide (HB.out.trans (hk2.below HB.out.size (by simp)))
      have HX := hide hx
      clear hx hk2 C c0 c1
      generalize refSize look lg t true = n at *
      by_cases hn : n = 0
      · subst hn
        have W := hide (writeString_any w0.heap.size w0.heap.size (Lib.byteCells l) (t.extract 0 1) w2 HI2.out (by simp [Lib.byteCells]; omega) HB2.out.size)
        go_wp2_with fail
        refine W.out.mono ?_
        rintro e w3 ⟨rfl, hb3, hbl3⟩
        have HR := hide (show Lib.IsBuilder 190 5 w0.heap.size w0.heap.size (Lib.byteCells (l ++ (t.extract 0 1).data.toList)) w3 from .inr (by rw [← strCells_bytes]; exact hb3))
        have HBL3 := hide (HB2.out.trans hbl3)
        clear hb3 hbl3 W
        go_wp2
        go_roundw
        case rel => exact ⟨_, _, rfl, by simp; omega, by simp; omega, HR.out, HBL3.out⟩
        case measure => simp [strSize]; omega
      · have hn2 : ((n : Int) == 0) = false := beq_eq_false_iff_ne.2 (by omega)
        have W := hide (writeString_any w0.heap.size w0.heap.size (Lib.byteCells l) x w2 HI2.out (by have := HX.out; simp [Lib.byteCells]; omega) HB2.out.size)
        go_wp2_with fail
        refine W.out.mono ?_
        rintro e w3 ⟨rfl, hb3, hbl3⟩
        have HR := hide (show Lib.IsBuilder 190 5 w0.heap.size w0.heap.size (Lib.byteCells (l ++ x.data.toList)) w3 from .inr (by rw [← strCells_bytes]; exact hb3))
        have HBL3 := hide (HB2.out.trans hbl3)
        clear hb3 hbl3 W
        go_wp2
        go_roundw
        case rel => exact ⟨_, _, rfl, by simp; omega, by have := HX.out; have e : x.data.size = x.size := rfl; simp [e]; omega, HR.out, HBL3.out⟩
        case measure => simp [strSize]; omega
end Go.Proofs.YtnlmfklpebekdaaGreatDoor
