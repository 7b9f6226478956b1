import Derived.Test.YtlhhgenpcjjajaaGreatDoorRsB
import Derived.Lib.Builder
import Derived.Lib.UnsafeStr
import Derived.Test.YtlhhgenpcjjajaaGreatDoorShelf
import Derived.Test.YtlhhgenpcjjajaaGreatDoorLsE
set_option linter.unusedSimpArgs false
set_option linter.unusedVariables false
namespace Go.Proofs.YtlhhgenpcjjajaaGreatDoor
open Go.RowKit
theorem info_u8W : (Tryz.prog.info? 5).map (fun i => (i.zero, i.size, i.bytes)) = some (some (.int .u8 0), 1, 1) := by kernel_rfl
theorem builderW_has : (∃ j, Tryz.prog.info? 98 = some j ∧ j.size ≠ 0) := by
  have h : ((Tryz.prog.info? 98).map fun i => i.size) = some 2 := by kernel_rfl
  obtain ⟨j, hj, h2⟩ := Option.map_eq_some_iff.1 h
  exact ⟨j, hj, by omega⟩
theorem writer_lies : liesAt Tryz.prog Tryz.prog.depth 100 (4 / Tryz.prog.cellsOf 100) 0 98 1 = true := by kernel_rfl
def WtP (w : World) (B b : Nat) (vv p : Value) (l : List UInt8) : Prop := B ≤ b ∧ ∃ v, w.heap[b]? = some (.cells #[p, v, vv, .bool false] 100 (0, 0)) ∧ w.ownsRow B 5 1 v l.length (Lib.byteCells l) ∧ v.ownBlock ≠ some b
def Wt (w : World) (B b : Nat) (vv : Value) (l : List UInt8) : Prop := WtP w B b vv (.pointer none) l ∨ WtP w B b vv (.pointer (some ⟨b, 0, none⟩)) l
theorem WtP.kept {w w' : World} {B b : Nat} {vv p : Value} {l : List UInt8} (h : WtP w B b vv p l) (hk : Kept [] w w') : WtP w' B b vv p l := by
  obtain ⟨h0, v, h1, h2, h3⟩ := h
  exact ⟨h0, v, hk.at h1 (by simp), hk.ownsRow h2 (fun _ _ => by simp), h3⟩
theorem Wt.kept {w w' : World} {B b : Nat} {vv : Value} {l : List UInt8} (h : Wt w B b vv l) (hk : Kept [] w w') : Wt w' B b vv l := h.imp (·.kept hk) (·.kept hk)
set_option maxRecDepth 100000 in
set_option maxHeartbeats 1000000 in
theorem copyCheckW (B b : Nat) (vv : Value) (l : List UInt8) (w : World) (h : Wt w B b vv l) :
    Calls Tryz.prog 360 #[.pointer (some ⟨b, 0, none⟩)] w fun e w' => e = .returned (.tuple #[]) ∧ WtP w' B b vv (.pointer (some ⟨b, 0, none⟩)) l ∧ Kept [b] w w' := by
  obtain ⟨j, hj, hj0⟩ := builderW_has
  rcases h with ⟨hB, v, h1, h2, h3⟩ | ⟨hB, v, h1, h2, h3⟩
  · have c0 : w.cell? ⟨b, 0, none⟩ = some (.pointer none) := by rw [cell_at h1]; rfl
    have f0 := free_at h1 0
    have hlt := lt_of_block h1
    have hsh : w.shape? b = some (100, 4) := by simp [World.shape?, h1]
    have k1 := (Kept.refl [b] w).setCell (p := ⟨b, 0, none⟩) (.inl (by simp)) (.pointer (some ⟨b, 0, none⟩))
    have HN : Hid (WtP (w.setCell ⟨b, 0, none⟩ (.pointer (some ⟨b, 0, none⟩))) B b vv (.pointer (some ⟨b, 0, none⟩)) l) := hide ⟨hB, v, block_setCell h1 0 _, k1.ownsRow h2 (fun q hq => by simp; intro e; subst e; exact h3 hq), h3⟩
    have HK := hide k1
    have d0 : (w.setCell ⟨b, 0, none⟩ (.pointer (some ⟨b, 0, none⟩))).cell? ⟨b, 0, none⟩ = some (.pointer (some ⟨b, 0, none⟩)) := by rw [cell_at (block_setCell h1 0 _)]; rfl
    have hu := Lib.run_to_unsafe (P := Tryz.prog) w (src := 96) (dst := 102) ⟨b, 0, none⟩ Tryz.underlying96 Tryz.underlying102 hj hj0 hsh (show 0 < 4 by decide)
    have hf := Lib.run_from_unsafe (P := Tryz.prog) w (src := 102) (dst := 96) ⟨b, 0, none⟩ Tryz.underlying102 Tryz.underlying96 hj hsh writer_lies
    have hn := Lib.run_neq_ptr_same (P := Tryz.prog) (w.setCell ⟨b, 0, none⟩ (.pointer (some ⟨b, 0, none⟩))) (tp := 96) ⟨b, 0, none⟩ Tryz.underlying96 hj
    clear h1 h2 h3 k1 hsh
    go_enter Tryz.func360, Tryz.ntmps360
    go_wp2
    rw [run_callFunc_extern Tryz.func378 (by kernel_rfl) (by kernel_rfl) (by kernel_rfl) (e := Extern.AbiNoEscape.same) (by kernel_rfl)]
    rw [Lib.run_noEscape]
    simp only [Result.andThen]
    rw [Oper.upon_value]
    go_wp2
    go_end0
    exact ⟨rfl, HN.out, HK.out⟩
  · have c0 : w.cell? ⟨b, 0, none⟩ = some (.pointer (some ⟨b, 0, none⟩)) := by rw [cell_at h1]; rfl
    have hlt := lt_of_block h1
    have HN : Hid (WtP w B b vv (.pointer (some ⟨b, 0, none⟩)) l) := hide ⟨hB, v, h1, h2, h3⟩
    have hn := Lib.run_neq_ptr_same (P := Tryz.prog) w (tp := 96) ⟨b, 0, none⟩ Tryz.underlying96 hj
    clear h1 h2 h3
    go_enter Tryz.func360, Tryz.ntmps360
    go_wp2
    go_end0
    exact ⟨rfl, HN.out, Kept.refl _ _⟩
def KB (W W' : World) : Prop := ∀ (k : Nat) (c : Array Value) (t : TypeId), W.heap[k]? = some (.cells c t (0, 0)) → t ∉ [100, 5] → W'.heap[k]? = some (.cells c t (0, 0))
theorem KB.trans {A B C : World} (h : KB A B) (k : KB B C) : KB A C := fun i c t hi ht => k i c t (h i c t hi ht) ht
theorem KB.of_kept {A B : World} (h : Kept [] A B) : KB A B := fun i c t hi _ => h.at hi (by simp)
theorem KB.of_one {A B : World} {b : Nat} {cb : Array Value} (h : Kept [b] A B) (hb : A.heap[b]? = some (.cells cb 100 (0, 0))) : KB A B := fun i c t hi ht => h.at hi (by
  intro hm
  have e := List.mem_singleton.1 hm
  subst e
  rw [hb] at hi
  simp at hi
  exact ht (by rw [← hi.2]; simp))
theorem KB.of_grown {A B : World} {base n : Nat} {v : Value} {xs : List Value} (hg : A.grownBy B v.ownBlock) (ho : A.ownsRow base 5 1 v n xs) : KB A B := fun i c t hi ht => (hg.block i (lt_of_block hi) (by
  intro e
  rcases ho.2 with ⟨e2, _⟩ | ⟨g, cap', cur, e2, _, hc, _⟩
  · rw [e2] at e; cases e
  · rw [e2] at e
    have e3 := Option.some.inj e
    subst e3
    rw [hi] at hc
    simp at hc
    exact ht (by rw [hc.2]; simp))).trans hi
theorem byteCells_app (l : List UInt8) (s : ByteArray) : Lib.byteCells (l ++ s.data.toList) = Lib.byteCells l ++ Lib.strCells s := by
  unfold Lib.byteCells Lib.strCells
  rw [List.map_append]
set_option maxRecDepth 100000 in
set_option maxHeartbeats 2000000 in
theorem writeStringW (B b : Nat) (vv : Value) (l : List UInt8) (s : ByteArray) (w w0 : World) (h : Wt w B b vv l) (hlen : l.length + s.size ≤ 1073741824) (hBw : B ≤ w.heap.size) (hk0 : Kept [] w0 w) (hw0 : w0.heap.size ≤ B) :
    Calls Tryz.prog 335 #[.pointer (some ⟨b, 0, none⟩), .string s] w fun e w' => e = .returned (.tuple #[.int .i64 s.size, .nilIface]) ∧ Wt w' B b vv (l ++ s.data.toList) ∧ Kept [] w0 w' ∧ KB w w' := by
  obtain ⟨i0, hi, hz0, hz1, hz2⟩ := info_parts info_u8W
  have HH := hide h
  have HK0 := hide hk0
  clear h hk0
  go_enter Tryz.func335, Tryz.ntmps335
  go_wp2_with fail
  refine (copyCheckW B b vv l _ HH.out).mono ?_
  rintro e w1 ⟨rfl, h1, hk1⟩
  obtain ⟨hB, v, hbk, hown, hne⟩ := h1
  have kb1 : KB w w1 := by
    rcases HH.out with ⟨_, _, hx, _⟩ | ⟨_, _, hx, _⟩
    · exact .of_one hk1 hx
    · exact .of_one hk1 hx
  have c1 : w1.cell? ⟨b, 1, none⟩ = some v := by rw [cell_at hbk]; rfl
  have hlt : b < w1.heap.size := lt_of_block hbk
  go_wp2_with (at_builtin; refine Lib.wpList_append_own_string _ rfl _ _ 55 9 rfl B 5 i0 Tryz.underlying55 Tryz.underlying9 hi hz0 hz1 hz2 _ _ _ rfl hown s rfl ?c3 ?c4 ?c5 ?_)
  case c3 => unfold maxLen; omega
  case c4 => omega
  case c5 => have := hk1.size; omega
  intro v' w2 hown' hgrow _
  have hb2 : w2.heap[b]? = some (.cells #[.pointer (some ⟨b, 0, none⟩), v, vv, .bool false] 100 (0, 0)) := by
    rw [hgrow.block b hlt (fun e => hne e.symm)]
    exact hbk
  have d1 : w2.cell? ⟨b, 1, none⟩ = some v := by rw [cell_at hb2]; rfl
  have f1 : w2.frozen? ⟨b, 1, none⟩ = false := free_at hb2 1
  obtain ⟨ao, cap, hv⟩ := owns_shape hown'
  subst hv
  have hrow : ∀ q, v.ownBlock = some q → B ≤ q := fun q hq => (hown.lt q hq).1
  have hrow' : ∀ q, (Value.slice ao (l.length + s.size) cap).ownBlock = some q → q ≠ b := fun q hq e => by
    subst e
    rcases hown'.2 with ⟨e2, _⟩ | ⟨g, cap', cur, e2, _, hc, _⟩
    · rw [e2] at hq; cases hq
    · rw [e2] at hq
      have e3 := Option.some.inj hq
      rw [← e3] at hb2
      rw [hc] at hb2
      simp at hb2
  have kx : Kept [b] w2 (w2.setCell ⟨b, 1, none⟩ (.slice ao (l.length + s.size) cap)) := (Kept.refl [b] w2).setCell (.inl (by simp)) _
  have HP : Hid (Wt (w2.setCell ⟨b, 1, none⟩ (.slice ao (l.length + s.size) cap)) B b vv (l ++ s.data.toList)) := hide (.inr ⟨hB, _, block_setCell hb2 1 _, by
    rw [byteCells_app, List.length_append]
    exact kx.ownsRow hown' (fun q hq => by simpa using hrow' q hq), fun e => hrow' b e rfl⟩)
  have HKK : Hid (Kept [] w0 (w2.setCell ⟨b, 1, none⟩ (.slice ao (l.length + s.size) cap))) := hide ((((HK0.out.next hk1 (by simp; omega))).grown hgrow (fun q hq => .inr (by have := hrow q hq; omega))).setCell (.inr (by show w0.heap.size ≤ b; omega)) _)
  have HKB := hide ((kb1.trans (KB.of_grown hgrow hown)).trans (KB.of_one kx hb2))
  clear hown' hgrow hbk hown hne hk1 hb2 kx hrow hrow' kb1
  go_wp2
  go_ret2
  exact ⟨rfl, HP.out, HKK.out, HKB.out⟩
def joinB (xs : List ByteArray) : List UInt8 := xs.flatMap fun s => s.data.toList
theorem joinB_append (xs ys : List ByteArray) : joinB (xs ++ ys) = joinB xs ++ joinB ys := List.flatMap_append ..
set_option maxRecDepth 100000 in
set_option maxHeartbeats 2000000 in
theorem writeW (B b g cap : Nat) (vv : Value) (l : List UInt8) (xs : List ByteArray) (w w0 : World) (h : Wt w B b vv l) (hg : w.heap[g]? = some (.cells (xs.map Value.string).toArray 9 (0, 0))) (hlen : l.length + (joinB xs).length ≤ 1073741824) (hk0 : Kept [] w0 w) (hw0 : w0.heap.size ≤ B) (hxs : xs.length ≤ 4096) :
    Calls Tryz.prog 419 #[.pointer (some ⟨b, 0, none⟩), .slice (some ⟨g, 0, none⟩) xs.length cap] w fun e w' => e = .returned (.tuple #[]) ∧ Wt w' B b vv (l ++ joinB xs) ∧ Kept [] w0 w' ∧ KB w w' := by
  obtain ⟨n, hn⟩ : ∃ n, n = xs.length := ⟨_, rfl⟩
  rw [← hn] at hxs ⊢
  have HN := hide hn
  have HT := hide h
  have HG := hide hg
  have HK0 := hide hk0
  have HLE := hide hlen
  clear h hg hn hk0 hlen
  go_enter Tryz.func419, Tryz.ntmps419
  go_wp2_with fail
  go_loopw [8] (fun v wr => ∃ i : Nat, v = .int .i64 i ∧ i ≤ n ∧ Wt wr B b vv (l ++ joinB (xs.take i)) ∧ Kept [] w0 wr ∧ KB w wr) (fun v _ => n - (intOf v).toNat)
  case atStart => exact ⟨0, rfl, Nat.zero_le _, by simpa [joinB] using HT.out, HK0.out, .of_kept (Kept.refl _ _)⟩
  case round =>
    obtain ⟨i, rfl, hi, hw, hk, hb⟩ := hrel
    by_cases hlt : i < n
    · have h1 : i < xs.length := by rw [← HN.out]; exact hlt
      have gg := hb g _ _ HG.out (by decide)
      have hc : wr.cell? ⟨g, i, none⟩ = some (.string xs[i]) := by rw [cell_at gg]; simp [h1]
      have hstep : joinB (xs.take (i + 1)) = joinB (xs.take i) ++ xs[i].data.toList := by
        rw [List.take_add_one, List.getElem?_eq_getElem h1, joinB_append]
        simp [joinB]
      have hlen2 : (l ++ joinB (xs.take i)).length + xs[i].size ≤ 1073741824 := by
        have e := congrArg List.length (congrArg joinB (List.take_append_drop (i + 1) xs))
        rw [joinB_append, hstep] at e
        have := HLE.out
        have es : xs[i].data.toList.length = xs[i].size := Array.length_toList
        simp only [List.length_append] at e ⊢
        omega
      have hbl : B ≤ b ∧ b < wr.heap.size := by rcases hw with ⟨hx0, _, hx, _⟩ | ⟨hx0, _, hx, _⟩ <;> exact ⟨hx0, lt_of_block hx⟩
      have C := hide (writeStringW B b vv _ xs[i] wr w0 hw hlen2 (by omega) hk hw0)
      rw [List.append_assoc, ← hstep] at C
      have HB := hide hb
      generalize xs[i] = u at *
      clear hw hk hb gg hstep hlen2
      go_wp2_with fail
      refine C.out.mono ?_
      rintro e W2 ⟨rfl, hw2, hk2, hb2⟩
      have HW2 := hide hw2
      have HK2 := hide hk2
      have HB2 := hide (HB.out.trans hb2)
      clear hw2 hk2 hb2
      go_wp2
      go_roundw
      case rel => exact ⟨i + 1, by go_num, by omega, HW2.out, HK2.out, HB2.out⟩
      case measure => simp [intOf]; omega
    · have he : xs.take i = xs := List.take_of_length_le (by rw [← HN.out]; omega)
      rw [he] at hw
      have HW2 := hide hw
      have HK2 := hide hk
      have HB2 := hide hb
      clear hw hk hb he
      go_wp2
      go_end0
      exact ⟨rfl, HW2.out, HK2.out, HB2.out⟩
end Go.Proofs.YtlhhgenpcjjajaaGreatDoor
namespace Go.Proofs.YtlhhgenpcjjajaaGreatDoor
open Go.RowKit
theorem replaceK_len (old new : List UInt8) : ∀ (k : Nat) (s : List UInt8), (Lib.replaceK old new k s).length ≤ s.length + k * new.length
  | 0, s => by simp [Lib.replaceK]
  | k + 1, s => by
    unfold Lib.replaceK
    split
    · omega
    · have := replaceK_len old new k (s.drop ((Lib.index s old).toNat + old.length))
      simp only [List.length_append, List.length_take, List.length_drop] at this ⊢
      have e : (k + 1) * new.length = k * new.length + new.length := by rw [Nat.add_mul]; simp
      omega
def rep (s old new : ByteArray) : ByteArray := ⟨(Lib.replaceAll s.data.toList old.data.toList new.data.toList).toArray⟩
theorem rep_size (s old new : ByteArray) : (rep s old new).size ≤ s.size + (s.size + 1) * new.size := by
  have e : (rep s old new).size = (Lib.replaceAll s.data.toList old.data.toList new.data.toList).length := by
    show (List.toArray _).size = _
    simp
  rw [e]
  have e1 : s.data.toList.length = s.size := Array.length_toList
  have e2 : new.data.toList.length = new.size := Array.length_toList
  unfold Lib.replaceAll Lib.replace
  split
  · rw [e1]; omega
  · have h1 := replaceK_len old.data.toList new.data.toList (Lib.replaceNum s.data.toList old.data.toList (-1)) s.data.toList
    have h2 : Lib.replaceNum s.data.toList old.data.toList (-1) ≤ s.size + 1 := by
      unfold Lib.replaceNum
      rw [if_pos (.inl (by decide))]
      have := Lib.count_le s.data.toList old.data.toList
      omega
    have h3 := Nat.mul_le_mul_right new.size h2
    rw [e1, e2] at h1
    omega
def GlW (w : World) : Prop := (∃ m, w.cell? ⟨3, 0, none⟩ = some (.int .i64 m)) ∧ 3 < w.heap.size
theorem GlW.kept {w w' : World} (h : GlW w) (hk : Kept [] w w') : GlW w' := by
  obtain ⟨⟨m, hm⟩, hl⟩ := h
  exact ⟨⟨m, (hk.cell (p := ⟨3, 0, none⟩) hl (by simp)).trans hm⟩, Nat.lt_of_lt_of_le hl hk.size⟩
theorem kept_below {w w' : World} (h : Below w.heap.size w w') : Kept [] w w' := ⟨h.os, h.tape, h.output, h.size, fun k hk _ => h.block k hk⟩
theorem rep_ok (s old new : ByteArray) (w : World) (hg : GlW w) (hs : s.size ≤ 1048576) (h1 : 1 ≤ old.size) (hn : new.size ≤ 16) :
    Calls Tryz.prog 251 #[.string s, .string old, .string new] w fun e w' => e = .returned (.string (rep s old new)) ∧ Kept [] w w' := by
  obtain ⟨⟨m, hm⟩, _⟩ := hg
  have hc := Lib.countB_le old h1 s.size s (Nat.le_refl _)
  refine (Tryz.strings_ReplaceAll s old new m w (by omega) hm h1 ?_).mono ?_
  · have := Nat.mul_le_mul hc hn
    omega
  · rintro e w' ⟨rfl, hb⟩
    exact ⟨rfl, kept_below hb⟩
def escd (s : ByteArray) : ByteArray := rep (rep s ⟨#[38]⟩ ⟨#[38, 97, 109, 112, 59]⟩) ⟨#[194, 160]⟩ ⟨#[38, 110, 98, 115, 112, 59]⟩
theorem escd_size (s : ByteArray) (h : s.size ≤ 1024) : (escd s).size ≤ 43049 := by
  have h1 := rep_size s ⟨#[38]⟩ ⟨#[38, 97, 109, 112, 59]⟩
  have h2 := rep_size (rep s ⟨#[38]⟩ ⟨#[38, 97, 109, 112, 59]⟩) ⟨#[194, 160]⟩ ⟨#[38, 110, 98, 115, 112, 59]⟩
  have e1 : (⟨#[38, 97, 109, 112, 59]⟩ : ByteArray).size = 5 := rfl
  have e2 : (⟨#[38, 110, 98, 115, 112, 59]⟩ : ByteArray).size = 6 := rfl
  rw [e1] at h1
  rw [e2] at h2
  unfold escd
  omega
set_option maxHeartbeats 1000000 in
theorem escaped_ok (s : ByteArray) (w : World) (hg : GlW w) (hs : s.size ≤ 1024) :
    Calls Tryz.prog 420 #[.string s] w fun e w' => e = .returned (.string (escd s)) ∧ Kept [] w w' := by
  have C1 := hide (rep_ok s ⟨#[38]⟩ ⟨#[38, 97, 109, 112, 59]⟩ w hg (by omega) (by decide) (by decide))
  have hz : (rep s ⟨#[38]⟩ ⟨#[38, 97, 109, 112, 59]⟩).size ≤ 6149 := by
    have h1 := rep_size s ⟨#[38]⟩ ⟨#[38, 97, 109, 112, 59]⟩
    have e1 : (⟨#[38, 97, 109, 112, 59]⟩ : ByteArray).size = 5 := rfl
    rw [e1] at h1
    omega
  have C2 := hide (fun w' (hk : Kept [] w w') => rep_ok (rep s ⟨#[38]⟩ ⟨#[38, 97, 109, 112, 59]⟩) ⟨#[194, 160]⟩ ⟨#[38, 110, 98, 115, 112, 59]⟩ w' (hg.kept hk) (by omega) (by decide) (by decide))
  rw [show rep (rep s ⟨#[38]⟩ ⟨#[38, 97, 109, 112, 59]⟩) ⟨#[194, 160]⟩ ⟨#[38, 110, 98, 115, 112, 59]⟩ = escd s from rfl] at C2
  clear hg hz
  generalize rep s ⟨#[38]⟩ ⟨#[38, 97, 109, 112, 59]⟩ = u at *
  generalize escd s = v at *
  go_enter Tryz.func420, Tryz.ntmps420
  go_wp2_with fail
  refine C1.out.mono ?_
  rintro e w1 ⟨rfl, hk1⟩
  have C3 := hide (C2.out w1 hk1)
  have HK1 := hide hk1
  clear hk1 C2
  go_wp2_with fail
  refine C3.out.mono ?_
  rintro e w2 ⟨rfl, hk2⟩
  have HK2 := hide (HK1.out.trans hk2)
  clear hk2
  go_wp2
  go_ret
  exact ⟨rfl, HK2.out⟩
def escT (s : ByteArray) : ByteArray := rep (rep (escd s) ⟨#[60]⟩ ⟨#[38, 108, 116, 59]⟩) ⟨#[62]⟩ ⟨#[38, 103, 116, 59]⟩
theorem escT_size (s : ByteArray) (h : s.size ≤ 1024) : (escT s).size ≤ 1076249 := by
  have h0 := escd_size s h
  have h1 := rep_size (escd s) ⟨#[60]⟩ ⟨#[38, 108, 116, 59]⟩
  have h2 := rep_size (rep (escd s) ⟨#[60]⟩ ⟨#[38, 108, 116, 59]⟩) ⟨#[62]⟩ ⟨#[38, 103, 116, 59]⟩
  have e1 : (⟨#[38, 108, 116, 59]⟩ : ByteArray).size = 4 := rfl
  have e2 : (⟨#[38, 103, 116, 59]⟩ : ByteArray).size = 4 := rfl
  rw [e1] at h1
  rw [e2] at h2
  unfold escT
  omega
theorem Wt.cells {w : World} {B b : Nat} {vv : Value} {l : List UInt8} (h : Wt w B b vv l) : ∃ p v, w.heap[b]? = some (.cells #[p, v, vv, .bool false] 100 (0, 0)) ∧ B ≤ b := by
  rcases h with ⟨h0, v, h1, _⟩ | ⟨h0, v, h1, _⟩
  · exact ⟨_, _, h1, h0⟩
  · exact ⟨_, _, h1, h0⟩
set_option maxRecDepth 100000 in
set_option maxHeartbeats 2000000 in
theorem wText (B b : Nat) (vv : Value) (l : List UInt8) (s : ByteArray) (w w0 : World) (h : Wt w B b vv l) (hg : GlW w0) (hs : s.size ≤ 1024) (hlen : l.length + 1076249 ≤ 1073741824) (hk0 : Kept [] w0 w) (hw0 : w0.heap.size ≤ B) :
    Calls Tryz.prog 448 #[.pointer (some ⟨b, 0, none⟩), .string s] w fun e w' => e = .returned (.tuple #[]) ∧ Wt w' B b vv (l ++ (escT s).data.toList) ∧ Kept [] w0 w' := by
  obtain ⟨p, v, hb, hBb⟩ := h.cells
  have c3 : w.cell? ⟨b, 3, none⟩ = some (.bool false) := by rw [cell_at hb]; rfl
  have hlt := lt_of_block hb
  have z1 := escd_size s hs
  have z3 := escT_size s hs
  have z2 : (rep (escd s) ⟨#[60]⟩ ⟨#[38, 108, 116, 59]⟩).size ≤ 215249 := by
    have h1 := rep_size (escd s) ⟨#[60]⟩ ⟨#[38, 108, 116, 59]⟩
    have e1 : (⟨#[38, 108, 116, 59]⟩ : ByteArray).size = 4 := rfl
    rw [e1] at h1
    omega
  have C1 := hide (escaped_ok s w (hg.kept hk0) hs)
  have C2 := hide (fun w' (hk : Kept [] w w') => rep_ok (escd s) ⟨#[60]⟩ ⟨#[38, 108, 116, 59]⟩ w' ((hg.kept hk0).kept hk) (by omega) (by decide) (by decide))
  have C3 := hide (fun w' (hk : Kept [] w w') => rep_ok (rep (escd s) ⟨#[60]⟩ ⟨#[38, 108, 116, 59]⟩) ⟨#[62]⟩ ⟨#[38, 103, 116, 59]⟩ w' ((hg.kept hk0).kept hk) (by omega) (by decide) (by decide))
  rw [show rep (rep (escd s) ⟨#[60]⟩ ⟨#[38, 108, 116, 59]⟩) ⟨#[62]⟩ ⟨#[38, 103, 116, 59]⟩ = escT s from rfl] at C3
  have C4 := hide (fun w' (hk : Kept [] w w') => writeW B b w'.heap.size 1 vv l [escT s] (w'.alloc (.cells #[.string (escT s)] 9 (0, 0))) w0 (h.kept (hk.alloc _)) (heap_alloc_at w' _) (by simp only [joinB, List.flatMap_cons, List.flatMap_nil, List.append_nil]; rw [show (escT s).data.toList.length = (escT s).size from Array.length_toList]; omega) ((hk0.trans hk).alloc _) hw0 (by simp))
  have ej : joinB [escT s] = (escT s).data.toList := by simp [joinB]
  rw [ej] at C4
  clear h hg hb hk0 z1 z2 z3 ej
  generalize rep (escd s) ⟨#[60]⟩ ⟨#[38, 108, 116, 59]⟩ = u2 at *
  generalize escd s = u1 at *
  generalize escT s = u3 at *
  go_enter Tryz.func448, Tryz.ntmps448
  go_wp2_with fail
  refine C1.out.mono ?_
  rintro e w1 ⟨rfl, hk1⟩
  have D2 := hide (C2.out w1 hk1)
  have HK1 := hide hk1
  clear hk1 C2
  go_wp2_with fail
  refine D2.out.mono ?_
  rintro e w2 ⟨rfl, hk2⟩
  have D3 := hide (C3.out w2 (HK1.out.trans hk2))
  have HK2 := hide (HK1.out.trans hk2)
  clear hk2 C3
  go_wp2_with fail
  refine D3.out.mono ?_
  rintro e w3 ⟨rfl, hk3⟩
  have D4 := hide (C4.out w3 (HK2.out.trans hk3))
  clear hk3 C4
  go_wp2_with fail
  refine D4.out.mono ?_
  rintro e w4 ⟨rfl, h4, h5, _⟩
  have H4 := hide h4
  have H5 := hide h5
  clear h4 h5
  go_wp2
  go_end0
  exact ⟨rfl, H4.out, H5.out⟩
end Go.Proofs.YtlhhgenpcjjajaaGreatDoor
namespace Go.Proofs.YtlhhgenpcjjajaaGreatDoor
open Go.RowKit
attribute [local go_sem] Oper.semAt_some
structure It where
  k : Int
  s : ByteArray
  t : ByteArray
abbrev It.val (x : It) : Value := .agg #[.int .i64 x.k, .string x.s, .string x.t]
def itemsOf : Ev → List It
  | .dt s => [⟨1, s, ⟨#[]⟩⟩]
  | .cm s => [⟨2, s, ⟨#[]⟩⟩]
  | .tx s => [⟨3, s, ⟨#[]⟩⟩]
  | .enter s ats => ⟨4, s, ⟨#[]⟩⟩ :: ats.map fun a => ⟨5, a.1, a.2⟩
  | .leave s => [⟨6, s, ⟨#[]⟩⟩]
def itemsE (es : List Ev) : List It := es.flatMap itemsOf
def Wk (w : World) (b l : Nat) : Prop := w.heap[b]? = some (.cells #[.func (.yield l) #[] #[], .bool false] 203 (0, 0))
theorem setCell_same {w : World} {b : Nat} {c : Array Value} {t : TypeId} {m : Nat × Nat} (h : w.heap[b]? = some (.cells c t m)) (j : Nat) (v : Value) (hj : c[j]? = some v) : w.setCell ⟨b, j, none⟩ v = w := by
  obtain ⟨hlt, hb⟩ := Array.getElem?_eq_some_iff.1 h
  have hs : c.setIfInBounds j v = c := by
    apply Array.ext
    · simp
    · intro k k1 k2
      rw [Array.getElem_setIfInBounds]
      split
      · rename_i e
        subst e
        rw [Array.getElem?_eq_getElem k2] at hj
        exact (Option.some.inj hj).symm
      · rfl
  have e : ∀ f : Obj → Obj, f (.cells c t m) = .cells c t m → w.heap.modify b f = w.heap := by
    intro f hf
    apply Array.ext
    · simp
    · intro i h1 h2
      rw [Array.getElem_modify]
      split
      · rename_i e
        subst e
        rw [hb]
        exact hf
      · rfl
  unfold World.setCell
  rw [e _ (by simp [hs])]
def KW (W W' : World) : Prop := ∀ (k : Nat) (c : Array Value) (t : TypeId), W.heap[k]? = some (.cells c t (0, 0)) → t ∉ [25, 57] → W'.heap[k]? = some (.cells c t (0, 0))
theorem KW.wk {W W' : World} (h : KW W W') {b l : Nat} (hw : Wk W b l) : Wk W' b l := h b _ _ hw (by decide)
theorem KW.atr {W W' : World} (h : KW W W') {v : Value} {ats : List (ByteArray × ByteArray)} (ha : AtrA W v ats) : AtrA W' v ats := by
  refine ⟨ha.1, ?_⟩
  rcases ha.2 with e | ⟨g, cap, cur, e, h1, hc, r⟩
  · exact .inl e
  · exact .inr ⟨g, cap, cur, e, h1, h g _ _ hc (by decide), r⟩
def Rnd (l : Nat) (tot : List It) (w0 : World) (J : List It → World → Prop) : Prop := ∀ pre x W, Kept [] w0 W → J pre W → pre ++ [x] <+: tot → YieldAt Fence.wide 3 Tryz.prog l #[It.val x] W fun e W' => e = .returned (.bool true) ∧ J (pre ++ [x]) W' ∧ Kept [] w0 W' ∧ KW W W'
set_option maxHeartbeats 2000000 in
theorem tell_ok (l b : Nat) (tot : List It) (w0 : World) (J : List It → World → Prop) (hY : Rnd l tot w0 J) (pre : List It) (x : It) (W : World) (hK : Kept [] w0 W) (hJ : J pre W) (hW : Wk W b l) (hp : pre ++ [x] <+: tot) :
    Calls Tryz.prog 442 #[.pointer (some ⟨b, 0, none⟩), .int .i64 x.k, .string x.s, .string x.t] W fun e W' => e = .returned (.tuple #[]) ∧ ((J (pre ++ [x]) W' ∧ Wk W' b l) ∧ Kept [] w0 W') ∧ KW W W' := by
  refine (callsIn_wide (n := 4)).1 ?_
  have c0 : W.cell? ⟨b, 0, none⟩ = some (.func (.yield l) #[] #[]) := by rw [cell_at hW]; rfl
  have c1 : W.cell? ⟨b, 1, none⟩ = some (.bool false) := by rw [cell_at hW]; rfl
  obtain ⟨fn, tmps, assign, body, hy, hR⟩ := hY pre x W hK hJ hp
  have HR := hide hR
  dsimp only [It.val] at hy
  have hlt := lt_of_block hW
  have HW := hide hW
  clear hR hY hK hJ hp hW
  obtain ⟨k, s, t⟩ := x
  refine callsIn_of_wp Tryz.func442 rfl trivial ?_ rfl
  simp only [Tryz.ntmps442, List.size_toArray, List.length_cons, List.length_nil, Nat.reduceAdd, Nat.reduceSub, Array.replicate_succ, Array.replicate_zero, List.push_toArray, List.append_toArray, List.nil_append, List.cons_append]
  gi_wp2
  refine HR.out.mono ?_
  rintro e W2 ⟨rfl, hj2, hk2, hw2⟩
  have hw3 := hw2.wk HW.out
  have c2 : W2.cell? ⟨b, 1, none⟩ = some (.bool false) := by rw [cell_at hw3]; rfl
  have f2 := free_at hw3 1
  have HS := hide (setCell_same hw3 1 (.bool false) rfl)
  have HJ := hide (And.intro (And.intro (And.intro hj2 hw3) hk2) hw2)
  clear hj2 hk2 hw2 hw3
  gi_wp2
  go_end0
  rw [HS.out]
  exact ⟨rfl, HJ.out⟩
set_option maxHeartbeats 1000000 in
theorem wdt (l b : Nat) (tot : List It) (w0 : World) (J : List It → World → Prop) (hY : Rnd l tot w0 J) (s : ByteArray) (pre : List It) (W : World) (hK : Kept [] w0 W) (hJ : J pre W) (hW : Wk W b l) (hp : pre ++ [⟨1, s, ⟨#[]⟩⟩] <+: tot) :
    Calls Tryz.prog 438 #[.pointer (some ⟨b, 0, none⟩), .string s] W fun e W' => e = .returned (.tuple #[]) ∧ (J (pre ++ [⟨1, s, ⟨#[]⟩⟩]) W' ∧ Wk W' b l) ∧ Kept [] w0 W' := by
  have C := hide (tell_ok l b tot w0 J hY pre ⟨1, s, ⟨#[]⟩⟩ W hK hJ hW hp)
  clear hY hK hJ hW hp
  generalize J (pre ++ [⟨1, s, ⟨#[]⟩⟩]) = J' at C ⊢
  go_enter Tryz.func438, Tryz.ntmps438
  go_wp2_with fail
  refine C.out.mono ?_
  rintro e W2 ⟨rfl, hj, _⟩
  have HJ := hide hj
  clear hj
  go_wp2
  go_end0
  exact ⟨rfl, HJ.out⟩
set_option maxHeartbeats 1000000 in
theorem wcm (l b : Nat) (tot : List It) (w0 : World) (J : List It → World → Prop) (hY : Rnd l tot w0 J) (s : ByteArray) (pre : List It) (W : World) (hK : Kept [] w0 W) (hJ : J pre W) (hW : Wk W b l) (hp : pre ++ [⟨2, s, ⟨#[]⟩⟩] <+: tot) :
    Calls Tryz.prog 437 #[.pointer (some ⟨b, 0, none⟩), .string s] W fun e W' => e = .returned (.tuple #[]) ∧ (J (pre ++ [⟨2, s, ⟨#[]⟩⟩]) W' ∧ Wk W' b l) ∧ Kept [] w0 W' := by
  have C := hide (tell_ok l b tot w0 J hY pre ⟨2, s, ⟨#[]⟩⟩ W hK hJ hW hp)
  clear hY hK hJ hW hp
  generalize J (pre ++ [⟨2, s, ⟨#[]⟩⟩]) = J' at C ⊢
  go_enter Tryz.func437, Tryz.ntmps437
  go_wp2_with fail
  refine C.out.mono ?_
  rintro e W2 ⟨rfl, hj, _⟩
  have HJ := hide hj
  clear hj
  go_wp2
  go_end0
  exact ⟨rfl, HJ.out⟩
set_option maxHeartbeats 1000000 in
theorem wtx (l b : Nat) (tot : List It) (w0 : World) (J : List It → World → Prop) (hY : Rnd l tot w0 J) (s : ByteArray) (pre : List It) (W : World) (hK : Kept [] w0 W) (hJ : J pre W) (hW : Wk W b l) (hp : pre ++ [⟨3, s, ⟨#[]⟩⟩] <+: tot) :
    Calls Tryz.prog 441 #[.pointer (some ⟨b, 0, none⟩), .string s] W fun e W' => e = .returned (.tuple #[]) ∧ (J (pre ++ [⟨3, s, ⟨#[]⟩⟩]) W' ∧ Wk W' b l) ∧ Kept [] w0 W' := by
  have C := hide (tell_ok l b tot w0 J hY pre ⟨3, s, ⟨#[]⟩⟩ W hK hJ hW hp)
  clear hY hK hJ hW hp
  generalize J (pre ++ [⟨3, s, ⟨#[]⟩⟩]) = J' at C ⊢
  go_enter Tryz.func441, Tryz.ntmps441
  go_wp2_with fail
  refine C.out.mono ?_
  rintro e W2 ⟨rfl, hj, _⟩
  have HJ := hide hj
  clear hj
  go_wp2
  go_end0
  exact ⟨rfl, HJ.out⟩
set_option maxHeartbeats 1000000 in
theorem wlv (l b : Nat) (tot : List It) (w0 : World) (J : List It → World → Prop) (hY : Rnd l tot w0 J) (s : ByteArray) (pre : List It) (W : World) (hK : Kept [] w0 W) (hJ : J pre W) (hW : Wk W b l) (hp : pre ++ [⟨6, s, ⟨#[]⟩⟩] <+: tot) :
    Calls Tryz.prog 440 #[.pointer (some ⟨b, 0, none⟩), .string s] W fun e W' => e = .returned (.tuple #[]) ∧ (J (pre ++ [⟨6, s, ⟨#[]⟩⟩]) W' ∧ Wk W' b l) ∧ Kept [] w0 W' := by
  have C := hide (tell_ok l b tot w0 J hY pre ⟨6, s, ⟨#[]⟩⟩ W hK hJ hW hp)
  clear hY hK hJ hW hp
  generalize J (pre ++ [⟨6, s, ⟨#[]⟩⟩]) = J' at C ⊢
  go_enter Tryz.func440, Tryz.ntmps440
  go_wp2_with fail
  refine C.out.mono ?_
  rintro e W2 ⟨rfl, hj, _⟩
  have HJ := hide hj
  clear hj
  go_wp2
  go_end0
  exact ⟨rfl, HJ.out⟩
theorem itemsE_append (a b : List Ev) : itemsE (a ++ b) = itemsE a ++ itemsE b := List.flatMap_append ..
theorem itemsE_pre {a b : List Ev} (h : a <+: b) : itemsE a <+: itemsE b := by
  obtain ⟨r, rfl⟩ := h
  exact ⟨itemsE r, (itemsE_append a r).symm⟩
theorem flatA_get (L : List (ByteArray × ByteArray)) (i : Nat) (h : i < L.length) : (flatA L)[i * 2]? = some (.string L[i].1) ∧ (flatA L)[i * 2 + 1]? = some (.string L[i].2) := by
  induction L generalizing i with
  | nil => simp at h
  | cons a L ih =>
    cases i with
    | zero => exact ⟨rfl, rfl⟩
    | succ i =>
      have := ih i (by simpa using h)
      have e1 : (i + 1) * 2 = i * 2 + 2 := by omega
      have e2 : (i + 1) * 2 + 1 = i * 2 + 1 + 2 := by omega
      rw [e2, e1]
      simpa [flatA] using this
set_option maxRecDepth 100000 in
set_option maxHeartbeats 4000000 in
theorem wen (l b : Nat) (tot : List It) (w0 : World) (J : List It → World → Prop) (hY : Rnd l tot w0 J) (hm : ∀ pre W W', J pre W → Kept [] W W' → J pre W') (s : ByteArray) (av : Value) (ats : List (ByteArray × ByteArray)) (pre : List It) (W : World) (hK : Kept [] w0 W) (hJ : J pre W) (hW : Wk W b l) (hp : pre ++ itemsOf (.enter s ats) <+: tot) (hA : AtrA W av ats) (hal : ats.length ≤ 4096) :
    Calls Tryz.prog 439 #[.pointer (some ⟨b, 0, none⟩), .string s, av] W fun e W' => e = .returned (.bool true) ∧ (J (pre ++ itemsOf (.enter s ats)) W' ∧ Wk W' b l) ∧ Kept [] w0 W' := by
  have hp1 : pre ++ [(⟨4, s, ⟨#[]⟩⟩ : It)] <+: tot := by
    obtain ⟨r, hr⟩ := hp
    exact ⟨_, by rw [← hr]; simp [itemsOf]; rfl⟩
  have C := hide (tell_ok l b tot w0 J hY pre ⟨4, s, ⟨#[]⟩⟩ W hK hJ hW hp1)
  obtain ⟨ao, cap, hav⟩ := owns_shape hA
  have HA := hide hA
  have HP := hide hp
  have HY := hide hY
  have HM := hide hm
  obtain ⟨n, hn⟩ : ∃ n, n = ats.length := ⟨_, rfl⟩
  rw [← hn] at hal hav
  have HN := hide hn
  subst hav
  clear hY hK hJ hW hp hp1 hA hm hn
  go_enter Tryz.func439, Tryz.ntmps439
  go_wp2_with fail
  refine C.out.mono ?_
  rintro e W2 ⟨rfl, ⟨⟨hj, hw⟩, hk⟩, hx⟩
  have HA2 := hide (hx.atr HA.out)
  have HJ2 := hide hj
  have HW2 := hide hw
  have HK2 := hide hk
  clear hj hw hk hx C HA
  go_wp2_with fail
  go_loopw [14] (fun v wr => ∃ i : Nat, v = .int .i64 i ∧ i ≤ n ∧ J (pre ++ (⟨4, s, ⟨#[]⟩⟩ :: (ats.take i).map fun a => (⟨5, a.1, a.2⟩ : It))) wr ∧ Wk wr b l ∧ Kept [] w0 wr ∧ AtrA wr (.slice ao n cap) ats) (fun v _ => n - (intOf v).toNat)
  case atStart => exact ⟨0, rfl, Nat.zero_le _, by simpa using HJ2.out, HW2.out, HK2.out, HA2.out⟩
  case round =>
    obtain ⟨i, rfl, hi, hj, hw, hk, ha⟩ := hrel
    by_cases hlt : i < n
    · have h1 : i < ats.length := by rw [← HN.out]; exact hlt
      obtain ⟨g, hao⟩ : ∃ g, ao = some ⟨g, 0, none⟩ := by
        rcases ha.2 with ⟨e, h0⟩ | ⟨g, cap', cur, e, _⟩
        · omega
        · injection e with e1; exact ⟨g, e1⟩
      subst hao
      have hc0 : wr.cell? ⟨g, i * 2, none⟩ = some (.string ats[i].1) := by
        have := ha.cells (g := g) rfl (i * 2) _ (flatA_get ats i h1).1
        rw [addr_add] at this
        simpa using this
      have hc1 : wr.cell? ⟨g, i * 2 + 1, none⟩ = some (.string ats[i].2) := by
        have := ha.cells (g := g) rfl (i * 2 + 1) _ (flatA_get ats i h1).2
        rw [addr_add] at this
        simpa using this
      have hstep : (pre ++ (⟨4, s, ⟨#[]⟩⟩ :: (ats.take i).map fun a => (⟨5, a.1, a.2⟩ : It))) ++ [⟨5, ats[i].1, ats[i].2⟩] = pre ++ (⟨4, s, ⟨#[]⟩⟩ :: (ats.take (i + 1)).map fun a => (⟨5, a.1, a.2⟩ : It)) := by
        have : (ats.take (i + 1)) = ats.take i ++ [ats[i]] := by rw [List.take_add_one, List.getElem?_eq_getElem h1]; rfl
        rw [this, List.map_append]
        simp only [List.append_assoc, List.cons_append, List.map_cons, List.map_nil]
      have hpre : (pre ++ (⟨4, s, ⟨#[]⟩⟩ :: (ats.take i).map fun a => (⟨5, a.1, a.2⟩ : It))) ++ [⟨5, ats[i].1, ats[i].2⟩] <+: tot := by
        rw [hstep]
        obtain ⟨r, hr⟩ := HP.out
        refine ⟨((ats.drop (i + 1)).map fun a => (⟨5, a.1, a.2⟩ : It)) ++ r, ?_⟩
        rw [← hr]
        have e := congrArg (List.map fun a : ByteArray × ByteArray => (⟨5, a.1, a.2⟩ : It)) (List.take_append_drop (i + 1) ats)
        rw [List.map_append] at e
        show _ = pre ++ (⟨4, s, ⟨#[]⟩⟩ :: ats.map fun a => (⟨5, a.1, a.2⟩ : It)) ++ r
        rw [← e]
        simp only [List.append_assoc, List.cons_append]
      have kk : ∀ o, Kept [] wr (wr.alloc o) := fun o => (Kept.refl [] wr).alloc o
      have CT := hide (fun o => tell_ok l b tot w0 J HY.out _ ⟨5, ats[i].1, ats[i].2⟩ (wr.alloc o) (hk.trans (kk o)) (HM.out _ _ _ hj (kk o)) ((kk o).at hw (by simp)) hpre)
      have HAA := hide (fun o => ha.kept (kk o))
      simp only [hstep] at CT
      generalize ats[i].1 = u1 at *
      generalize ats[i].2 = u2 at *
      clear hstep hpre kk hj hw hk ha
      go_wp2_with fail
      refine (CT.out _).mono ?_
      rintro e W3 ⟨rfl, ⟨⟨hj, hw⟩, hk⟩, hx⟩
      have HJ3 := hide hj
      have HW3 := hide hw
      have HK3 := hide hk
      have HA3 := hide (hx.atr (HAA.out _))
      clear hj hw hk hx CT HAA
      go_wp2
      go_roundw
      case rel => exact ⟨i + 1, by go_num, by omega, HJ3.out, HW3.out, HK3.out, HA3.out⟩
      case measure => simp [intOf]; omega
    · have he : ats.take i = ats := List.take_of_length_le (by rw [← HN.out]; omega)
      rw [he] at hj
      have hw1 : wr.cell? ⟨b, 1, none⟩ = some (.bool false) := by rw [cell_at hw]; rfl
      have hbl := lt_of_block hw
      have HJ3 := hide hj
      have HW3 := hide hw
      have HK3 := hide hk
      clear hj hw hk ha he
      go_wp2
      go_ret
      exact ⟨rfl, ⟨HJ3.out, HW3.out⟩, HK3.out⟩
theorem walker_vis (l b : Nat) (tot : List Ev) (w0 : World) (J : List It → World → Prop) (hY : Rnd l (itemsE tot) w0 J) (hm : ∀ pre W W', J pre W → Kept [] W W' → J pre W') :
    Vis 201 (.pointer (some ⟨b, 0, none⟩)) (fun _ => false) tot w0 (fun pre W => J (itemsE pre) W ∧ Wk W b l) := by
  have one : ∀ pre ev, itemsE (pre ++ [ev]) = itemsE pre ++ itemsOf ev := fun pre ev => by rw [itemsE_append]; simp [itemsE]
  refine { mono := fun pre W W' h hk => ⟨hm _ _ _ h.1 hk, hk.at h.2 (by simp)⟩, dt := fun s => ?_, cm := fun s => ?_, tx := fun s => ?_, leave := fun s => ?_, enter := ?_ }
  · refine ⟨438, .pointer (some ⟨b, 0, none⟩), fun w => by kernel_rfl, fun w => by kernel_rfl, enters_of Tryz.func438 (by kernel_rfl) rfl, fun pre W hK hJ hp => ?_⟩
    have hp2 := itemsE_pre hp
    rw [one] at hp2
    try simp only []
    rw [one]
    exact wdt l b _ w0 J hY s _ W hK hJ.1 hJ.2 hp2
  · refine ⟨437, .pointer (some ⟨b, 0, none⟩), fun w => by kernel_rfl, fun w => by kernel_rfl, enters_of Tryz.func437 (by kernel_rfl) rfl, fun pre W hK hJ hp => ?_⟩
    have hp2 := itemsE_pre hp
    rw [one] at hp2
    try simp only []
    rw [one]
    exact wcm l b _ w0 J hY s _ W hK hJ.1 hJ.2 hp2
  · refine ⟨441, .pointer (some ⟨b, 0, none⟩), fun w => by kernel_rfl, fun w => by kernel_rfl, enters_of Tryz.func441 (by kernel_rfl) rfl, fun pre W hK hJ hp => ?_⟩
    have hp2 := itemsE_pre hp
    rw [one] at hp2
    try simp only []
    rw [one]
    exact wtx l b _ w0 J hY s _ W hK hJ.1 hJ.2 hp2
  · refine ⟨440, .pointer (some ⟨b, 0, none⟩), fun w => by kernel_rfl, fun w => by kernel_rfl, enters_of Tryz.func440 (by kernel_rfl) rfl, fun pre W hK hJ hp => ?_⟩
    have hp2 := itemsE_pre hp
    rw [one] at hp2
    try simp only []
    rw [one]
    exact wlv l b _ w0 J hY s _ W hK hJ.1 hJ.2 hp2
  · refine ⟨439, .pointer (some ⟨b, 0, none⟩), fun w => by kernel_rfl, fun w => by kernel_rfl, enters_of Tryz.func439 (by kernel_rfl) rfl, fun pre W s av ats hK hJ hp hA hal => ?_⟩
    have hp2 := itemsE_pre hp
    rw [one] at hp2
    try simp only []
    rw [one]
    exact wen l b _ w0 J hY hm s av ats _ W hK hJ.1 hJ.2 hp2 hA hal
end Go.Proofs.YtlhhgenpcjjajaaGreatDoor
