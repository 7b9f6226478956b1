import Derived.Test.YtlhhgenpcjjajaaGreatDoorRlB
import Derived.Lib.Builder
import Derived.Lib.UnsafeStr
import Derived.Test.YtlhhgenpcjjajaaGreatDoorShelf
import Derived.Test.YtlhhgenpcjjajaaGreatDoorVsD
import Derived.Maps.AppendAt
import Derived.Test.YtlhhgenpcjjajaaGreatDoorNmF
set_option linter.unusedSimpArgs false
set_option linter.unusedVariables false
namespace Go.Proofs.YtlhhgenpcjjajaaGreatDoor
open Go.RowKit
theorem info_u8W : (Tryz.prog.info? 5).map (fun i => (i.zero, i.size, i.bytes)) = some (some (.int .u8 0), 1, 1) := by kernel_rfl
theorem builderW_has : (∃ j, Tryz.prog.info? 98 = some j ∧ j.size ≠ 0) := by
  have h : ((Tryz.prog.info? 98).map fun i => i.size) = some 2 := by kernel_rfl
  obtain ⟨j, hj, h2⟩ := Option.map_eq_some_iff.1 h
  exact ⟨j, hj, by omega⟩
theorem writer_lies : liesAt Tryz.prog Tryz.prog.depth 100 (4 / Tryz.prog.cellsOf 100) 0 98 1 = true := by kernel_rfl
def WtP (w : World) (B b : Nat) (vv p : Value) (l : List UInt8) : Prop := B ≤ b ∧ ∃ v, w.heap[b]? = some (.cells #[p, v, vv, .bool false] 100 (0, 0)) ∧ w.ownsRow B 5 1 v l.length (Lib.byteCells l) ∧ v.ownBlock ≠ some b
def Wt (w : World) (B b : Nat) (vv : Value) (l : List UInt8) : Prop := WtP w B b vv (.pointer none) l ∨ WtP w B b vv (.pointer (some ⟨b, 0, none⟩)) l
theorem WtP.kept {w w' : World} {B b : Nat} {vv p : Value} {l : List UInt8} (h : WtP w B b vv p l) (hk : Kept [] w w') : WtP w' B b vv p l := by
  obtain ⟨h0, v, h1, h2, h3⟩ := h
  exact ⟨h0, v, hk.at h1 (by simp), hk.ownsRow h2 (fun _ _ => by simp), h3⟩
theorem Wt.kept {w w' : World} {B b : Nat} {vv : Value} {l : List UInt8} (h : Wt w B b vv l) (hk : Kept [] w w') : Wt w' B b vv l := h.imp (·.kept hk) (·.kept hk)
set_option maxRecDepth 100000 in
set_option maxHeartbeats 1000000 in
theorem copyCheckW (B b : Nat) (vv : Value) (l : List UInt8) (w : World) (h : Wt w B b vv l) :
    Calls Tryz.prog 360 #[.pointer (some ⟨b, 0, none⟩)] w fun e w' => e = .returned (.tuple #[]) ∧ WtP w' B b vv (.pointer (some ⟨b, 0, none⟩)) l ∧ Kept [b] w w' := by
  obtain ⟨j, hj, hj0⟩ := builderW_has
  rcases h with ⟨hB, v, h1, h2, h3⟩ | ⟨hB, v, h1, h2, h3⟩
  · have c0 : w.cell? ⟨b, 0, none⟩ = some (.pointer none) := by rw [cell_at h1]; rfl
    have f0 := free_at h1 0
    have hlt := lt_of_block h1
    have hsh : w.shape? b = some (100, 4) := by simp [World.shape?, h1]
    have k1 := (Kept.refl [b] w).setCell (p := ⟨b, 0, none⟩) (.inl (by simp)) (.pointer (some ⟨b, 0, none⟩))
    have HN : Hid (WtP (w.setCell ⟨b, 0, none⟩ (.pointer (some ⟨b, 0, none⟩))) B b vv (.pointer (some ⟨b, 0, none⟩)) l) := hide ⟨hB, v, block_setCell h1 0 _, k1.ownsRow h2 (fun q hq => by simp; intro e; subst e; exact h3 hq), h3⟩
    have HK := hide k1
    have d0 : (w.setCell ⟨b, 0, none⟩ (.pointer (some ⟨b, 0, none⟩))).cell? ⟨b, 0, none⟩ = some (.pointer (some ⟨b, 0, none⟩)) := by rw [cell_at (block_setCell h1 0 _)]; rfl
    have hu := Lib.run_to_unsafe (P := Tryz.prog) w (src := 96) (dst := 102) ⟨b, 0, none⟩ Tryz.underlying96 Tryz.underlying102 hj hj0 hsh (show 0 < 4 by decide)
    have hf := Lib.run_from_unsafe (P := Tryz.prog) w (src := 102) (dst := 96) ⟨b, 0, none⟩ Tryz.underlying102 Tryz.underlying96 hj hsh writer_lies
    have hn := Lib.run_neq_ptr_same (P := Tryz.prog) (w.setCell ⟨b, 0, none⟩ (.pointer (some ⟨b, 0, none⟩))) (tp := 96) ⟨b, 0, none⟩ Tryz.underlying96 hj
    clear h1 h2 h3 k1 hsh
    go_enter Tryz.func360, Tryz.ntmps360
    go_wp2
    rw [run_callFunc_extern Tryz.func378 (by kernel_rfl) (by kernel_rfl) (by kernel_rfl) (e := Extern.AbiNoEscape.same) (by kernel_rfl)]
    rw [Lib.run_noEscape]
    simp only [Result.andThen]
    rw [Oper.upon_value]
    go_wp2
    go_end0
    exact ⟨rfl, HN.out, HK.out⟩
  · have c0 : w.cell? ⟨b, 0, none⟩ = some (.pointer (some ⟨b, 0, none⟩)) := by rw [cell_at h1]; rfl
    have hlt := lt_of_block h1
    have HN : Hid (WtP w B b vv (.pointer (some ⟨b, 0, none⟩)) l) := hide ⟨hB, v, h1, h2, h3⟩
    have hn := Lib.run_neq_ptr_same (P := Tryz.prog) w (tp := 96) ⟨b, 0, none⟩ Tryz.underlying96 hj
    clear h1 h2 h3
    go_enter Tryz.func360, Tryz.ntmps360
    go_wp2
    go_end0
    exact ⟨rfl, HN.out, Kept.refl _ _⟩
def KB (W W' : World) : Prop := ∀ (k : Nat) (c : Array Value) (t : TypeId), W.heap[k]? = some (.cells c t (0, 0)) → t ∉ [100, 5] → W'.heap[k]? = some (.cells c t (0, 0))
theorem KB.trans {A B C : World} (h : KB A B) (k : KB B C) : KB A C := fun i c t hi ht => k i c t (h i c t hi ht) ht
theorem KB.of_kept {A B : World} (h : Kept [] A B) : KB A B := fun i c t hi _ => h.at hi (by simp)
theorem KB.of_one {A B : World} {b : Nat} {cb : Array Value} (h : Kept [b] A B) (hb : A.heap[b]? = some (.cells cb 100 (0, 0))) : KB A B := fun i c t hi ht => h.at hi (by
  intro hm
  have e := List.mem_singleton.1 hm
  subst e
  rw [hb] at hi
  simp at hi
  exact ht (by rw [← hi.2]; simp))
theorem KB.of_grown {A B : World} {base n : Nat} {v : Value} {xs : List Value} (hg : A.grownBy B v.ownBlock) (ho : A.ownsRow base 5 1 v n xs) : KB A B := fun i c t hi ht => (hg.block i (lt_of_block hi) (by
  intro e
  rcases ho.2 with ⟨e2, _⟩ | ⟨g, cap', cur, e2, _, hc, _⟩
  · rw [e2] at e; cases e
  · rw [e2] at e
    have e3 := Option.some.inj e
    subst e3
    rw [hi] at hc
    simp at hc
    exact ht (by rw [hc.2]; simp))).trans hi
theorem byteCells_app (l : List UInt8) (s : ByteArray) : Lib.byteCells (l ++ s.data.toList) = Lib.byteCells l ++ Lib.strCells s := by
  unfold Lib.byteCells Lib.strCells
  rw [List.map_append]
set_option maxRecDepth 100000 in
set_option maxHeartbeats 2000000 in
theorem writeStringW (B b : Nat) (vv : Value) (l : List UInt8) (s : ByteArray) (w w0 : World) (h : Wt w B b vv l) (hlen : l.length + s.size ≤ 1073741824) (hBw : B ≤ w.heap.size) (hk0 : Kept [] w0 w) (hw0 : w0.heap.size ≤ B) :
    Calls Tryz.prog 335 #[.pointer (some ⟨b, 0, none⟩), .string s] w fun e w' => e = .returned (.tuple #[.int .i64 s.size, .nilIface]) ∧ Wt w' B b vv (l ++ s.data.toList) ∧ Kept [] w0 w' ∧ KB w w' := by
  obtain ⟨i0, hi, hz0, hz1, hz2⟩ := info_parts info_u8W
  have HH := hide h
  have HK0 := hide hk0
  clear h hk0
  go_enter Tryz.func335, Tryz.ntmps335
  go_wp2_with fail
  refine (copyCheckW B b vv l _ HH.out).mono ?_
  rintro e w1 ⟨rfl, h1, hk1⟩
  obtain ⟨hB, v, hbk, hown, hne⟩ := h1
  have kb1 : KB w w1 := by
    rcases HH.out with ⟨_, _, hx, _⟩ | ⟨_, _, hx, _⟩
    · exact .of_one hk1 hx
    · exact .of_one hk1 hx
  have c1 : w1.cell? ⟨b, 1, none⟩ = some v := by rw [cell_at hbk]; rfl
  have hlt : b < w1.heap.size := lt_of_block hbk
  go_wp2_with (at_builtin; refine Lib.wpList_append_own_string _ rfl _ _ 55 9 rfl B 5 i0 Tryz.underlying55 Tryz.underlying9 hi hz0 hz1 hz2 _ _ _ rfl hown s rfl ?c3 ?c4 ?c5 ?_)
  case c3 => unfold maxLen; omega
  case c4 => omega
  case c5 => have := hk1.size; omega
  intro v' w2 hown' hgrow _
  have hb2 : w2.heap[b]? = some (.cells #[.pointer (some ⟨b, 0, none⟩), v, vv, .bool false] 100 (0, 0)) := by
    rw [hgrow.block b hlt (fun e => hne e.symm)]
    exact hbk
  have d1 : w2.cell? ⟨b, 1, none⟩ = some v := by rw [cell_at hb2]; rfl
  have f1 : w2.frozen? ⟨b, 1, none⟩ = false := free_at hb2 1
  obtain ⟨ao, cap, hv⟩ := owns_shape hown'
  subst hv
  have hrow : ∀ q, v.ownBlock = some q → B ≤ q := fun q hq => (hown.lt q hq).1
  have hrow' : ∀ q, (Value.slice ao (l.length + s.size) cap).ownBlock = some q → q ≠ b := fun q hq e => by
    subst e
    rcases hown'.2 with ⟨e2, _⟩ | ⟨g, cap', cur, e2, _, hc, _⟩
    · rw [e2] at hq; cases hq
    · rw [e2] at hq
      have e3 := Option.some.inj hq
      rw [← e3] at hb2
      rw [hc] at hb2
      simp at hb2
  have kx : Kept [b] w2 (w2.setCell ⟨b, 1, none⟩ (.slice ao (l.length + s.size) cap)) := (Kept.refl [b] w2).setCell (.inl (by simp)) _
  have HP : Hid (Wt (w2.setCell ⟨b, 1, none⟩ (.slice ao (l.length + s.size) cap)) B b vv (l ++ s.data.toList)) := hide (.inr ⟨hB, _, block_setCell hb2 1 _, by
    rw [byteCells_app, List.length_append]
    exact kx.ownsRow hown' (fun q hq => by simpa using hrow' q hq), fun e => hrow' b e rfl⟩)
  have HKK : Hid (Kept [] w0 (w2.setCell ⟨b, 1, none⟩ (.slice ao (l.length + s.size) cap))) := hide ((((HK0.out.next hk1 (by simp; omega))).grown hgrow (fun q hq => .inr (by have := hrow q hq; omega))).setCell (.inr (by show w0.heap.size ≤ b; omega)) _)
  have HKB := hide ((kb1.trans (KB.of_grown hgrow hown)).trans (KB.of_one kx hb2))
  clear hown' hgrow hbk hown hne hk1 hb2 kx hrow hrow' kb1
  go_wp2
  go_ret2
  exact ⟨rfl, HP.out, HKK.out, HKB.out⟩
def joinB (xs : List ByteArray) : List UInt8 := xs.flatMap fun s => s.data.toList
theorem joinB_cons (s : ByteArray) (xs : List ByteArray) : joinB (s :: xs) = s.data.toList ++ joinB xs := rfl
theorem joinB_append (xs ys : List ByteArray) : joinB (xs ++ ys) = joinB xs ++ joinB ys := List.flatMap_append ..
set_option maxRecDepth 100000 in
set_option maxHeartbeats 2000000 in
theorem writeW (B b g cap : Nat) (vv : Value) (l : List UInt8) (xs : List ByteArray) (w w0 : World) (h : Wt w B b vv l) (hg : w.heap[g]? = some (.cells (xs.map Value.string).toArray 9 (0, 0))) (hlen : l.length + (joinB xs).length ≤ 1073741824) (hk0 : Kept [] w0 w) (hw0 : w0.heap.size ≤ B) (hxs : xs.length ≤ 4096) :
    Calls Tryz.prog 419 #[.pointer (some ⟨b, 0, none⟩), .slice (some ⟨g, 0, none⟩) xs.length cap] w fun e w' => e = .returned (.tuple #[]) ∧ Wt w' B b vv (l ++ joinB xs) ∧ Kept [] w0 w' ∧ KB w w' := by
  obtain ⟨n, hn⟩ : ∃ n, n = xs.length := ⟨_, rfl⟩
  rw [← hn] at hxs ⊢
  have HN := hide hn
  have HT := hide h
  have HG := hide hg
  have HK0 := hide hk0
  have HLE := hide hlen
  clear h hg hn hk0 hlen
  go_enter Tryz.func419, Tryz.ntmps419
  go_wp2_with fail
  go_loopw [8] (fun v wr => ∃ i : Nat, v = .int .i64 i ∧ i ≤ n ∧ Wt wr B b vv (l ++ joinB (xs.take i)) ∧ Kept [] w0 wr ∧ KB w wr) (fun v _ => n - (intOf v).toNat)
  case atStart => exact ⟨0, rfl, Nat.zero_le _, by simpa [joinB] using HT.out, HK0.out, .of_kept (Kept.refl _ _)⟩
  case round =>
    obtain ⟨i, rfl, hi, hw, hk, hb⟩ := hrel
    by_cases hlt : i < n
    · have h1 : i < xs.length := by rw [← HN.out]; exact hlt
      have gg := hb g _ _ HG.out (by decide)
      have hc : wr.cell? ⟨g, i, none⟩ = some (.string xs[i]) := by rw [cell_at gg]; simp [h1]
      have hstep : joinB (xs.take (i + 1)) = joinB (xs.take i) ++ xs[i].data.toList := by
        rw [List.take_add_one, List.getElem?_eq_getElem h1, joinB_append]
        simp [joinB]
      have hlen2 : (l ++ joinB (xs.take i)).length + xs[i].size ≤ 1073741824 := by
        have e := congrArg List.length (congrArg joinB (List.take_append_drop (i + 1) xs))
        rw [joinB_append, hstep] at e
        have := HLE.out
        have es : xs[i].data.toList.length = xs[i].size := Array.length_toList
        simp only [List.length_append] at e ⊢
        omega
      have hbl : B ≤ b ∧ b < wr.heap.size := by rcases hw with ⟨hx0, _, hx, _⟩ | ⟨hx0, _, hx, _⟩ <;> exact ⟨hx0, lt_of_block hx⟩
      have C := hide (writeStringW B b vv _ xs[i] wr w0 hw hlen2 (by omega) hk hw0)
      rw [List.append_assoc, ← hstep] at C
      have HB := hide hb
      generalize xs[i] = u at *
      clear hw hk hb gg hstep hlen2
      go_wp2_with fail
      refine C.out.mono ?_
      rintro e W2 ⟨rfl, hw2, hk2, hb2⟩
      have HW2 := hide hw2
      have HK2 := hide hk2
      have HB2 := hide (HB.out.trans hb2)
      clear hw2 hk2 hb2
      go_wp2
      go_roundw
      case rel => exact ⟨i + 1, by go_num, by omega, HW2.out, HK2.out, HB2.out⟩
      case measure => simp [intOf]; omega
    · have he : xs.take i = xs := List.take_of_length_le (by rw [← HN.out]; omega)
      rw [he] at hw
      have HW2 := hide hw
      have HK2 := hide hk
      have HB2 := hide hb
      clear hw hk hb he
      go_wp2
      go_end0
      exact ⟨rfl, HW2.out, HK2.out, HB2.out⟩
end Go.Proofs.YtlhhgenpcjjajaaGreatDoor
namespace Go.Proofs.YtlhhgenpcjjajaaGreatDoor
open Go.RowKit
theorem replaceK_len (old new : List UInt8) : ∀ (k : Nat) (s : List UInt8), (Lib.replaceK old new k s).length ≤ s.length + k * new.length
  | 0, s => by simp [Lib.replaceK]
  | k + 1, s => by
    unfold Lib.replaceK
    split
    · omega
    · have := replaceK_len old new k (s.drop ((Lib.index s old).toNat + old.length))
      simp only [List.length_append, List.length_take, List.length_drop] at this ⊢
      have e : (k + 1) * new.length = k * new.length + new.length := by rw [Nat.add_mul]; simp
      omega
def rep (s old new : ByteArray) : ByteArray := ⟨(Lib.replaceAll s.data.toList old.data.toList new.data.toList).toArray⟩
theorem rep_size (s old new : ByteArray) : (rep s old new).size ≤ s.size + (s.size + 1) * new.size := by
  have e : (rep s old new).size = (Lib.replaceAll s.data.toList old.data.toList new.data.toList).length := by
    show (List.toArray _).size = _
    simp
  rw [e]
  have e1 : s.data.toList.length = s.size := Array.length_toList
  have e2 : new.data.toList.length = new.size := Array.length_toList
  unfold Lib.replaceAll Lib.replace
  split
  · rw [e1]; omega
  · have h1 := replaceK_len old.data.toList new.data.toList (Lib.replaceNum s.data.toList old.data.toList (-1)) s.data.toList
    have h2 : Lib.replaceNum s.data.toList old.data.toList (-1) ≤ s.size + 1 := by
      unfold Lib.replaceNum
      rw [if_pos (.inl (by decide))]
      have := Lib.count_le s.data.toList old.data.toList
      omega
    have h3 := Nat.mul_le_mul_right new.size h2
    rw [e1, e2] at h1
    omega
def GlW (w : World) : Prop := (∃ m, w.cell? ⟨3, 0, none⟩ = some (.int .i64 m)) ∧ 3 < w.heap.size
theorem GlW.kept {w w' : World} (h : GlW w) (hk : Kept [] w w') : GlW w' := by
  obtain ⟨⟨m, hm⟩, hl⟩ := h
  exact ⟨⟨m, (hk.cell (p := ⟨3, 0, none⟩) hl (by simp)).trans hm⟩, Nat.lt_of_lt_of_le hl hk.size⟩
theorem kept_below {w w' : World} (h : Below w.heap.size w w') : Kept [] w w' := ⟨h.os, h.tape, h.output, h.size, fun k hk _ => h.block k hk⟩
theorem rep_ok (s old new : ByteArray) (w : World) (hg : GlW w) (hs : s.size ≤ 1048576) (h1 : 1 ≤ old.size) (hn : new.size ≤ 16) :
    Calls Tryz.prog 251 #[.string s, .string old, .string new] w fun e w' => e = .returned (.string (rep s old new)) ∧ Kept [] w w' := by
  obtain ⟨⟨m, hm⟩, _⟩ := hg
  have hc := Lib.countB_le old h1 s.size s (Nat.le_refl _)
  refine (Tryz.strings_ReplaceAll s old new m w (by omega) hm h1 ?_).mono ?_
  · have := Nat.mul_le_mul hc hn
    omega
  · rintro e w' ⟨rfl, hb⟩
    exact ⟨rfl, kept_below hb⟩
def escd (s : ByteArray) : ByteArray := rep (rep s ⟨#[38]⟩ ⟨#[38, 97, 109, 112, 59]⟩) ⟨#[194, 160]⟩ ⟨#[38, 110, 98, 115, 112, 59]⟩
theorem escd_size (s : ByteArray) (h : s.size ≤ 1024) : (escd s).size ≤ 43049 := by
  have h1 := rep_size s ⟨#[38]⟩ ⟨#[38, 97, 109, 112, 59]⟩
  have h2 := rep_size (rep s ⟨#[38]⟩ ⟨#[38, 97, 109, 112, 59]⟩) ⟨#[194, 160]⟩ ⟨#[38, 110, 98, 115, 112, 59]⟩
  have e1 : (⟨#[38, 97, 109, 112, 59]⟩ : ByteArray).size = 5 := rfl
  have e2 : (⟨#[38, 110, 98, 115, 112, 59]⟩ : ByteArray).size = 6 := rfl
  rw [e1] at h1
  rw [e2] at h2
  unfold escd
  omega
set_option maxHeartbeats 1000000 in
theorem escaped_ok (s : ByteArray) (w : World) (hg : GlW w) (hs : s.size ≤ 1024) :
    Calls Tryz.prog 420 #[.string s] w fun e w' => e = .returned (.string (escd s)) ∧ Kept [] w w' := by
  have C1 := hide (rep_ok s ⟨#[38]⟩ ⟨#[38, 97, 109, 112, 59]⟩ w hg (by omega) (by decide) (by decide))
  have hz : (rep s ⟨#[38]⟩ ⟨#[38, 97, 109, 112, 59]⟩).size ≤ 6149 := by
    have h1 := rep_size s ⟨#[38]⟩ ⟨#[38, 97, 109, 112, 59]⟩
    have e1 : (⟨#[38, 97, 109, 112, 59]⟩ : ByteArray).size = 5 := rfl
    rw [e1] at h1
    omega
  have C2 := hide (fun w' (hk : Kept [] w w') => rep_ok (rep s ⟨#[38]⟩ ⟨#[38, 97, 109, 112, 59]⟩) ⟨#[194, 160]⟩ ⟨#[38, 110, 98, 115, 112, 59]⟩ w' (hg.kept hk) (by omega) (by decide) (by decide))
  rw [show rep (rep s ⟨#[38]⟩ ⟨#[38, 97, 109, 112, 59]⟩) ⟨#[194, 160]⟩ ⟨#[38, 110, 98, 115, 112, 59]⟩ = escd s from rfl] at C2
  clear hg hz
  generalize rep s ⟨#[38]⟩ ⟨#[38, 97, 109, 112, 59]⟩ = u at *
  generalize escd s = v at *
  go_enter Tryz.func420, Tryz.ntmps420
  go_wp2_with fail
  refine C1.out.mono ?_
  rintro e w1 ⟨rfl, hk1⟩
  have C3 := hide (C2.out w1 hk1)
  have HK1 := hide hk1
  clear hk1 C2
  go_wp2_with fail
  refine C3.out.mono ?_
  rintro e w2 ⟨rfl, hk2⟩
  have HK2 := hide (HK1.out.trans hk2)
  clear hk2
  go_wp2
  go_ret
  exact ⟨rfl, HK2.out⟩
def escT (s : ByteArray) : ByteArray := rep (rep (escd s) ⟨#[60]⟩ ⟨#[38, 108, 116, 59]⟩) ⟨#[62]⟩ ⟨#[38, 103, 116, 59]⟩
theorem escT_size (s : ByteArray) (h : s.size ≤ 1024) : (escT s).size ≤ 1076249 := by
  have h0 := escd_size s h
  have h1 := rep_size (escd s) ⟨#[60]⟩ ⟨#[38, 108, 116, 59]⟩
  have h2 := rep_size (rep (escd s) ⟨#[60]⟩ ⟨#[38, 108, 116, 59]⟩) ⟨#[62]⟩ ⟨#[38, 103, 116, 59]⟩
  have e1 : (⟨#[38, 108, 116, 59]⟩ : ByteArray).size = 4 := rfl
  have e2 : (⟨#[38, 103, 116, 59]⟩ : ByteArray).size = 4 := rfl
  rw [e1] at h1
  rw [e2] at h2
  unfold escT
  omega
theorem Wt.cells {w : World} {B b : Nat} {vv : Value} {l : List UInt8} (h : Wt w B b vv l) : ∃ p v, w.heap[b]? = some (.cells #[p, v, vv, .bool false] 100 (0, 0)) ∧ B ≤ b := by
  rcases h with ⟨h0, v, h1, _⟩ | ⟨h0, v, h1, _⟩
  · exact ⟨_, _, h1, h0⟩
  · exact ⟨_, _, h1, h0⟩
set_option maxRecDepth 100000 in
set_option maxHeartbeats 2000000 in
theorem wText (B b : Nat) (vv : Value) (l : List UInt8) (s : ByteArray) (w w0 : World) (h : Wt w B b vv l) (hg : GlW w0) (hs : s.size ≤ 1024) (hlen : l.length + 1076249 ≤ 1073741824) (hk0 : Kept [] w0 w) (hw0 : w0.heap.size ≤ B) :
    Calls Tryz.prog 448 #[.pointer (some ⟨b, 0, none⟩), .string s] w fun e w' => e = .returned (.tuple #[]) ∧ Wt w' B b vv (l ++ (escT s).data.toList) ∧ Kept [] w0 w' := by
  obtain ⟨p, v, hb, hBb⟩ := h.cells
  have c3 : w.cell? ⟨b, 3, none⟩ = some (.bool false) := by rw [cell_at hb]; rfl
  have hlt := lt_of_block hb
  have z1 := escd_size s hs
  have z3 := escT_size s hs
  have z2 : (rep (escd s) ⟨#[60]⟩ ⟨#[38, 108, 116, 59]⟩).size ≤ 215249 := by
    have h1 := rep_size (escd s) ⟨#[60]⟩ ⟨#[38, 108, 116, 59]⟩
    have e1 : (⟨#[38, 108, 116, 59]⟩ : ByteArray).size = 4 := rfl
    rw [e1] at h1
    omega
  have C1 := hide (escaped_ok s w (hg.kept hk0) hs)
  have C2 := hide (fun w' (hk : Kept [] w w') => rep_ok (escd s) ⟨#[60]⟩ ⟨#[38, 108, 116, 59]⟩ w' ((hg.kept hk0).kept hk) (by omega) (by decide) (by decide))
  have C3 := hide (fun w' (hk : Kept [] w w') => rep_ok (rep (escd s) ⟨#[60]⟩ ⟨#[38, 108, 116, 59]⟩) ⟨#[62]⟩ ⟨#[38, 103, 116, 59]⟩ w' ((hg.kept hk0).kept hk) (by omega) (by decide) (by decide))
  rw [show rep (rep (escd s) ⟨#[60]⟩ ⟨#[38, 108, 116, 59]⟩) ⟨#[62]⟩ ⟨#[38, 103, 116, 59]⟩ = escT s from rfl] at C3
  have C4 := hide (fun w' (hk : Kept [] w w') => writeW B b w'.heap.size 1 vv l [escT s] (w'.alloc (.cells #[.string (escT s)] 9 (0, 0))) w0 (h.kept (hk.alloc _)) (heap_alloc_at w' _) (by simp only [joinB, List.flatMap_cons, List.flatMap_nil, List.append_nil]; rw [show (escT s).data.toList.length = (escT s).size from Array.length_toList]; omega) ((hk0.trans hk).alloc _) hw0 (by simp))
  have ej : joinB [escT s] = (escT s).data.toList := by simp [joinB]
  rw [ej] at C4
  clear h hg hb hk0 z1 z2 z3 ej
  generalize rep (escd s) ⟨#[60]⟩ ⟨#[38, 108, 116, 59]⟩ = u2 at *
  generalize escd s = u1 at *
  generalize escT s = u3 at *
  go_enter Tryz.func448, Tryz.ntmps448
  go_wp2_with fail
  refine C1.out.mono ?_
  rintro e w1 ⟨rfl, hk1⟩
  have D2 := hide (C2.out w1 hk1)
  have HK1 := hide hk1
  clear hk1 C2
  go_wp2_with fail
  refine D2.out.mono ?_
  rintro e w2 ⟨rfl, hk2⟩
  have D3 := hide (C3.out w2 (HK1.out.trans hk2))
  have HK2 := hide (HK1.out.trans hk2)
  clear hk2 C3
  go_wp2_with fail
  refine D3.out.mono ?_
  rintro e w3 ⟨rfl, hk3⟩
  have D4 := hide (C4.out w3 (HK2.out.trans hk3))
  clear hk3 C4
  go_wp2_with fail
  refine D4.out.mono ?_
  rintro e w4 ⟨rfl, h4, h5, _⟩
  have H4 := hide h4
  have H5 := hide h5
  clear h4 h5
  go_wp2
  go_end0
  exact ⟨rfl, H4.out, H5.out⟩
end Go.Proofs.YtlhhgenpcjjajaaGreatDoor
namespace Go.Proofs.YtlhhgenpcjjajaaGreatDoor
open Go.RowKit
theorem Wt.same {w : World} {B b : Nat} {vv : Value} {l : List UInt8} (h : Wt w B b vv l) : w.setCell ⟨b, 3, none⟩ (.bool false) = w := by
  obtain ⟨p, v, hb, _⟩ := h.cells
  exact setCell_same hb 3 _ rfl
set_option maxRecDepth 100000 in
set_option maxHeartbeats 2000000 in
theorem wLeave (B b : Nat) (vv : Value) (l : List UInt8) (s : ByteArray) (w w0 : World) (h : Wt w B b vv l) (hs : s.size ≤ 16) (hlen : l.length + 64 ≤ 1073741824) (hk0 : Kept [] w0 w) (hw0 : w0.heap.size ≤ B) :
    Calls Tryz.prog 418 #[.pointer (some ⟨b, 0, none⟩), .string s] w fun e w' => e = .returned (.tuple #[]) ∧ Wt w' B b vv (l ++ joinB [⟨#[60, 47]⟩, s, ⟨#[62]⟩]) ∧ Kept [] w0 w' := by
  obtain ⟨p, v, hb, hBb⟩ := h.cells
  have c3 : w.cell? ⟨b, 3, none⟩ = some (.bool false) := by rw [cell_at hb]; rfl
  have f3 := free_at hb 3
  have hlt := lt_of_block hb
  have HSm := hide h.same
  have ez : (joinB [⟨#[60, 47]⟩, s, ⟨#[62]⟩]).length = s.size + 3 := by
    simp only [joinB, List.flatMap_cons, List.flatMap_nil, List.append_nil, List.length_append]
    rw [show s.data.toList.length = s.size from Array.length_toList]
    simp
    omega
  have C4 := hide (writeW B b w.heap.size 3 vv l [⟨#[60, 47]⟩, s, ⟨#[62]⟩] (w.alloc (.cells #[.string ⟨#[60, 47]⟩, .string s, .string ⟨#[62]⟩] 9 (0, 0))) w0 (h.kept ((Kept.refl [] w).alloc _)) (heap_alloc_at w _) (by rw [ez]; omega) (hk0.alloc _) hw0 (by simp))
  generalize joinB [⟨#[60, 47]⟩, s, ⟨#[62]⟩] = J at *
  clear h hb hk0 ez
  go_enter Tryz.func418, Tryz.ntmps418
  go_wp2_with fail
  rw [HSm.out]
  refine C4.out.mono ?_
  rintro e w4 ⟨rfl, h4, h5, _⟩
  have H4 := hide h4
  have H5 := hide h5
  clear h4 h5
  go_wp2
  go_end0
  exact ⟨rfl, H4.out, H5.out⟩
def AskW (w0 : World) (vv : Value) (q : ByteArray → Bool) : Prop := ∃ k lb, vv = .func (.func k) #[] lb ∧ (∀ args w, (callFunc k args).run Tryz.prog w = .ok (.enter k args) w) ∧ ∀ W, Kept [] w0 W → ∀ s, Calls Tryz.prog k (#[.string s] ++ lb) W fun e W' => e = .returned (.bool (q s)) ∧ W' = W
set_option maxRecDepth 100000 in
set_option maxHeartbeats 4000000 in
theorem wEnter (B b : Nat) (vv : Value) (vd : ByteArray → Bool) (l : List UInt8) (s : ByteArray) (av : Value) (w w0 : World) (h : Wt w B b vv l) (hv : AskW w0 vv vd) (hs : s.size ≤ 16) (hst : (s.toList == [115, 116, 121, 108, 101]) = false) (hA : AtrA w av []) (hlen : l.length + 64 ≤ 1073741824) (hk0 : Kept [] w0 w) (hw0 : w0.heap.size ≤ B) :
    Calls Tryz.prog 417 #[.pointer (some ⟨b, 0, none⟩), .string s, av] w fun e w' => e = .returned (.bool (!vd s)) ∧ Wt w' B b vv (l ++ joinB [⟨#[60]⟩, s] ++ joinB [⟨#[62]⟩]) ∧ Kept [] w0 w' := by
  obtain ⟨kv, lb, rfl, hcf, hcall⟩ := hv
  obtain ⟨ao, cp, hav⟩ := owns_shape hA
  have hav2 : av = .slice ao 0 cp := hav
  subst hav2
  have ez : (joinB [⟨#[60]⟩, s]).length = s.size + 1 := by
    simp only [joinB, List.flatMap_cons, List.flatMap_nil, List.append_nil, List.length_append]
    rw [show s.data.toList.length = s.size from Array.length_toList]
    simp
    omega
  have ez2 : (joinB [⟨#[62]⟩]).length = 1 := rfl
  have C1 := hide (writeW B b w.heap.size 2 _ l [⟨#[60]⟩, s] (w.alloc (.cells #[.string ⟨#[60]⟩, .string s] 9 (0, 0))) w0 (h.kept ((Kept.refl [] w).alloc _)) (heap_alloc_at w _) (by rw [ez]; omega) (hk0.alloc _) hw0 (by simp))
  have C2 := hide (fun w' (hw : Wt w' B b (.func (.func kv) #[] lb) (l ++ joinB [⟨#[60]⟩, s])) (hk : Kept [] w0 w') => writeW B b w'.heap.size 1 _ _ [⟨#[62]⟩] (w'.alloc (.cells #[.string ⟨#[62]⟩] 9 (0, 0))) w0 (hw.kept ((Kept.refl [] w').alloc _)) (heap_alloc_at w' _) (by rw [List.length_append, ez, ez2]; omega) (hk.alloc _) hw0 (by simp))
  have HC := hide hcall
  generalize joinB [⟨#[60]⟩, s] = J1 at *
  generalize joinB [⟨#[62]⟩] = J2 at *
  clear h hk0 ez ez2 hcall hA hav
  go_enter Tryz.func417, Tryz.ntmps417
  go_wp2_with fail
  refine C1.out.mono ?_
  rintro e w1 ⟨rfl, h1, k1, _⟩
  have D2 := hide (C2.out w1 h1 k1)
  clear h1 k1 C2
  go_wp2_with fail
  refine wp_loop_rounds 1 ?_
  rw [rounds_succ]
  go_wp2_with fail
  refine D2.out.mono ?_
  rintro e w2 ⟨rfl, h2, k2, _⟩
  obtain ⟨p, v, hb, hBb⟩ := h2.cells
  have c3 : w2.cell? ⟨b, 3, none⟩ = some (.bool false) := by rw [cell_at hb]; rfl
  have c2 : w2.cell? ⟨b, 2, none⟩ = some (.func (.func kv) #[] lb) := by rw [cell_at hb]; rfl
  have f3 := free_at hb 3
  have hlt := lt_of_block hb
  have HSm := hide h2.same
  have D3 := hide (HC.out w2 k2 s)
  have H2 := hide h2
  have K2 := hide k2
  clear h2 k2 hb HC
  generalize hq : vd s = q at D3
  have HQ := hide hq
  clear hq
  go_wp2_with fail
  rw [HSm.out]
  refine D3.out.mono ?_
  rintro e w3 ⟨rfl, rfl⟩
  go_wp2
  go_ret
  exact ⟨by rw [HQ.out]; rfl, H2.out, K2.out⟩
def plainEv : Ev → Bool
  | .dt _ => false
  | .cm _ => false
  | .tx s => decide (s.size ≤ 1024)
  | .enter s ats => ats.isEmpty && decide (s.size ≤ 16) && !(s.toList == [115, 116, 121, 108, 101])
  | .leave s => decide (s.size ≤ 16)
def wgt : Ev → Nat
  | .tx _ => 1076249
  | _ => 64
def wgts (es : List Ev) : Nat := (es.map wgt).sum
theorem wgts_snoc (es : List Ev) (e : Ev) : wgts (es ++ [e]) = wgts es + wgt e := by simp [wgts]
theorem wgts_pre {a b : List Ev} (h : a <+: b) : wgts a ≤ wgts b := by
  obtain ⟨r, rfl⟩ := h
  simp [wgts]
def isTag : Ev → Bool
  | .tx _ => false
  | _ => true
theorem writer_vis (B b : Nat) (vv : Value) (vd : ByteArray → Bool) (tot : List Ev) (w0 : World) (hv : AskW w0 vv vd) (hg : GlW w0) (hw0 : w0.heap.size ≤ B) (ht : ∀ e ∈ tot, plainEv e = true) (hw : wgts tot ≤ 1073741824) :
    Vis 88 (.pointer (some ⟨b, 0, none⟩)) vd tot w0 (fun pre W => ∃ l, Wt W B b vv l ∧ l.length ≤ wgts pre ∧ (pre.any isTag = true → l ≠ [])) := by
  have last : ∀ {pre ev}, pre ++ [ev] <+: tot → plainEv ev = true ∧ wgts pre + wgt ev ≤ 1073741824 := by
    intro pre ev h
    refine ⟨ht ev (h.subset (by simp)), ?_⟩
    have := wgts_pre h
    rw [wgts_snoc] at this
    omega
  refine { mono := ?_, dt := fun s => ?_, cm := fun s => ?_, tx := fun s => ?_, leave := fun s => ?_, enter := ?_ }
  · rintro pre W W' ⟨l, h1, h2⟩ hk
    exact ⟨l, h1.kept hk, h2⟩
  · refine ⟨447, .pointer (some ⟨b, 0, none⟩), fun w => by kernel_rfl, fun w => by kernel_rfl, enters_of Tryz.func447 (by kernel_rfl) rfl, fun pre W hK hJ hp => ?_⟩
    have := (last hp).1
    simp [plainEv] at this
  · refine ⟨416, .pointer (some ⟨b, 0, none⟩), fun w => by kernel_rfl, fun w => by kernel_rfl, enters_of Tryz.func416 (by kernel_rfl) rfl, fun pre W hK hJ hp => ?_⟩
    have := (last hp).1
    simp [plainEv] at this
  · refine ⟨448, .pointer (some ⟨b, 0, none⟩), fun w => by kernel_rfl, fun w => by kernel_rfl, enters_of Tryz.func448 (by kernel_rfl) rfl, fun pre W hK hJ hp => ?_⟩
    obtain ⟨h1, h2⟩ := last hp
    simp only [plainEv, decide_eq_true_eq, wgt] at h1 h2
    obtain ⟨l, hl, hz, hne⟩ := hJ
    refine (wText B b vv l s W w0 hl hg h1 (by omega) hK hw0).mono ?_
    rintro e W' ⟨rfl, h3, h4⟩
    refine ⟨rfl, ⟨_, h3, ?_, ?_⟩, h4⟩
    · rw [wgts_snoc, List.length_append, show (escT s).data.toList.length = (escT s).size from Array.length_toList]
      have := escT_size s h1
      simp only [wgt]
      omega
    · intro h
      rw [List.any_append] at h
      have h7 : pre.any isTag = true := by simpa [isTag] using h
      have := hne h7
      intro e
      exact this (List.append_eq_nil_iff.1 e).1
  · refine ⟨418, .pointer (some ⟨b, 0, none⟩), fun w => by kernel_rfl, fun w => by kernel_rfl, enters_of Tryz.func418 (by kernel_rfl) rfl, fun pre W hK hJ hp => ?_⟩
    obtain ⟨h1, h2⟩ := last hp
    simp only [plainEv, decide_eq_true_eq, wgt] at h1 h2
    obtain ⟨l, hl, hz, hne⟩ := hJ
    refine (wLeave B b vv l s W w0 hl h1 (by omega) hK hw0).mono ?_
    rintro e W' ⟨rfl, h3, h4⟩
    refine ⟨rfl, ⟨_, h3, ?_, ?_⟩, h4⟩
    · rw [wgts_snoc, List.length_append]
      have : (joinB [⟨#[60, 47]⟩, s, ⟨#[62]⟩]).length = s.size + 3 := by
        simp only [joinB, List.flatMap_cons, List.flatMap_nil, List.append_nil, List.length_append]
        rw [show s.data.toList.length = s.size from Array.length_toList]
        simp
        omega
      simp only [wgt]
      omega
    · intro _
      simp [joinB]
  · refine ⟨417, .pointer (some ⟨b, 0, none⟩), fun w => by kernel_rfl, fun w => by kernel_rfl, enters_of Tryz.func417 (by kernel_rfl) rfl, fun pre W s av ats hK hJ hp hA hal => ?_⟩
    obtain ⟨h1, h2⟩ := last hp
    simp only [plainEv, Bool.and_eq_true, decide_eq_true_eq, List.isEmpty_iff, Bool.not_eq_true', wgt] at h1 h2
    obtain ⟨⟨rfl, h5⟩, h6⟩ := h1
    obtain ⟨l, hl, hz, hne⟩ := hJ
    refine (wEnter B b vv vd l s av W w0 hl hv h5 h6 hA (by omega) hK hw0).mono ?_
    rintro e W' ⟨rfl, h3, h4⟩
    refine ⟨rfl, ⟨_, h3, ?_, ?_⟩, h4⟩
    · rw [wgts_snoc, List.length_append, List.length_append]
      have e1 : (joinB [⟨#[60]⟩, s]).length = s.size + 1 := by
        simp only [joinB, List.flatMap_cons, List.flatMap_nil, List.append_nil, List.length_append]
        rw [show s.data.toList.length = s.size from Array.length_toList]
        simp
        omega
      have e2 : (joinB [⟨#[62]⟩]).length = 1 := rfl
      simp only [wgt]
      omega
    · intro _
      simp [joinB]
end Go.Proofs.YtlhhgenpcjjajaaGreatDoor
namespace Go.Proofs.YtlhhgenpcjjajaaGreatDoor
open Go.RowKit
attribute [local go_sem] Oper.semAt_some
def PCl (w : World) (bx : Nat) (c : Array Value) (k : Nat) : Prop := w.heap[bx]? = some (.cells c 76 (0, 0)) ∧ c[8]? = some (.pointer (some ⟨k, 0, none⟩))
theorem PCl.kept {w w' : World} {bx k : Nat} {c : Array Value} (h : PCl w bx c k) (hk : Kept [] w w') : PCl w' bx c k := ⟨hk.at h.1 (by simp), h.2⟩
theorem PCl.doc {w : World} {bx k : Nat} {c : Array Value} (h : PCl w bx c k) : w.cell? ⟨bx, 8, none⟩ = some (.pointer (some ⟨k, 0, none⟩)) := by rw [cell_at h.1, h.2]
set_option maxHeartbeats 1000000 in
theorem hasTree_yes (w : World) (bx k : Nat) (c : Array Value) (h : PCl w bx c k) :
    Calls Tryz.prog 31 #[.pointer (some ⟨bx, 0, none⟩)] w fun e w' => e = .returned (.bool true) ∧ w' = w := by
  have c8 := h.doc
  have hlt := lt_of_block h.1
  clear h
  go_enter Tryz.func31, Tryz.ntmps31
  go_wp2
  go_ret
  exact ⟨rfl, rfl⟩
set_option maxHeartbeats 1000000 in
theorem items_val (w : World) (bx : Nat) :
    Calls Tryz.prog 30 #[.pointer (some ⟨bx, 0, none⟩)] w fun e w' => e = .returned (.func (.func 39) #[.pointer (some ⟨bx, 0, none⟩)] #[]) ∧ w' = w := by
  have hmf : ∀ (fn : Fn) (first cap : Array Value) (w : World), (Instr.makeFunc fn first cap).run Tryz.prog w = .ok (.func fn first cap) w := fun _ _ _ _ => rfl
  go_enter Tryz.func30, Tryz.ntmps30
  go_wp2
  go_ret
  exact ⟨rfl, rfl⟩
set_option maxHeartbeats 1000000 in
theorem itemsEl (l k : Nat) (name : ByteArray) (ats : List (ByteArray × ByteArray)) (ts : List Tn) (w0 : World) (h : IsTn w0 (.el name ats ts) (.el k)) (J : List It → World → Prop) (hY : Rnd l (itemsE (evS (fun _ => false) ts)) w0 J) (hm : ∀ pre W W', J pre W → Kept [] W W' → J pre W') (W : World) (hK : Kept [] w0 W) (hJ : J [] W) :
    Calls Tryz.prog 61 #[.pointer (some ⟨k, 0, none⟩), .func (.yield l) #[] #[]] W fun e W' => e = .returned (.tuple #[]) ∧ J (itemsE (evS (fun _ => false) ts)) W' ∧ Kept [] w0 W' := by
  have kk := (Kept.refl [] W).alloc (.cells #[.func (.yield l) #[] #[], .bool false] 203 (0, 0))
  have hw := heap_alloc_at W (.cells #[.func (.yield l) #[] #[], .bool false] 203 (0, 0))
  have C := hide (visitChildren_ok (walker_vis l W.heap.size _ w0 J hY hm) k name ats ts h rfl _ (hK.trans kk) ⟨hm _ _ _ hJ kk, hw⟩)
  clear h hY hm hK hJ kk hw
  generalize J (itemsE (evS (fun _ => false) ts)) = J' at C ⊢
  go_enter Tryz.func61, Tryz.ntmps61
  go_wp2_with fail
  refine C.out.mono ?_
  rintro e W2 ⟨rfl, ⟨hj, _⟩, hk⟩
  have HJ := hide hj
  have HK := hide hk
  clear hj hk
  go_wp2
  go_end0
  exact ⟨rfl, HJ.out, HK.out⟩
set_option maxHeartbeats 1000000 in
theorem walk_ok (l bx k : Nat) (c : Array Value) (name : ByteArray) (ats : List (ByteArray × ByteArray)) (ts : List Tn) (w0 : World) (hp : PCl w0 bx c k) (h : IsTn w0 (.el name ats ts) (.el k)) (J : List It → World → Prop) (hY : Rnd l (itemsE (evS (fun _ => false) ts)) w0 J) (hm : ∀ pre W W', J pre W → Kept [] W W' → J pre W') (W : World) (hK : Kept [] w0 W) (hJ : J [] W) :
    Calls Tryz.prog 39 #[.pointer (some ⟨bx, 0, none⟩), .func (.yield l) #[] #[]] W fun e W' => e = .returned (.tuple #[]) ∧ J (itemsE (evS (fun _ => false) ts)) W' ∧ Kept [] w0 W' := by
  have C1 := hide (hasTree_yes W bx k c (hp.kept hK))
  have C2 := hide (itemsEl l k name ats ts w0 h J hY hm W hK hJ)
  have c8 := (hp.kept hK).doc
  have hlt := lt_of_block (hp.kept hK).1
  clear hp h hY hm hK hJ
  generalize J (itemsE (evS (fun _ => false) ts)) = J' at C2 ⊢
  go_enter Tryz.func39, Tryz.ntmps39
  go_wp2_with fail
  refine C1.out.mono ?_
  rintro e W2 ⟨rfl, rfl⟩
  go_wp2_with fail
  refine C2.out.mono ?_
  rintro e W3 ⟨rfl, hj, hk⟩
  have HJ := hide hj
  have HK := hide hk
  clear hj hk
  go_wp2
  go_end0
  exact ⟨rfl, HJ.out, HK.out⟩
end Go.Proofs.YtlhhgenpcjjajaaGreatDoor
namespace Go.Proofs.YtlhhgenpcjjajaaGreatDoor
open Go.RowKit
set_option maxRecDepth 100000 in
set_option maxHeartbeats 2000000 in
theorem stringW (B b : Nat) (vv : Value) (l : List UInt8) (w w0 : World) (h : Wt w B b vv l) (h0 : l ≠ []) (hk0 : Kept [] w0 w) (hw0 : w0.heap.size ≤ B) (hlen : l.length ≤ 1073741824) :
    Calls Tryz.prog 43 #[.pointer (some ⟨b, 0, none⟩)] w fun e w' => e = .returned (.string ⟨l.toArray⟩) ∧ Kept [] w0 w' := by
  obtain ⟨p, hB, v, hbk, hown, hne⟩ : ∃ p, WtP w B b vv p l := by
    rcases h with h | h
    · exact ⟨_, h⟩
    · exact ⟨_, h⟩
  have hl0 : l.length ≠ 0 := by simpa using h0
  obtain ⟨g, cap, cur, rfl, hbg, hg, hnc, hcm, hcs, htake⟩ : ∃ g cap cur, v = .slice (some ⟨g, 0, none⟩) l.length cap ∧ B ≤ g ∧ w.heap[g]? = some (.cells cur 5 (0, 0)) ∧ l.length ≤ cap ∧ cap ≤ maxLen ∧ cur.size = cap * 1 ∧ cur.toList.take (l.length * 1) = Lib.byteCells l := by
    rcases hown.2 with ⟨_, hz⟩ | ⟨g, cap, cur, hv, r⟩
    · exact absurd hz hl0
    · exact ⟨g, cap, cur, hv, r⟩
  have c1 : w.drew.cell? ⟨b, 1, none⟩ = some (.slice (some ⟨g, 0, none⟩) l.length cap) := by
    have : w.drew.heap[b]? = some (.cells #[p, .slice (some ⟨g, 0, none⟩) l.length cap, vv, .bool false] 100 (0, 0)) := hbk
    rw [Lib.cell_of_heap this]; rfl
  have hlt := lt_of_block hbk
  have hSD : (Builtin.unsafeSliceData_ #[55] 143 #[.slice (some ⟨g, 0, none⟩) l.length cap]).run Tryz.prog w.drew = .ok (.pointer (some ⟨g, 0, none⟩)) w.drew :=
    Lib.run_unsafeSliceData_row _ _ _ _ _ _ (by omega)
  have hUS : (Builtin.unsafeString_ #[143, 3] 9 #[.pointer (some ⟨g, 0, none⟩), .int .i64 l.length]).run Tryz.prog w.drew = .ok (.string ⟨l.toArray⟩) (w.drew.freeze ⟨g, 0, none⟩ l.length) := by
    refine Lib.run_unsafeString_row w.drew 143 3 9 5 Tryz.underlying143 (by kernel_rfl) g cur.size (by have hg' : w.drew.heap[g]? = some (.cells cur 5 (0, 0)) := hg; simp [World.shape?, hg']) l h0 ?_ ?_ ?_
    · omega
    · omega
    · intro j x hx
      have := hown.cells (g := g) rfl j (.int .u8 x.toNat) (by simp [Lib.byteCells, hx])
      exact this
  have HF : Hid (Kept [] w0 (w.drew.freeze ⟨g, 0, none⟩ l.length)) := hide (kept_below (Lib.below_freeze (Below.drew ⟨hk0.os, hk0.tape, hk0.output, hk0.size, fun k hk => hk0.block k hk (by simp)⟩) (p := ⟨g, 0, none⟩) (by show w0.heap.size ≤ g; omega) _))
  clear hown hne hbk hg htake hcs hcm hnc h hk0
  go_enter Tryz.func43, Tryz.ntmps43
  go_wp2
  go_region
  all_goals (go_wp2; go_ret; exact ⟨rfl, HF.out⟩)
end Go.Proofs.YtlhhgenpcjjajaaGreatDoor
namespace Go.Proofs.YtlhhgenpcjjajaaGreatDoor
open Go.RowKit
theorem Ask.toW {bm : Nat} {v : Value} {q : ByteArray → Bool} {w : World} (h : Ask bm v q w) : AskW w v q := by
  obtain ⟨k, lb, hv, he, ha⟩ := h.call
  exact ⟨k, lb, hv, he, fun W hk s => ha W (.of_kept0 hk) s⟩
set_option maxRecDepth 100000 in
set_option maxHeartbeats 2000000 in
theorem written_ok (w : World) (k : Nat) (name : ByteArray) (ats : List (ByteArray × ByteArray)) (ts : List Tn) (h : IsTn w (.el name ats ts) (.el k)) (hb : Blanks w) (hg : GlW w)
    (hev : ∀ vd, (∀ e ∈ evS vd ts, plainEv e = true) ∧ wgts (evS vd ts) ≤ 1073741824 ∧ (evS vd ts).any isTag = true) :
    Calls Tryz.prog 32 #[.pointer (some ⟨k, 0, none⟩)] w fun e w' => ∃ s, e = .returned (.string s) ∧ Kept [] w w' := by
  have C1 := hide (newClasses_ok w hb)
  have C2 := hide (fun bm W (hm : MapS W bm (encN classL)) => are_Ask bm 1 classL W hm (by decide) class16)
  have HT := hide h
  have HG := hide hg
  have HE := hide hev
  clear h hb hg hev
  go_enter Tryz.func32, Tryz.ntmps32
  go_wp2_with fail
  refine C1.out.mono ?_
  rintro e w1 ⟨bm, rfl, hm, hk1, _⟩
  have D2 := hide (C2.out bm w1 hm)
  have HK1 := hide hk1
  clear hm hk1 C2
  go_wp2_with fail
  refine D2.out.mono ?_
  rintro e w2 ⟨⟨v, rfl, hv⟩, hk2⟩
  have hvw := hv.toW
  obtain ⟨kk, lb, hvv, _⟩ := hv.call
  subst hvv
  have hk12 := HK1.out.trans hk2
  obtain ⟨h1, h2, h3⟩ := HE.out (isC classL 1)
  have kk3 := (Kept.refl [] w2).alloc (.cells #[.pointer none, .slice none 0 0, .func (.func kk) #[] lb, .bool false] 100 (0, 0))
  have hw3 : Wt (w2.alloc (.cells #[.pointer none, .slice none 0 0, .func (.func kk) #[] lb, .bool false] 100 (0, 0))) w2.heap.size w2.heap.size (.func (.func kk) #[] lb) [] := .inl ⟨Nat.le_refl _, _, heap_alloc_at w2 _, World.ownsRow_nil _ _ _ _, by simp [Value.ownBlock]⟩
  have V := writer_vis w2.heap.size w2.heap.size _ _ (evS (isC classL 1) ts) w2 hvw (HG.out.kept hk12) (Nat.le_refl _) h1 h2
  have C3 := hide (visitChildren_ok V k name ats ts (IsTn.kept hk12 HT.out) rfl _ kk3 ⟨[], hw3, Nat.zero_le _, by simp⟩)
  have HK2 := hide hk12
  have H3 := hide h3
  have H2 := hide h2
  clear hv hvw hk2 hk12 h1 h2 h3 kk3 hw3 V D2
  go_wp2_with fail
  refine C3.out.mono ?_
  rintro e w4 ⟨rfl, ⟨l, hl, hz, hne⟩, hk4⟩
  obtain ⟨p, vv, hbk, _⟩ := hl.cells
  have hlt := lt_of_block hbk
  have C4 := hide (stringW _ _ _ l w4 w2 hl (hne H3.out) hk4 (Nat.le_refl _) (Nat.le_trans hz H2.out))
  clear hl hz hne hk4 hbk
  go_wp2_with fail
  refine C4.out.mono ?_
  rintro e w5 ⟨rfl, hk5⟩
  have HK5 := hide (HK2.out.trans hk5)
  clear hk5
  go_wp2
  go_ret
  exact ⟨_, rfl, HK5.out⟩
set_option maxHeartbeats 1000000 in
theorem text_ok (w : World) (bx k : Nat) (c : Array Value) (name : ByteArray) (ats : List (ByteArray × ByteArray)) (ts : List Tn) (hp : PCl w bx c k) (h : IsTn w (.el name ats ts) (.el k)) (hb : Blanks w) (hg : GlW w)
    (hev : ∀ vd, (∀ e ∈ evS vd ts, plainEv e = true) ∧ wgts (evS vd ts) ≤ 1073741824 ∧ (evS vd ts).any isTag = true) :
    Calls Tryz.prog 19 #[.pointer (some ⟨bx, 0, none⟩)] w fun e w' => ∃ s, e = .returned (.string s) ∧ Kept [] w w' := by
  have C1 := hide (hasTree_yes w bx k c hp)
  have C2 := hide (written_ok w k name ats ts h hb hg hev)
  have c8 := hp.doc
  have hlt := lt_of_block hp.1
  clear hp h hb hg hev
  go_enter Tryz.func19, Tryz.ntmps19
  go_wp2_with fail
  refine C1.out.mono ?_
  rintro e w1 ⟨rfl, rfl⟩
  go_wp2_with fail
  refine C2.out.mono ?_
  rintro e w2 ⟨s, rfl, hk⟩
  have HK := hide hk
  clear hk
  go_wp2
  go_ret
  exact ⟨_, rfl, HK.out⟩
end Go.Proofs.YtlhhgenpcjjajaaGreatDoor
