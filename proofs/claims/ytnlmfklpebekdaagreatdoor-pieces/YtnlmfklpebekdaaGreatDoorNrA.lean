import Derived.Test.YtnlmfklpebekdaaGreatDoorCfA
import Derived.Test.YtnlmfklpebekdaaGreatDoorSame
set_option linter.unusedSimpArgs false
set_option linter.unusedVariables false
namespace Go.Proofs.YtnlmfklpebekdaaGreatDoor
open Go.RowKit Go.PlainAid

/-- The places of the characters, and behind them the text's length. -/
def cutOf (s : ByteArray) (i : Nat) : Nat := (ats s s.size ++ [s.size]).getD i 0
theorem aCells_at (s : ByteArray) (i : Nat) (h : i ≤ (csOf s).size) : (aCells s s.size ++ [.int .i64 (s.size : Int)])[i]? = some (.int .i64 (cutOf s i : Int)) := by
  rw [csOf_size] at h
  have e : (aCells s s.size ++ [Value.int .i64 (s.size : Int)]) = (ats s s.size ++ [s.size]).map fun k : Nat => .int .i64 (k : Int) := by unfold aCells; simp
  rw [e, List.getElem?_map]
  have hl : i < (ats s s.size ++ [s.size]).length := by simp; omega
  rw [List.getElem?_eq_getElem hl]
  unfold cutOf
  rw [List.getD_eq_getElem?_getD, List.getElem?_eq_getElem hl]
  rfl
/-- The reader of a text. -/
def rcOf (s : ByteArray) (lim : Int) (av : Value) (b : Nat) : RC := ⟨csOf s, av, lim, .map (some b), 8⟩

set_option maxRecDepth 100000 in
set_option maxHeartbeats 1000000 in
theorem newReader_any (s : ByteArray) (tv : Value) (base : Nat) (lim : Int) (w : World) (ho : w.ownsRow base 5 1 tv s.size (bcells s)) (hs : s.size ≤ 1024) (hg : (∃ m, w.cell? ⟨1, 0, none⟩ = some (.int .i64 m)) ∧ 1 < w.heap.size) :
    Calls Tryz.prog 39 #[tv, .int .i64 lim] w fun e w' => ∃ r b av g cap, e = .returned (.pointer (some ⟨r, 0, none⟩)) ∧ w.heap.size ≤ r ∧ w.heap.size ≤ b ∧ w.heap.size ≤ g ∧ Rd w' r (rcOf s lim av b) 0 0 ∧ Ok w' r (rcOf s lim av b) g cap b 8 (lookL KV) (cutOf s) ∧ Kept [] w w' := by
  obtain ⟨ao, cp, htv⟩ := owns_shape ho
  subst htv
  have HO := hide ho
  have HG := hide hg
  clear ho hg
  go_enter Tryz.func39, Tryz.ntmps39
  go_wp2_with fail
  refine (refsNew_any w).mono ?_
  rintro e w1 ⟨b, rfl, hb, hL, hk1⟩
  have k2 : Kept [] w1 (w1.alloc (.cells #[.string ⟨#[]⟩, .slice none 0 0, .int .i64 0, .int .i64 0, .int .i64 lim, .map (some b), .int .i64 8] 126)) := (Kept.refl _ _).alloc _
  have hR := heap_alloc_at w1 (.cells #[.string ⟨#[]⟩, .slice none 0 0, .int .i64 0, .int .i64 0, .int .i64 lim, .map (some b), .int .i64 8] 126)
  have CF := hide (from_any s (.slice ao s.size cp) base _ ((hk1.trans k2).ownsRow HO.out (fun _ _ => by simp)) hs)
  have HL := hide hL
  have HK2 := hide (hk1.trans k2)
  have HR := hide hR
  have Hb := hide hb
  have HS1 := hide hk1.size
  clear hL hk1 k2 hR hb
  go_wp2_with fail
  refine CF.out.mono ?_
  rintro e w2 ⟨av, rfl, hav, hk2⟩
  have hr2 := hk2.at HR.out (by simp)
  have c0 : w2.cell? ⟨w1.heap.size, 0, none⟩ = some (.string ⟨#[]⟩) := by rw [cell_at hr2]; rfl
  have c1 : w2.cell? ⟨w1.heap.size, 1, none⟩ = some (.slice none 0 0) := by rw [cell_at hr2]; rfl
  have f0 := free_at hr2 0
  have f1 := free_at hr2 1
  obtain ⟨ax, ac, hv⟩ := owns_shape hav
  subst hv
  obtain ⟨wz, hwz⟩ : ∃ wz, wz = (w2.setCell ⟨w1.heap.size, 0, none⟩ (.string (csOf s))).setCell ⟨w1.heap.size, 1, none⟩ (.slice ax ((ats s s.size).length + 1) ac) := ⟨_, rfl⟩
  have kz : Kept [w1.heap.size] w2 wz := by rw [hwz]; exact ((Kept.refl _ _).setCell (.inl (by simp)) _).setCell (.inl (by simp)) _
  have rz : Rd wz w1.heap.size (rcOf s lim (.slice ax ((ats s s.size).length + 1) ac) b) 0 0 := by
    rw [hwz]
    exact block_setCell (block_setCell hr2 0 _) 1 _
  have hb1 : b < w1.heap.size := HL.out.lt
  have hLz : Lk wz b (lookL KV) := ((HL.out.kept ((Kept.refl [] w1).alloc _) (by simp)).kept hk2 (by simp)).kept kz (by simp; omega)
  have hAz : ∃ g cap, w.heap.size ≤ g ∧ Ats wz w1.heap.size (rcOf s lim (.slice ax ((ats s s.size).length + 1) ac) b) g cap (cutOf s) := by
    rcases hav.2 with ⟨_, h0⟩ | ⟨g, cap, cur, h, hbg, hc, _⟩
    · omega
    · have hgw : w1.heap.size < g := by simp at hbg; omega
      refine ⟨g, cap, by have := HS1.out; omega, ?_, by omega, Nat.lt_of_lt_of_le (lt_of_block hc) kz.size, fun i hi => ?_⟩
      · show Value.slice ax _ ac = _
        rw [h]; show Value.slice _ _ _ = Value.slice _ ((csOf s).size + 1) _; rw [csOf_size]
      · rw [kz.cell (p := ⟨g, i, none⟩) (lt_of_block hc) (by simp; omega)]
        have := hav.cells (g := g) (by rw [h]; rfl) i _ (aCells_at s i hi)
        rw [addr_add] at this
        exact this
  obtain ⟨g, cap, hgl, hA⟩ := hAz
  have kwz : Kept [] w wz := (HK2.out.trans hk2).next kz (by simp; exact HS1.out)
  have HF : Hid (∃ r b av g cap, Ending.returned (.pointer (some ⟨w1.heap.size, 0, none⟩)) = .returned (.pointer (some ⟨r, 0, none⟩)) ∧ w.heap.size ≤ r ∧ w.heap.size ≤ b ∧ w.heap.size ≤ g ∧ Rd wz r (rcOf s lim av b) 0 0 ∧ Ok wz r (rcOf s lim av b) g cap b 8 (lookL KV) (cutOf s) ∧ Kept [] w wz) := by
    refine ⟨_, b, _, g, cap, rfl, HS1.out, Hb.out, hgl, rz, ⟨hA, ⟨hLz, by omega, rfl, rfl, by omega⟩, ?_, ?_⟩, kwz⟩
    · obtain ⟨⟨m, hm⟩, hl⟩ := HG.out
      refine ⟨⟨m, ?_⟩, Nat.lt_of_lt_of_le hl kwz.size, ?_⟩
      · rw [kwz.cell (p := ⟨1, 0, none⟩) hl (by simp)]; exact hm
      · have := HS1.out; omega
    · show (csOf s).size ≤ 1024
      rw [csOf_size]; have := ats_len s s.size; omega
  rw [hwz] at HF
  clear hLz rz kz hwz hA kwz hr2 hk2 hav
  go_wp2
  go_ret
  exact HF.out
end Go.Proofs.YtnlmfklpebekdaaGreatDoor

namespace Go.Proofs.YtnlmfklpebekdaaGreatDoor
open Go.RowKit Go.PlainAid

theorem ta_yes {X : TypeId} {fs : Array Field} (hu : Tryz.prog.underlying X = some (.struct fs)) (v : Value) (xT : TypeId) (w : World) : (Instr.typeAssert (.iface X v) xT X true).run Tryz.prog w = .ok (.tuple #[v, .bool true]) w := by
  simp [Instr.typeAssert, run_underlying hu]
theorem ta_no {X T : TypeId} {fs : Array Field} {z : Value} (hu : Tryz.prog.underlying X = some (.struct fs)) (hz : (Tryz.prog.info? X).bind (·.zero) = some z) (hne : T ≠ X) (v : Value) (xT : TypeId) (w : World) : (Instr.typeAssert (.iface T v) xT X true).run Tryz.prog w = .ok (.tuple #[z, .bool false]) w := by
  obtain ⟨i, hi, hz⟩ := Option.bind_eq_some_iff.1 hz
  simp [Instr.typeAssert, run_underlying hu, hne, zeroValue, typeInfo, hi, hz]
set_option maxRecDepth 100000 in
set_option maxHeartbeats 1000000 in
theorem kindOf_any (a b : Int) (v : Value) (kd : Nat) (w : World) (h : IsTok a b v kd) :
    Calls Tryz.prog 41 #[v] w fun e w' => e = .returned (.int .i64 (kd : Int)) ∧ w' = w := by
  match kd, h with
  | 0, h =>
    obtain rfl := h
    have q_Char := fun (v : Value) (xT : TypeId) (w : World) => ta_no (T := 133) (z := .agg #[.int .i64 0, .int .i64 0, .string ⟨#[]⟩]) Tryz.underlying135 (by kernel_rfl) (by decide) v xT w
    have q_StartTag := fun (v : Value) (xT : TypeId) (w : World) => ta_no (T := 133) (z := .agg #[.int .i64 0, .int .i64 0, .string ⟨#[]⟩, .slice none 0 0]) Tryz.underlying140 (by kernel_rfl) (by decide) v xT w
    have q_EndTag := fun (v : Value) (xT : TypeId) (w : World) => ta_no (T := 133) (z := .agg #[.int .i64 0, .int .i64 0, .string ⟨#[]⟩, .slice none 0 0]) Tryz.underlying141 (by kernel_rfl) (by decide) v xT w
    have q_Comment := fun (v : Value) (xT : TypeId) (w : World) => ta_no (T := 133) (z := .agg #[.int .i64 0, .int .i64 0, .string ⟨#[]⟩]) Tryz.underlying142 (by kernel_rfl) (by decide) v xT w
    have q_Doctype := fun (v : Value) (xT : TypeId) (w : World) => ta_no (T := 133) (z := .agg #[.int .i64 0, .int .i64 0, .string ⟨#[]⟩, .bool false]) Tryz.underlying144 (by kernel_rfl) (by decide) v xT w
    have q_Lost := fun (v : Value) (xT : TypeId) (w : World) => ta_no (T := 133) (z := .agg #[.int .i64 0, .int .i64 0]) Tryz.underlying145 (by kernel_rfl) (by decide) v xT w
    go_enter Tryz.func41, Tryz.ntmps41
    go_wp2
    go_ret
    exact ⟨rfl, rfl⟩
  | 1, h =>
    obtain ⟨t, rfl⟩ := h
    have q_Char := fun (v : Value) (xT : TypeId) (w : World) => ta_yes Tryz.underlying135 v xT w
    go_enter Tryz.func41, Tryz.ntmps41
    go_wp2
    go_ret
    exact ⟨rfl, rfl⟩
  | 2, h =>
    obtain ⟨nm, ao, n, cp, rfl⟩ := h
    have q_Char := fun (v : Value) (xT : TypeId) (w : World) => ta_no (T := 140) (z := .agg #[.int .i64 0, .int .i64 0, .string ⟨#[]⟩]) Tryz.underlying135 (by kernel_rfl) (by decide) v xT w
    have q_StartTag := fun (v : Value) (xT : TypeId) (w : World) => ta_yes Tryz.underlying140 v xT w
    go_enter Tryz.func41, Tryz.ntmps41
    go_wp2
    go_ret
    exact ⟨rfl, rfl⟩
  | 3, h =>
    obtain ⟨nm, ao, n, cp, rfl⟩ := h
    have q_Char := fun (v : Value) (xT : TypeId) (w : World) => ta_no (T := 141) (z := .agg #[.int .i64 0, .int .i64 0, .string ⟨#[]⟩]) Tryz.underlying135 (by kernel_rfl) (by decide) v xT w
    have q_StartTag := fun (v : Value) (xT : TypeId) (w : World) => ta_no (T := 141) (z := .agg #[.int .i64 0, .int .i64 0, .string ⟨#[]⟩, .slice none 0 0]) Tryz.underlying140 (by kernel_rfl) (by decide) v xT w
    have q_EndTag := fun (v : Value) (xT : TypeId) (w : World) => ta_yes Tryz.underlying141 v xT w
    go_enter Tryz.func41, Tryz.ntmps41
    go_wp2
    go_ret
    exact ⟨rfl, rfl⟩
  | 4, h =>
    obtain ⟨t, rfl⟩ := h
    have q_Char := fun (v : Value) (xT : TypeId) (w : World) => ta_no (T := 142) (z := .agg #[.int .i64 0, .int .i64 0, .string ⟨#[]⟩]) Tryz.underlying135 (by kernel_rfl) (by decide) v xT w
    have q_StartTag := fun (v : Value) (xT : TypeId) (w : World) => ta_no (T := 142) (z := .agg #[.int .i64 0, .int .i64 0, .string ⟨#[]⟩, .slice none 0 0]) Tryz.underlying140 (by kernel_rfl) (by decide) v xT w
    have q_EndTag := fun (v : Value) (xT : TypeId) (w : World) => ta_no (T := 142) (z := .agg #[.int .i64 0, .int .i64 0, .string ⟨#[]⟩, .slice none 0 0]) Tryz.underlying141 (by kernel_rfl) (by decide) v xT w
    have q_Comment := fun (v : Value) (xT : TypeId) (w : World) => ta_yes Tryz.underlying142 v xT w
    go_enter Tryz.func41, Tryz.ntmps41
    go_wp2
    go_ret
    exact ⟨rfl, rfl⟩
  | 5, h =>
    obtain ⟨nm, qk, rfl⟩ := h
    have q_Char := fun (v : Value) (xT : TypeId) (w : World) => ta_no (T := 144) (z := .agg #[.int .i64 0, .int .i64 0, .string ⟨#[]⟩]) Tryz.underlying135 (by kernel_rfl) (by decide) v xT w
    have q_StartTag := fun (v : Value) (xT : TypeId) (w : World) => ta_no (T := 144) (z := .agg #[.int .i64 0, .int .i64 0, .string ⟨#[]⟩, .slice none 0 0]) Tryz.underlying140 (by kernel_rfl) (by decide) v xT w
    have q_EndTag := fun (v : Value) (xT : TypeId) (w : World) => ta_no (T := 144) (z := .agg #[.int .i64 0, .int .i64 0, .string ⟨#[]⟩, .slice none 0 0]) Tryz.underlying141 (by kernel_rfl) (by decide) v xT w
    have q_Comment := fun (v : Value) (xT : TypeId) (w : World) => ta_no (T := 144) (z := .agg #[.int .i64 0, .int .i64 0, .string ⟨#[]⟩]) Tryz.underlying142 (by kernel_rfl) (by decide) v xT w
    have q_Doctype := fun (v : Value) (xT : TypeId) (w : World) => ta_yes Tryz.underlying144 v xT w
    go_enter Tryz.func41, Tryz.ntmps41
    go_wp2
    go_ret
    exact ⟨rfl, rfl⟩
  | 6, h =>
    obtain rfl := h
    have q_Char := fun (v : Value) (xT : TypeId) (w : World) => ta_no (T := 145) (z := .agg #[.int .i64 0, .int .i64 0, .string ⟨#[]⟩]) Tryz.underlying135 (by kernel_rfl) (by decide) v xT w
    have q_StartTag := fun (v : Value) (xT : TypeId) (w : World) => ta_no (T := 145) (z := .agg #[.int .i64 0, .int .i64 0, .string ⟨#[]⟩, .slice none 0 0]) Tryz.underlying140 (by kernel_rfl) (by decide) v xT w
    have q_EndTag := fun (v : Value) (xT : TypeId) (w : World) => ta_no (T := 145) (z := .agg #[.int .i64 0, .int .i64 0, .string ⟨#[]⟩, .slice none 0 0]) Tryz.underlying141 (by kernel_rfl) (by decide) v xT w
    have q_Comment := fun (v : Value) (xT : TypeId) (w : World) => ta_no (T := 145) (z := .agg #[.int .i64 0, .int .i64 0, .string ⟨#[]⟩]) Tryz.underlying142 (by kernel_rfl) (by decide) v xT w
    have q_Doctype := fun (v : Value) (xT : TypeId) (w : World) => ta_no (T := 145) (z := .agg #[.int .i64 0, .int .i64 0, .string ⟨#[]⟩, .bool false]) Tryz.underlying144 (by kernel_rfl) (by decide) v xT w
    have q_Lost := fun (v : Value) (xT : TypeId) (w : World) => ta_yes Tryz.underlying145 v xT w
    go_enter Tryz.func41, Tryz.ntmps41
    go_wp2
    go_ret
    exact ⟨rfl, rfl⟩

set_option maxRecDepth 100000 in
set_option maxHeartbeats 1000000 in
theorem bytes_any (a b : Int) (w : World) :
    Calls Tryz.prog 164 #[.agg #[.int .i64 a, .int .i64 b]] w fun e w' => e = .returned (.tuple #[.int .i64 a, .int .i64 b]) ∧ Kept [] w w' := by
  go_enter Tryz.func164, Tryz.ntmps164
  go_wp2_with fail
  go_region
  all_goals (try go_wp2)
  all_goals (try go_ret2)
  all_goals exact ⟨rfl, ((Kept.refl [] w).alloc _).drew⟩
set_option maxRecDepth 100000 in
set_option maxHeartbeats 1000000 in
theorem limitOf_any (k : Nat) (w : World) :
    Calls Tryz.prog 38 #[.iface 68 (.pointer (some ⟨k, 0, none⟩))] w fun e w' => e = .returned (.pointer (some ⟨k, 0, none⟩)) ∧ w' = w := by
  have hta : ∀ (v : Value) (xT : TypeId) (w : World), (Instr.typeAssert (.iface 68 v) xT 68 true).run Tryz.prog w = .ok (.tuple #[v, .bool true]) w := fun v xT w => by
    simp [Instr.typeAssert, run_underlying Tryz.underlying68]
  go_enter Tryz.func38, Tryz.ntmps38
  go_wp2
  go_ret
  exact ⟨rfl, rfl⟩
end Go.Proofs.YtnlmfklpebekdaaGreatDoor
