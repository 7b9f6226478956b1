import Derived.Test.YtifhedfigbdgnaaGreatDoorCards
import Derived.Test.YtifhedfigbdgnaaGreatDoorTie
import Derived.Test.YtifhedfigbdgnaaGreatDoorOpen
import Derived.ProofKit
import Derived.OpenShut
import Derived.SizedLaws
import Derived.LaidLaws
import Derived.LaidHandle
import Derived.Deep.Slices
import Derived.Deep.DeepHandedRow
namespace Go.Proofs.YtifhedfigbdgnaaGreatDoor
open Go.ChangeShapes Go.WideShapes Go.ChangeAt Go.RowKit Go.Deep

/-! ### The script, opened -/
theorem choose_def {α : Type} (dflt : α) {n : Nat} {p : Nat → α → Prop} (h : ∀ i, i < n → ∃ x, p i x) : ∃ f : Nat → α, ∀ i, i < n → p i (f i) := by
  classical
  refine ⟨fun i => if hi : i < n then Classical.choose (h i hi) else dflt, fun i hi => ?_⟩
  simp only [dif_pos hi]
  exact Classical.choose_spec (h i hi)

theorem list6 {α : Type} {l : List α} (h : l.length = 6) : ∃ a b c d e f, l = [a, b, c, d, e, f] := by
  match l, h with
  | [a, b, c, d, e, f], _ => exact ⟨a, b, c, d, e, f, rfl⟩

set_option maxRecDepth 100000 in
theorem op_open {H : Type} {enc : TypeId × Value → H} {W : World} {base : Nat} {sp : Nat → Bool} {held : Bool} {n : Nat} {cs : List Value} {x : DataW H × List MemPlace}
    (h : DataW.trod enc Tryz.prog W base sp held n 51 cs = some x) :
    ∃ r : OpRec, cs = [.int .i64 r.kd, .int .i64 r.A, .int .i64 r.B, .int .i64 r.C, .string r.S, .string r.T] ∧
      x.1 = .agg [.lit (.int .i64 r.kd), .lit (.int .i64 r.A), .lit (.int .i64 r.B), .lit (.int .i64 r.C), .lit (.string r.S.data.toList), .lit (.string r.T.data.toList)] ∧ (Lit.int .i64 r.A).wf = true := by
  obtain ⟨xs, m, _, rfl, hl, hlen, hf⟩ := DataW.trod_struct Tryz.underlying51 h
  have c6 : Tryz.prog.cellsOf 51 = 6 := by kernel_rfl
  have ci : Tryz.prog.cellsOf 3 = 1 := by kernel_rfl
  have cst : Tryz.prog.cellsOf 9 = 1 := by kernel_rfl
  rw [c6] at hl
  obtain ⟨v0, v1, v2, v3, v4, v5, rfl⟩ := list6 hl
  obtain ⟨y0, y1, y2, y3, y4, y5, rfl⟩ := list6 (l := xs) hlen
  have g0 : DataW.trod enc Tryz.prog W base sp held m 3 (List.take (Tryz.prog.cellsOf 3) (List.drop 0 [v0, v1, v2, v3, v4, v5])) = some y0 := hf 0 _ rfl
  rw [ci] at g0
  have g1 : DataW.trod enc Tryz.prog W base sp held m 3 (List.take (Tryz.prog.cellsOf 3) (List.drop 1 [v0, v1, v2, v3, v4, v5])) = some y1 := hf 1 _ rfl
  rw [ci] at g1
  have g2 : DataW.trod enc Tryz.prog W base sp held m 3 (List.take (Tryz.prog.cellsOf 3) (List.drop 2 [v0, v1, v2, v3, v4, v5])) = some y2 := hf 2 _ rfl
  rw [ci] at g2
  have g3 : DataW.trod enc Tryz.prog W base sp held m 3 (List.take (Tryz.prog.cellsOf 3) (List.drop 3 [v0, v1, v2, v3, v4, v5])) = some y3 := hf 3 _ rfl
  rw [ci] at g3
  have g4 : DataW.trod enc Tryz.prog W base sp held m 9 (List.take (Tryz.prog.cellsOf 9) (List.drop 4 [v0, v1, v2, v3, v4, v5])) = some y4 := hf 4 _ rfl
  rw [cst] at g4
  have g5 : DataW.trod enc Tryz.prog W base sp held m 9 (List.take (Tryz.prog.cellsOf 9) (List.drop 5 [v0, v1, v2, v3, v4, v5])) = some y5 := hf 5 _ rfl
  rw [cst] at g5
  clear hf h hlen
  obtain ⟨a0, e0, rfl, w0⟩ := DataW.trod_int Tryz.underlying3 g0
  obtain ⟨a1, e1, rfl, w1⟩ := DataW.trod_int Tryz.underlying3 g1
  obtain ⟨a2, e2, rfl, w2⟩ := DataW.trod_int Tryz.underlying3 g2
  obtain ⟨a3, e3, rfl, w3⟩ := DataW.trod_int Tryz.underlying3 g3
  obtain ⟨s4, e4, rfl, w4⟩ := DataW.trod_string Tryz.underlying9 g4
  obtain ⟨s5, e5, rfl, w5⟩ := DataW.trod_string Tryz.underlying9 g5
  simp at e0 e1 e2 e3 e4 e5
  subst e0 e1 e2 e3 e4 e5
  exact ⟨⟨a0, a1, a2, a3, s4, s5⟩, rfl, rfl, w1⟩

theorem weightsAll_mem {H : Type} {P : Program} {e : TypeId} : ∀ {ds : List (DataW H)} {d : DataW H}, d ∈ ds → ∀ x ∈ d.weights P e, x ∈ DataW.weightsAll P e ds
  | d0 :: r, d, hd, x, hx => by
    unfold DataW.weightsAll
    rcases List.mem_cons.1 hd with rfl | hd
    · exact List.mem_append_left _ hx
    · exact List.mem_append_right _ (weightsAll_mem hd x hx)

/-! ### The variables that the row lists -/
theorem own : ownKnob Tryz.prog.godebug = none := by kernel_rfl
theorem lays : laidOutB Tryz.prog = true := by kernel_rfl
theorem g_et : Tryz.prog.globalNamed "errors.errorType" = some 0 := by kernel_rfl
theorem g_row : ((List.range 376).filter fun t => Tryz.prog.rowNamed t [101, 114, 114, 111, 114]) = [110] := by kernel_rfl
theorem g_size : Tryz.prog.types.size = 376 := by kernel_rfl
theorem g_handle : typeHandle Tryz.prog 110 = .pointer (some ⟨4, 110, none⟩) := by kernel_rfl
theorem bytes_op : Tryz.prog.bytesOf 51 = 64 := by kernel_rfl
theorem cells_op : Tryz.prog.cellsOf 51 = 6 := by kernel_rfl

theorem handle_of_laid {W : World} (h : laidMetH Tryz.prog Rows.openedRow.laid W) : errorType W := by
  have h' : laidMet Tryz.prog _ W ∧ handlesMet Tryz.prog [("errors.errorType", Rows.laid_errors_errorType)] W := h
  obtain ⟨name, u, ty, e1, e2, e3, e4, e5⟩ := h'.2 _ (List.mem_singleton.2 rfl)
  have en : name = [101, 114, 114, 111, 114] := (Option.some.inj e1).symm
  subst en
  obtain rfl : u = 231 := Option.some.inj (e2.symm.trans (by kernel_rfl))
  have hm : ty ∈ (List.range 376).filter fun t => Tryz.prog.rowNamed t [101, 114, 114, 111, 114] := List.mem_filter.2 ⟨List.mem_range.2 (by rw [← g_size]; exact e3), e4⟩
  rw [g_row] at hm
  obtain rfl := List.mem_singleton.1 hm
  rw [g_handle] at e5
  have hc := World.var?_cell g_et e5 0
  simp at hc
  exact hc

set_option maxRecDepth 100000 in
/-- What the walks give, for every script and every world that holds the variables. -/
theorem contract (H : Type) (enc : TypeId × Value → H) (W : World) (base : Nat) (args : Array Value) (ds gs : List (DataW H)) (before : List MemPlace)
    (hval : ∀ (j : Nat) t v, Tryz.f3.params[j]? = some t → args[j]? = some v → Value.okWide Tryz.prog W .any base t v)
    (hW : DataW.Whole enc Tryz.prog Tryz.f3.params.toList Rows.openedSpec.vars false W args.toList ds gs before)
    (hsz0 : (DataW.weightsEach Tryz.prog (Tryz.f3.params.toList ++ (OpenSpec.ofChange Rows.openedSpec).bare.plain.varTypes Tryz.prog) (ds ++ gs)).all (· ≤ reachBytes) = true)
    (hL : laidMetH Tryz.prog Rows.openedRow.laid W) :
    Calls Tryz.prog 3 args W fun e W' => ∃ v, e = .returned v ∧ Rows.openedSpec.post enc Tryz.prog Tryz.f3 false true false false W args v W' := by
  have hg := handle_of_laid hL
  have hW' := hW
  obtain ⟨p, q, hA0, hV, rfl, hfz, hnd⟩ := hW
  have hA : DataW.TrodAll enc Tryz.prog W 0 (fun _ => true) true Tryz.f3.params.toList args.toList ds p := hA0
  have hsz : (DataW.weightsEach Tryz.prog (Tryz.f3.params.toList ++ []) (ds ++ gs)).all (· ≤ reachBytes) = true := hsz0
  clear hA0 hsz0
  rw [Tryz.params3] at hA hval hsz
  obtain ⟨v0, d0, rfl, rfl, h0⟩ := trodAll_one hA
  obtain ⟨rfl, rfl⟩ := trodVars_none hV
  obtain ⟨a0, len, cap, rfl⟩ := okWide_slice Tryz.underlying22 (hval 0 22 v0 rfl rfl)
  have h0k := h0
  obtain ⟨fuel, hf⟩ := h0
  simp only [List.append_nil] at hW'
  have hlt : ∀ x ∈ p, x.block < W.heap.size := fun x hx => by simpa using hW'.lt x hx
  have fin : ∀ W' : World, Below W.heap.size W W' → Rows.openedSpec.post enc Tryz.prog Tryz.f3 false true false false W #[.slice a0 len cap] (.bool true) W' := by
    intro W' hb
    refine ⟨_, _, _, [], p, [], hW', ?_, ?_, ?_, hb.frame _, fun h => by cases h⟩
    · exact trodAll_mk1 (shut_bool Tryz.underlying4 true)
    · exact trodAll_mk1 (Below.trod lays (by kernel_rfl) (of_decide_eq_true (by kernel_rfl)) h0k hb hlt)
    · rfl
  rcases open_slice Tryz.underlying22 hf with ⟨hcs, hx⟩ | ⟨a, len', cap', m, n, D, Pl, hcs, _, hl, hm, hmm, hx, hcell⟩
  · simp [Value.cells] at hcs
    obtain ⟨rfl, rfl, rfl⟩ := hcs
    refine (opened_empty none 0 W).mono fun e W' ⟨he, hb⟩ => ?_
    subst he
    exact ⟨_, rfl, fin W' hb⟩
  · simp [Value.cells] at hcs
    obtain ⟨rfl, rfl, rfl⟩ := hcs
    simp only [if_true] at hmm
    subst hmm
    simp only [Prod.mk.injEq] at hx
    obtain ⟨hd, hp⟩ := hx
    by_cases hl0 : len = 0
    · subst hl0
      refine (opened_empty (some a) m W).mono fun e W' ⟨he, hb⟩ => ?_
      subst he
      exact ⟨_, rfl, fin W' hb⟩
    · -- each step, opened
      have hops : ∀ i, i < len → ∃ r : OpRec, W.cells? 0 (a.add (i * 6)) 6 = some [.int .i64 r.kd, .int .i64 r.A, .int .i64 r.B, .int .i64 r.C, .string r.S, .string r.T] ∧
          D i = .agg [.lit (.int .i64 r.kd), .lit (.int .i64 r.A), .lit (.int .i64 r.B), .lit (.int .i64 r.C), .lit (.string r.S.data.toList), .lit (.string r.T.data.toList)] ∧ (Lit.int .i64 r.A).wf = true := by
        intro i hi
        obtain ⟨cs', h1, h2⟩ := hcell i (by omega)
        rw [cells_op] at h1
        obtain ⟨r, rfl, h3, h4⟩ := op_open h2
        exact ⟨r, h1, h3, h4⟩
      obtain ⟨ops, hops⟩ := choose_def ⟨0, 0, 0, 0, ⟨#[]⟩, ⟨#[]⟩⟩ hops
      obtain ⟨b, off, spot⟩ := a
      have hc : ∀ i, i < len → ∀ j, j < 6 → W.cell? ((⟨b, off, spot⟩ : Addr).add (i * 6) |>.add j) = [.int .i64 (ops i).kd, .int .i64 (ops i).A, .int .i64 (ops i).B, .int .i64 (ops i).C, .string (ops i).S, .string (ops i).T][j]? :=
        fun i hi j hj => (World.cells?_some (hops i hi).1).2.2 j hj
      have hspot : spot = none := by
        have := hc 0 (by omega) 0 (by omega)
        simp [Addr.add] at this
        exact World.cell?_spot this
      subst hspot
      have hc' : ∀ i, i < len → ∀ j, j < 6 → W.cell? ⟨b, off + i * 6 + j, none⟩ = [.int .i64 (ops i).kd, .int .i64 (ops i).A, .int .i64 (ops i).B, .int .i64 (ops i).C, .string (ops i).S, .string (ops i).T][j]? := by
        intro i hi j hj
        have := hc i hi j hj
        rw [add_plain, add_plain] at this
        exact this
      have hbW : b < W.heap.size := World.block_lt_of_cell? _ _ (hc' 0 (by omega) 0 (by omega))
      have hreach : len ≤ 140737488351232 := by
        have := sized_slice hsz (j := 0) (t := 22) (e := 51) rfl (by rw [hd]; rfl) Tryz.underlying22
        rw [bytes_op] at this
        simp only [List.length_map, List.length_range, reachBytes] at this
        omega
      have hw : ∀ i, i < len → ∀ x ∈ (D i).weights Tryz.prog 51, x ≤ reachBytes := by
        intro i hi x hx
        have h1 : x ∈ DataW.weightsAll Tryz.prog 51 ((List.range len).map D) := weightsAll_mem (List.mem_map.2 ⟨i, List.mem_range.2 hi, rfl⟩) x hx
        have h2 : x ∈ d0.weights Tryz.prog 22 := by
          rw [hd]
          unfold DataW.weights
          rw [Tryz.underlying22]
          exact List.mem_cons_of_mem _ (List.mem_append_left _ h1)
        have h3 := List.all_eq_true.1 hsz x (DataW.weights_mem_each (j := 0) rfl rfl x h2)
        simpa using h3
      have hst : ∀ i, i < len → (ops i).S.size ≤ 140737488351232 ∧ (ops i).T.size ≤ 140737488351232 := by
        intro i hi
        have hwi := hw i hi
        rw [(hops i hi).2.1] at hwi
        have e : (DataW.agg (H := H) [.lit (.int .i64 (ops i).kd), .lit (.int .i64 (ops i).A), .lit (.int .i64 (ops i).B), .lit (.int .i64 (ops i).C), .lit (.string (ops i).S.data.toList), .lit (.string (ops i).T.data.toList)]).weights Tryz.prog 51 = [(ops i).S.data.toList.length, (ops i).T.data.toList.length] := by
          simp [DataW.weights, DataW.weightsEach, Tryz.underlying51]
        rw [e] at hwi
        have h1 := hwi (ops i).S.data.toList.length (by simp)
        have h2 := hwi (ops i).T.data.toList.length (by simp)
        simp only [Array.length_toList, reachBytes] at h1 h2
        exact ⟨h1, h2⟩
      have hScript : Script W b off len ops :=
        ⟨fun k hk => hc' k hk 0 (by omega), fun k hk => hc' k hk 1 (by omega), fun k hk => hc' k hk 2 (by omega), fun k hk => hc' k hk 3 (by omega), fun k hk => hc' k hk 4 (by omega), fun k hk => hc' k hk 5 (by omega),
          fun k hk => bounds_i64 (hops k hk).2.2, fun k hk => (hst k hk).1, fun k hk => (hst k hk).2⟩
      refine (opened_ok b off len m ops W hScript hreach hbW hg).mono fun e W' ⟨he, hb⟩ => ?_
      subst he
      exact ⟨_, rfl, fin W' hb⟩
end Go.Proofs.YtifhedfigbdgnaaGreatDoor
