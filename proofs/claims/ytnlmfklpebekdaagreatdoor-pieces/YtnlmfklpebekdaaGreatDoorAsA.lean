import Derived.Test.YtnlmfklpebekdaaGreatDoorNrA
import Derived.Test.YtnlmfklpebekdaaGreatDoorTrailed
import Derived.Test.YtnlmfklpebekdaaGreatDoorFind
set_option linter.unusedSimpArgs false
set_option linter.unusedVariables false
namespace Go.Proofs.YtnlmfklpebekdaaGreatDoor
open Go.RowKit Go.PlainAid

theorem ownsRow_set {w : World} {base : Nat} {e : TypeId} {size n cap g j : Nat} {xs : List Value} (h : w.ownsRow base e size (.slice (some ⟨g, 0, none⟩) n cap) n xs) (u : Value) : (w.setCell ⟨g, j, none⟩ u).ownsRow base e size (.slice (some ⟨g, 0, none⟩) n cap) n (xs.set j u) := by
  obtain ⟨h1, h2⟩ := h
  refine ⟨by rw [List.length_set]; exact h1, ?_⟩
  rcases h2 with ⟨h2, _⟩ | ⟨g', cap', cur, hv, hb, hc, h3, h4, h5, h6⟩
  · cases h2
  · simp only [Value.slice.injEq, Option.some.injEq, Addr.mk.injEq, and_true, true_and] at hv
    obtain ⟨rfl, rfl⟩ := hv
    refine .inr ⟨g, cap, cur.setIfInBounds j u, rfl, hb, block_setCell hc j u, h3, h4, by rw [Array.size_setIfInBounds]; exact h5, ?_⟩
    rw [Array.toList_setIfInBounds, List.take_set, h6]

/-- Spans, as cells. -/
def scells (L : List Sp) : List Value := L.flatMap fun p => [.int .i64 p.k, .int .i64 p.a, .int .i64 p.b]
theorem scells_append (L M : List Sp) : scells (L ++ M) = scells L ++ scells M := by unfold scells; rw [List.flatMap_append]
theorem scells_length (L : List Sp) : (scells L).length = L.length * 3 := by
  induction L with
  | nil => rfl
  | cons p L ih => show (Value.int .i64 p.k :: .int .i64 p.a :: .int .i64 p.b :: scells L).length = _; simp [ih]; omega
theorem scells_at (M : List Sp) (l : Sp) (i : Nat) (hi : i < 3) : (scells (M ++ [l]))[M.length * 3 + i]? = [Value.int .i64 l.k, .int .i64 l.a, .int .i64 l.b][i]? := by
  rw [scells_append, List.getElem?_append_right (by rw [scells_length]; omega), scells_length, show M.length * 3 + i - M.length * 3 = i by omega]
  rfl
theorem scells_set (M : List Sp) (l : Sp) (b : Int) : (scells (M ++ [l])).set (M.length * 3 + 2) (.int .i64 b) = scells (M ++ [⟨l.k, l.a, b⟩]) := by
  rw [scells_append, scells_append, List.set_append_right _ _ (by rw [scells_length]; omega), scells_length, show M.length * 3 + 2 - M.length * 3 = 2 by omega]
  rfl
/-- Characters go on with the span of those right ahead of them. -/
def addSp (L : List Sp) (s : Sp) : List Sp := match L.getLast? with
  | some l => if s.k = 1 ∧ l.k = 1 then L.dropLast ++ [⟨l.k, l.a, s.b⟩] else L ++ [s]
  | none => L ++ [s]
theorem addSp_nil (s : Sp) : addSp [] s = [s] := rfl
theorem addSp_yes (M : List Sp) (l s : Sp) (h : s.k = 1 ∧ l.k = 1) : addSp (M ++ [l]) s = M ++ [⟨l.k, l.a, s.b⟩] := by unfold addSp; simp [h]
theorem addSp_no (M : List Sp) (l s : Sp) (h : ¬ (s.k = 1 ∧ l.k = 1)) : addSp (M ++ [l]) s = M ++ [l] ++ [s] := by unfold addSp; simp [h]
theorem addSp_len (L : List Sp) (s : Sp) : (addSp L s).length ≤ L.length + 1 := by
  rcases List.eq_nil_or_concat L with rfl | ⟨M, l, rfl⟩
  · simp [addSp_nil]
  · by_cases h : s.k = 1 ∧ l.k = 1
    · rw [List.concat_eq_append, addSp_yes M l s h]; simp
    · rw [List.concat_eq_append, addSp_no M l s h]; simp
theorem info_span : (Tryz.prog.info? 52).map (fun i => (i.zero, i.size, i.bytes)) = some (some (.agg #[.int .i64 0, .int .i64 0, .int .i64 0]), 3, 24) := by kernel_rfl

def AddPost (base : Nat) (w : World) (v : Value) (L : List Sp) (s : Sp) (e : Ending) (w' : World) : Prop :=
  ∃ v', e = .returned v' ∧ w'.ownsRow base 52 3 v' (addSp L s).length (scells (addSp L s)) ∧ Kept v.ownBlock.toList w w'

set_option maxRecDepth 100000 in
set_option maxHeartbeats 2000000 in
theorem addSpan_nil (base : Nat) (v : Value) (s : Sp) (w : World) (ho : w.ownsRow base 52 3 v 0 (scells [])) (hb : base ≤ w.heap.size) :
    Calls Tryz.prog 42 #[v, .agg #[.int .i64 s.k, .int .i64 s.a, .int .i64 s.b]] w fun e w' => AddPost base w v [] s e w' := by
  obtain ⟨i0, hi, hz0, hz1, hz2⟩ := info_parts info_span
  obtain ⟨ao, cp, hv⟩ := owns_shape ho
  subst hv
  obtain ⟨sk, sa, sb⟩ := s
  have hadd : addSp [] ⟨sk, sa, sb⟩ = [] ++ [⟨sk, sa, sb⟩] := addSp_nil _
  simp only
  have HO := hide ho
  have HA := hide hadd
  have kb : Kept [] w (w.alloc (.cells #[.int .i64 sk, .int .i64 sa, .int .i64 sb] 52)) := (Kept.refl _ _).alloc _
  have ob := kb.ownsRow ho (fun _ _ => by simp)
  have HOB := hide ob
  clear hadd ob
  have hlt0 : w.heap.size < w.heap.size + 1 := by omega
  go_enter Tryz.func42, Tryz.ntmps42
  go_wp2_with (at_builtin; refine wpList_append_ownF _ rfl _ _ 26 rfl base 52 i0 (.agg #[.int .i64 0, .int .i64 0, .int .i64 0]) 3 24 Tryz.underlying26 hi hz0 hz1 hz2 rfl (by decide) _ _ _ rfl (HOB.out.alloc _) ⟨w.heap.size + 1, 0, none⟩ 1 1 [.int .i64 sk, .int .i64 sa, .int .i64 sb] rfl ?c1 ?c2 ?c3 ?c4 ?c5 ?c6 ?_)
  case c1 => rfl
  case c2 =>
    intro j u hj
    have hb := heap_alloc_at (w.alloc (.cells #[.int .i64 sk, .int .i64 sa, .int .i64 sb] 52)) (.cells #[.int .i64 sk, .int .i64 sa, .int .i64 sb] 52)
    simp only [World.size_alloc] at hb
    rw [addr_add, cell_at hb]
    match j, hj with
    | 0, hj => simpa using hj
    | 1, hj => simpa using hj
    | 2, hj => simpa using hj
  case c3 => intro u hu; simp at hu; rcases hu with rfl | rfl | rfl <;> rfl
  case c4 => unfold maxLen; omega
  case c5 => omega
  case c6 => simp; omega
  intro v' w3 ho3 hg3 hf3
  have HF : Hid (AddPost base w (.slice ao 0 cp) [] ⟨sk, sa, sb⟩ (.returned v') w3) := by
    refine ⟨v', rfl, ?_, ?_⟩
    · rw [HA.out, scells_append, List.length_append]; exact ho3
    · exact ((Kept.refl _ _).alloc _ |>.alloc _).grown hg3 (fun x hx => .inl (by simp [hx]))
  clear ho3 hg3 hf3
  go_wp2
  go_ret
  exact HF.out

set_option maxRecDepth 100000 in
set_option maxHeartbeats 2000000 in
theorem addSpan_more (base : Nat) (v : Value) (M : List Sp) (l s : Sp) (w : World) (ho : w.ownsRow base 52 3 v (M.length + 1) (scells (M ++ [l]))) (hb : base ≤ w.heap.size) (hM : M.length ≤ 4096) (hno : ¬ (s.k = 1 ∧ l.k = 1)) :
    Calls Tryz.prog 42 #[v, .agg #[.int .i64 s.k, .int .i64 s.a, .int .i64 s.b]] w fun e w' => AddPost base w v (M ++ [l]) s e w' := by
  obtain ⟨i0, hi, hz0, hz1, hz2⟩ := info_parts info_span
  obtain ⟨g, cp, hv⟩ : ∃ g cp, v = .slice (some ⟨g, 0, none⟩) (M.length + 1) cp := by
    rcases ho.2 with ⟨_, h0⟩ | ⟨g, cap, cur, h, _⟩
    · omega
    · exact ⟨g, cap, h⟩
  have hg : g < w.heap.size := by subst hv; exact (ho.lt g rfl).2
  have c0 : w.cell? ⟨g, M.length * 3, none⟩ = some (.int .i64 l.k) := by
    subst hv
    have := ho.cells (g := g) rfl (M.length * 3) _ (by have := scells_at M l 0 (by omega); simpa using this)
    rw [addr_add] at this; exact this
  obtain ⟨ao, hao⟩ : ∃ ao : Option Addr, ao = some ⟨g, 0, none⟩ := ⟨_, rfl⟩
  obtain ⟨sk, sa, sb⟩ := s
  simp only at hno ⊢
  have hadd : addSp (M ++ [l]) ⟨sk, sa, sb⟩ = (M ++ [l]) ++ [⟨sk, sa, sb⟩] := addSp_no M l _ hno
  subst hv
  by_cases hk : sk = 1
  · have hl : ¬ l.k = 1 := fun h => hno ⟨hk, h⟩
    subst hk
    clear hno
    have HO := hide ho
    have HA := hide hadd
    have kb : Kept [] w (w.alloc (.cells #[.int .i64 1, .int .i64 sa, .int .i64 sb] 52)) := (Kept.refl _ _).alloc _
    have ob := kb.ownsRow ho (fun _ _ => by simp)
    have HOB := hide ob
    clear hadd ob
    have hlt0 : w.heap.size < w.heap.size + 1 := by omega
    go_enter Tryz.func42, Tryz.ntmps42
    go_wp2_with (at_builtin; refine wpList_append_ownF _ rfl _ _ 26 rfl base 52 i0 (.agg #[.int .i64 0, .int .i64 0, .int .i64 0]) 3 24 Tryz.underlying26 hi hz0 hz1 hz2 rfl (by decide) _ _ _ rfl (HOB.out.alloc _) ⟨w.heap.size + 1, 0, none⟩ 1 1 [.int .i64 1, .int .i64 sa, .int .i64 sb] rfl ?c1 ?c2 ?c3 ?c4 ?c5 ?c6 ?_)
    case c1 => rfl
    case c2 =>
      intro j u hj
      have hb := heap_alloc_at (w.alloc (.cells #[.int .i64 1, .int .i64 sa, .int .i64 sb] 52)) (.cells #[.int .i64 1, .int .i64 sa, .int .i64 sb] 52)
      simp only [World.size_alloc] at hb
      rw [addr_add, cell_at hb]
      match j, hj with
      | 0, hj => simpa using hj
      | 1, hj => simpa using hj
      | 2, hj => simpa using hj
    case c3 => intro u hu; simp at hu; rcases hu with rfl | rfl | rfl <;> rfl
    case c4 => unfold maxLen; omega
    case c5 => omega
    case c6 => simp; omega
    intro v' w3 ho3 hg3 hf3
    have HF : Hid (AddPost base w (.slice (some ⟨g, 0, none⟩) (M.length + 1) cp) (M ++ [l]) ⟨1, sa, sb⟩ (.returned v') w3) := by
      refine ⟨v', rfl, ?_, ?_⟩
      · rw [HA.out, scells_append, List.length_append]; rw [show (M ++ [l]).length + [(⟨1, sa, sb⟩ : Sp)].length = M.length + 1 + 1 from by simp]; exact ho3
      · exact ((Kept.refl _ _).alloc _ |>.alloc _).grown hg3 (fun x hx => .inl (by simp [hx]))
    clear ho3 hg3 hf3
    go_wp2
    go_ret
    exact HF.out
  · skip
    have HO := hide ho
    have HA := hide hadd
    have kb : Kept [] w (w.alloc (.cells #[.int .i64 sk, .int .i64 sa, .int .i64 sb] 52)) := (Kept.refl _ _).alloc _
    have ob := kb.ownsRow ho (fun _ _ => by simp)
    have HOB := hide ob
    clear hadd ob
    have hlt0 : w.heap.size < w.heap.size + 1 := by omega
    go_enter Tryz.func42, Tryz.ntmps42
    go_wp2_with (at_builtin; refine wpList_append_ownF _ rfl _ _ 26 rfl base 52 i0 (.agg #[.int .i64 0, .int .i64 0, .int .i64 0]) 3 24 Tryz.underlying26 hi hz0 hz1 hz2 rfl (by decide) _ _ _ rfl (HOB.out.alloc _) ⟨w.heap.size + 1, 0, none⟩ 1 1 [.int .i64 sk, .int .i64 sa, .int .i64 sb] rfl ?c1 ?c2 ?c3 ?c4 ?c5 ?c6 ?_)
    case c1 => rfl
    case c2 =>
      intro j u hj
      have hb := heap_alloc_at (w.alloc (.cells #[.int .i64 sk, .int .i64 sa, .int .i64 sb] 52)) (.cells #[.int .i64 sk, .int .i64 sa, .int .i64 sb] 52)
      simp only [World.size_alloc] at hb
      rw [addr_add, cell_at hb]
      match j, hj with
      | 0, hj => simpa using hj
      | 1, hj => simpa using hj
      | 2, hj => simpa using hj
    case c3 => intro u hu; simp at hu; rcases hu with rfl | rfl | rfl <;> rfl
    case c4 => unfold maxLen; omega
    case c5 => omega
    case c6 => simp; omega
    intro v' w3 ho3 hg3 hf3
    have HF : Hid (AddPost base w (.slice (some ⟨g, 0, none⟩) (M.length + 1) cp) (M ++ [l]) ⟨sk, sa, sb⟩ (.returned v') w3) := by
      refine ⟨v', rfl, ?_, ?_⟩
      · rw [HA.out, scells_append, List.length_append]; rw [show (M ++ [l]).length + [(⟨sk, sa, sb⟩ : Sp)].length = M.length + 1 + 1 from by simp]; exact ho3
      · exact ((Kept.refl _ _).alloc _ |>.alloc _).grown hg3 (fun x hx => .inl (by simp [hx]))
    clear ho3 hg3 hf3
    go_wp2
    go_ret
    exact HF.out

set_option maxRecDepth 100000 in
set_option maxHeartbeats 2000000 in
theorem addSpan_join (base : Nat) (v : Value) (M : List Sp) (l s : Sp) (w : World) (ho : w.ownsRow base 52 3 v (M.length + 1) (scells (M ++ [l]))) (hM : M.length ≤ 4096) (hk : s.k = 1) (hl : l.k = 1) :
    Calls Tryz.prog 42 #[v, .agg #[.int .i64 s.k, .int .i64 s.a, .int .i64 s.b]] w fun e w' => AddPost base w v (M ++ [l]) s e w' := by
  obtain ⟨sk, sa, sb⟩ := s
  simp only at hk ⊢
  subst hk
  obtain ⟨g, cp, hv⟩ : ∃ g cp, v = .slice (some ⟨g, 0, none⟩) (M.length + 1) cp := by
    rcases ho.2 with ⟨_, h0⟩ | ⟨g, cap, cur, h, _⟩
    · omega
    · exact ⟨g, cap, h⟩
  subst hv
  have hg : g < w.heap.size := (ho.lt g rfl).2
  have c0 : w.cell? ⟨g, M.length * 3, none⟩ = some (.int .i64 1) := by
    have := ho.cells (g := g) rfl (M.length * 3) _ (by have := scells_at M l 0 (by omega); simpa using this)
    rw [addr_add, hl] at this; exact this
  have c2 : w.cell? ⟨g, M.length * 3 + 2, none⟩ = some (.int .i64 l.b) := by
    have := ho.cells (g := g) rfl (M.length * 3 + 2) _ (by have := scells_at M l 2 (by omega); simpa using this)
    rw [addr_add] at this; exact this
  have f2 : w.frozen? ⟨g, M.length * 3 + 2, none⟩ = false := by
    rcases ho.2 with ⟨h, _⟩ | ⟨g', cap', cur, h, _, hc, _⟩
    · cases h
    · simp only [Value.slice.injEq, Option.some.injEq, Addr.mk.injEq, and_true, true_and] at h
      obtain ⟨rfl, rfl⟩ := h
      exact free_at hc _
  have HF : Hid (AddPost base w (.slice (some ⟨g, 0, none⟩) (M.length + 1) cp) (M ++ [l]) ⟨1, sa, sb⟩ (.returned (.slice (some ⟨g, 0, none⟩) (M.length + 1) cp)) ((w.setCell ⟨g, M.length * 3 + 2, none⟩ (.int .i64 sb)).alloc (.cells #[.int .i64 1, .int .i64 sa, .int .i64 sb] 52))) := by
    refine ⟨_, rfl, ?_, ?_⟩
    · rw [addSp_yes M l _ ⟨rfl, hl⟩]
      have h2 := ownsRow_set (j := M.length * 3 + 2) ho (.int .i64 sb)
      rw [scells_set] at h2
      simpa using h2.alloc _
    · exact ((Kept.refl [g] w).setCell (.inl (by simp)) _).alloc _
  clear ho hl
  go_enter Tryz.func42, Tryz.ntmps42
  go_wp2
  go_ret
  exact HF.out

theorem addSpan_any (base : Nat) (v : Value) (L : List Sp) (s : Sp) (w : World) (ho : w.ownsRow base 52 3 v L.length (scells L)) (hb : base ≤ w.heap.size) (hM : L.length ≤ 4096) :
    Calls Tryz.prog 42 #[v, .agg #[.int .i64 s.k, .int .i64 s.a, .int .i64 s.b]] w fun e w' => AddPost base w v L s e w' := by
  rcases List.eq_nil_or_concat L with rfl | ⟨M, l, rfl⟩
  · exact addSpan_nil base v s w ho hb
  · rw [List.concat_eq_append] at ho hM ⊢
    simp only [List.length_append, List.length_cons, List.length_nil, Nat.zero_add] at ho hM
    by_cases h : s.k = 1 ∧ l.k = 1
    · exact addSpan_join base v M l s w ho (by omega) h.1 h.2
    · exact addSpan_more base v M l s w ho hb (by omega) h
end Go.Proofs.YtnlmfklpebekdaaGreatDoor

namespace Go.Proofs.YtnlmfklpebekdaaGreatDoor
open Go.RowKit Go.PlainAid

theorem rcatch_idle (p q : Addr) (w : World) :
    CallsD Tryz.prog 37 #[.pointer (some p), .pointer (some q)] .returning w fun e u' w' => e = .returned (.tuple #[]) ∧ u' = .returning ∧ w' = w := by
  refine callsD_of_wpS Tryz.func37 rfl fun c₀ cs hu => ?_
  apply wpS_seq
  apply wpS_region
  simp [wpOpsS, go_sem, recoverD, hu, Tryz.ntmps37, Exit.thenS]
  apply wpS_seq
  apply wpS_region
  simp [wpOpsS, go_sem, Exit.thenS]
  refine wpS_cond (t := false) (by simp [Act.eval, Array.replicate]) ?_
  simp only [Bool.false_eq_true, if_false]
  refine wpS_of_wp (wp_skip ?_)
  cases c₀
  simp_all [bodyPostS, results, Tryz.results37]

theorem rcatch_panic (pb qb : Nat) (k : Nat) (w : World) (a : Option Addr) (n c : Nat) (hp : w.cell? ⟨pb, 0, none⟩ = some (.slice a n c)) (hq : w.cell? ⟨qb, 0, none⟩ = some (.pointer none)) (fp : w.frozen? ⟨pb, 0, none⟩ = false) (fq : w.frozen? ⟨qb, 0, none⟩ = false) (hpq : pb ≠ qb) (hqp : qb ≠ pb) :
    CallsD Tryz.prog 37 #[.pointer (some ⟨pb, 0, none⟩), .pointer (some ⟨qb, 0, none⟩)] (.panicking [{ v := .iface 68 (.pointer (some ⟨k, 0, none⟩)), recovered := false }]) w fun e u' w' =>
      e = .returned (.tuple #[]) ∧ u' = .panicking [{ v := .iface 68 (.pointer (some ⟨k, 0, none⟩)), recovered := true }] ∧ w' = (w.setCell ⟨pb, 0, none⟩ (.slice none 0 0)).setCell ⟨qb, 0, none⟩ (.pointer (some ⟨k, 0, none⟩)) := by
  refine callsD_of_wpS Tryz.func37 rfl fun c₀ cs hu => ?_
  apply wpS_seq
  apply wpS_region
  simp [wpOpsS, go_sem, recoverD, hu, Tryz.ntmps37, Exit.thenS]
  have HU := hide hu
  refine wpS_of_wp ?_
  have et : (#[Value.pointer (some ⟨pb, 0, none⟩), Value.pointer (some ⟨qb, 0, none⟩)] ++ ((Array.replicate 6 undef).setIfInBounds 1 (Value.iface 68 (.pointer (some ⟨k, 0, none⟩)))).setIfInBounds 0 (Value.iface 68 (.pointer (some ⟨k, 0, none⟩)))) = #[Value.pointer (some ⟨pb, 0, none⟩), .pointer (some ⟨qb, 0, none⟩), .iface 68 (.pointer (some ⟨k, 0, none⟩)), .iface 68 (.pointer (some ⟨k, 0, none⟩)), undef, undef, undef, undef] := rfl
  rw [et]
  clear hu et
  go_wp2_with fail
  refine (limitOf_any k _).mono ?_
  rintro e w' ⟨rfl, rfl⟩
  go_wp2
  have hu := HU.out
  clear HU
  cases c₀
  simp_all [bodyPostS, results, Tryz.results37]
end Go.Proofs.YtnlmfklpebekdaaGreatDoor
