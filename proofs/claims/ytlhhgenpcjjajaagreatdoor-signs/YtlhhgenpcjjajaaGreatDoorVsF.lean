import Derived.Test.YtlhhgenpcjjajaaGreatDoorSgC
import Derived.Test.YtlhhgenpcjjajaaGreatDoorRlB
import Derived.Deep.RegionWith
import Derived.Deep.CutRange
import Derived.Lib.SliceRun
set_option linter.unusedSimpArgs false
set_option linter.unusedVariables false
namespace Go.Proofs.YtlhhgenpcjjajaaGreatDoor
open Go.RowKit
attribute [local go_sem] Oper.semAt_some
def icells (L : List It) : List Value := L.flatMap fun x => [.int .i64 x.k, .string x.s, .string x.t]
theorem icells_append (L M : List It) : icells (L ++ M) = icells L ++ icells M := List.flatMap_append ..
theorem info_item : (Tryz.prog.info? 57).map (fun i => (i.zero, i.size, i.bytes)) = some (some (.agg #[.int .i64 0, .string ⟨#[]⟩, .string ⟨#[]⟩]), 3, 40) := by kernel_rfl
theorem KW.put {W : World} {l : Nat} {o : Obj} (hl : W.heap[l]? = some o) (ho : o.isCells = false) (o' : Obj) : KW W (W.putObj l o') := by
  intro k c t hk _
  refine (World.putObj_heap_other ?_).trans hk
  rintro rfl
  rw [hl] at hk
  cases hk
  cases ho
theorem KW.trans {A B C : World} (h : KW A B) (k : KW B C) : KW A C := fun i c t hi ht => k i c t (h i c t hi ht) ht
theorem KW.of_kept {A B : World} (h : Kept [] A B) : KW A B := fun i c t hi _ => h.at hi (by simp)
theorem wpIn_itemsLoop {n : Nat} (h1 : 1 ≤ n) {g : Operand} {p : Tmp} {assign body : Code} {Q : Exit → Act → World → Prop} {a : Act} {w : World} {gf : Nat} {recv : Value} (hg : a.eval g = .func (.func gf) #[recv] #[]) (eg : ∀ args w, (callFunc gf args).run Tryz.prog w = .ok (.enter gf args) w)
    (tot : List It) (w0 : World)
    (hcall : ∀ l J W, Rnd l tot w0 J → (∀ pre W W', J pre W → Kept [] W W' → J pre W') → J [] W → Kept [] w0 W → Calls Tryz.prog gf #[recv, .func (.yield l) #[] #[]] W fun e W' => e = .returned (.tuple #[]) ∧ J tot W' ∧ Kept [] w0 W')
    (I : List It → World → Prop) (hIk : ∀ pre W, I pre W → Kept [] w0 W) (hIm : ∀ pre W W', I pre W → Kept [] W W' → I pre W') (hIp : ∀ pre W k r o', w.heap.size ≤ k → W.heap[k]? = some (.loop r) → I pre W → I pre (W.putObj k (.loop o')))
    (h0 : I [] w) (A : It → Act → World → Prop) (hAp : ∀ x a' W k r o', w.heap.size ≤ k → W.heap[k]? = some (.loop r) → A x a' W → A x a' (W.putObj k (.loop o')))
    (hassign : ∀ (l : Nat) (pre : List It) (x : It) (W : World) (K : Act → World → Prop), I pre W → (∀ a' W', Kept [] W W' → A x a' W' → K a' W') →
      assign.wpIn (Fence.wide.inRound l) 3 Tryz.prog (Exit.then K (fun _ _ _ => False)) { tmps := a.tmps.setIfInBounds p x.val, defers := [] } W)
    (hbody : ∀ (l : Nat) (pre : List It) (x : It) (a' : Act) (W : World), I pre W → A x a' W → pre ++ [x] <+: tot → body.wpIn (Fence.wide.inRound l) 3 Tryz.prog (fun e _ W' => e = .normal ∧ I (pre ++ [x]) W' ∧ KW W W' ∧ KeepsOthers W W') a' W)
    (hdone : ∀ (D : Nat) (W : World), w.heap.size ≤ D → I tot W → W.heap[D]? = some (.deferred (some [])) → Q .normal { a with defers := { target := .collected D, args := #[] } :: a.defers } W) :
    (Code.rangeFunc g #[p] assign body).wpIn Fence.wide n Tryz.prog Q a w := by
  refine wpIn_rangeFunc ?_
  intro fn hfn
  obtain ⟨r0, hr0⟩ : ∃ r0 : Loop, r0 = { state := .ready, pending := none, fn := fn, tmps := a.tmps, params := #[p], assign := assign, body := body, defers := w.heap.size } := ⟨_, rfl⟩
  obtain ⟨W1, hW1⟩ : ∃ W1, W1 = (w.alloc (.deferred (some []))).alloc (.loop r0) := ⟨_, rfl⟩
  have kw1 : Kept [] w W1 := by rw [hW1]; exact ((Kept.refl _ _).alloc _).alloc _
  have hD1 : W1.heap[w.heap.size]? = some (.deferred (some [])) := by rw [hW1]; exact (Below.heap_alloc _ _ _ (by simp)).trans (World.alloc_heap_new w _)
  have hL1 : W1.heap[w.heap.size + 1]? = some (.loop r0) := by
    have := World.alloc_heap_new (w.alloc (.deferred (some []))) (.loop r0)
    rw [hW1]; rwa [World.size_alloc] at this
  refine ⟨w.heap.size + 1, [{ target := .collected w.heap.size, args := #[] }], W1, { target := .fn (.func gf) #[], args := #[recv, .func (.yield (w.heap.size + 1)) #[] #[]] }, W1, gf, #[recv, .func (.yield (w.heap.size + 1)) #[] #[]], W1, ?_, ?_, ?_, ?_, fun _ => h1, ?_⟩
  · rw [hW1, hr0]; exact run_enterLoop_outer _ _ _ _ _
  · simp only [resolve, hg]
    simp [go_sem]
  · intro f' _; trivial
  · simp [invoke, go_sem, eg]
  · refine (callsIn_wide.2 (hcall (w.heap.size + 1) (fun pre W => I pre W ∧ W.heap[w.heap.size + 1]? = some (.loop r0) ∧ W.heap[w.heap.size]? = some (.deferred (some []))) W1 ?_ ?_ ⟨hIm _ _ _ h0 kw1, hL1, hD1⟩ (hIk _ _ (hIm _ _ _ h0 kw1)))).mono ?_
    · rintro pre x W hK ⟨hi, hl, hd⟩ hpre
      have hlt : w.heap.size + 1 < W.heap.size := (Array.getElem?_eq_some_iff.1 hl).1
      have hy : (Instr.yield (w.heap.size + 1) #[x.val]).run Tryz.prog W = .ok (.round (w.heap.size + 1) fn (a.tmps.setIfInBounds p x.val) assign body) W := by
        have := run_yield (P := Tryz.prog) (args := #[x.val]) hl (by rw [hr0]; rfl)
        rw [hr0] at this
        simpa using this
      refine ⟨fn, _, assign, body, hy, roundIn_of_wpIn hfn (hassign _ pre x W _ hi ?_)⟩
      intro a' Wa hka hA
      have hla : Wa.heap[w.heap.size + 1]? = some (.loop r0) := (hka.block _ (Array.getElem?_eq_some_iff.1 hl).1 (by simp)).trans hl
      have hda : Wa.heap[w.heap.size]? = some (.deferred (some [])) := (hka.block _ (Array.getElem?_eq_some_iff.1 hd).1 (by simp)).trans hd
      refine ⟨_, run_beginRound hla (by rw [hr0]), ?_⟩
      obtain ⟨W2, hW2⟩ : ∃ W2, W2 = Wa.putObj (w.heap.size + 1) (.loop { r0 with state := .busy }) := ⟨_, rfl⟩
      rw [← hW2]
      have hi2 : I pre W2 := by rw [hW2]; exact hIp _ _ _ _ _ (by omega) hla (hIm _ _ _ hi hka)
      have hA2 : A x a' W2 := by rw [hW2]; exact hAp _ _ _ _ _ _ (by omega) hla hA
      have hl2 : W2.heap[w.heap.size + 1]? = some (.loop { r0 with state := .busy }) := by rw [hW2]; exact World.putObj_heap_same (Array.getElem?_eq_some_iff.1 hla).1
      have hd2 : W2.heap[w.heap.size]? = some (.deferred (some [])) := by rw [hW2]; exact (World.putObj_heap_other (by omega)).trans hda
      have hkw2 : KW W W2 := by rw [hW2]; exact (KW.of_kept hka).trans (KW.put hla rfl _)
      refine wpIn_mono (hbody _ pre x a' W2 hi2 hA2 hpre) ?_
      rintro e a3 W3 ⟨rfl, hi3, hkw3, hko⟩
      have hl3 := hko.same _ _ hl2 rfl
      have hd3 := hko.same _ _ hd2 rfl
      have hend := run_endRound (P := Tryz.prog) none hl3
      have er : ({ ({ r0 with state := .busy } : Loop) with state := if (none : Option Code).isNone then .ready else .done, pending := none } : Loop) = r0 := by rw [hr0]; rfl
      rw [er] at hend
      obtain ⟨W4, hW4⟩ : ∃ W4, W4 = W3.putObj (w.heap.size + 1) (.loop r0) := ⟨_, rfl⟩
      rw [← hW4] at hend
      have hi4 : I (pre ++ [x]) W4 := by rw [hW4]; exact hIp _ _ _ _ _ (by omega) hl3 hi3
      refine ⟨_, _, hend, rfl, ⟨hi4, ?_, ?_⟩, hIk _ _ hi4, ?_⟩
      · rw [hW4]; exact World.putObj_heap_same (Array.getElem?_eq_some_iff.1 hl3).1
      · rw [hW4]; exact (World.putObj_heap_other (by omega)).trans hd3
      · rw [hW4]; exact (hkw2.trans hkw3).trans (KW.put hl3 rfl _)
    · rintro pre W W' ⟨hi, hl, hd⟩ hk
      exact ⟨hIm _ _ _ hi hk, (hk.block _ (Array.getElem?_eq_some_iff.1 hl).1 (by simp)).trans hl, (hk.block _ (Array.getElem?_eq_some_iff.1 hd).1 (by simp)).trans hd⟩
    · rintro e W2 ⟨rfl, ⟨hi, hl, hd⟩, _⟩
      have hend := run_endLoop (P := Tryz.prog) hl (by rw [hr0]; simp)
      have ep : r0.pending = none := by rw [hr0]
      rw [ep] at hend
      exact ⟨none, _, hend, hdone _ _ (Nat.le_refl _) (hIp _ _ _ _ _ (by omega) hl hi) ((World.putObj_heap_other (by omega)).trans hd)⟩
theorem own_put {W : World} {base : Nat} {e : TypeId} {sz n : Nat} {v : Value} {xs : List Value} (h : W.ownsRow base e sz v n xs) {l : Nat} {o : Obj} (hl : W.heap[l]? = some o) (ho : o.isCells = false) (o' : Obj) : (W.putObj l o').ownsRow base e sz v n xs := by
  refine ⟨h.1, ?_⟩
  rcases h.2 with e | ⟨g, cap, cur, e, h1, hc, r⟩
  · exact .inl e
  · refine .inr ⟨g, cap, cur, e, h1, (World.putObj_heap_other ?_).trans hc, r⟩
    rintro rfl
    rw [hl] at hc
    cases hc
    cases ho
theorem kept_put {w W : World} (h : Kept [] w W) {l : Nat} (hl : w.heap.size ≤ l) (o' : Obj) : Kept [] w (W.putObj l o') := by
  have g := grownBy_putObj' W l o'
  exact ⟨g.os.trans h.os, g.tape.trans h.tape, g.output.trans h.output, Nat.le_trans h.size g.size, fun k hk _ => (g.block k (Nat.lt_of_lt_of_le hk h.size) (by intro e; cases e; omega)).trans (h.block k hk (by simp))⟩
set_option maxHeartbeats 2000000 in
theorem list_ok (w : World) (bx k : Nat) (c : Array Value) (name : ByteArray) (ats : List (ByteArray × ByteArray)) (ts : List Tn) (hp : PCl w bx c k) (h : IsTn w (.el name ats ts) (.el k)) (tot : List It) (ht : itemsE (evS (fun _ => false) ts) = tot) (hn : tot.length ≤ 4096) :
    Calls Tryz.prog 18 #[.pointer (some ⟨bx, 0, none⟩)] w fun e w' => ∃ v, e = .returned v ∧ w'.ownsRow w.heap.size 57 3 v tot.length (icells tot) ∧ Kept [] w w' := by
  refine (callsIn_wide (n := 5)).1 ?_
  refine callsIn_of_wp_marks Tryz.func18 rfl trivial ?_ rfl
  simp only [Tryz.ntmps18, List.size_toArray, List.length_cons, List.length_nil, Nat.reduceAdd, Nat.reduceSub, Array.replicate_succ, Array.replicate_zero, List.push_toArray, List.append_toArray, List.nil_append, List.cons_append]
  have HP := hide hp
  have HT := hide h
  have HTT := hide ht
  clear hp h ht
  gi_wp2_with (refine ⟨trivial, ?_⟩; gi_at_call 30; refine (callsIn_wide.2 (items_val _ bx)).mono ?_; rintro e w' ⟨rfl, rfl⟩)
  obtain ⟨w1, hw1⟩ : ∃ w1, w1 = w.alloc (.cells #[.slice none 0 0] 25 (0, 0)) := ⟨_, rfl⟩
  have z1 : w1.heap.size = w.heap.size + 1 := by rw [hw1]; simp
  have k1 : Kept [] w w1 := by rw [hw1]; exact (Kept.refl _ _).alloc _
  have g1 : w1.heap[w.heap.size]? = some (.cells #[.slice none 0 0] 25 (0, 0)) := by rw [hw1]; exact heap_alloc_at w _
  rw [← hw1]
  clear hw1
  obtain ⟨i0, hi, hz0, hz1, hz2⟩ := info_parts info_item
  have HE := hide (enters_of Tryz.func39 (by kernel_rfl) rfl)
  have ht' := HTT.out
  have HC := hide (fun l J W hY hm h0 hK => walk_ok l bx k c name ats ts w HP.out HT.out J (by rw [ht']; exact hY) hm W hK h0)
  rw [ht'] at HC
  clear ht'
  refine wpIn_itemsLoop (by omega) (gf := 39) (recv := .pointer (some ⟨bx, 0, none⟩)) rfl HE.out tot w HC.out
    (fun pre W => ∃ v, W.heap[w.heap.size]? = some (.cells #[v] 25 (0, 0)) ∧ W.ownsRow (w.heap.size + 1) 57 3 v pre.length (icells pre) ∧ Kept [] w W)
    (fun _ _ h => by obtain ⟨_, _, _, h⟩ := h; exact h) ?_ ?_ ⟨_, g1, World.ownsRow_nil _ _ _ _, k1⟩
    (fun x a' W => ∃ X, w.heap.size + 1 ≤ X ∧ W.heap[X]? = some (.cells #[.int .i64 x.k, .string x.s, .string x.t] 57 (0, 0)) ∧ a' = { tmps := #[.pointer (some ⟨bx, 0, none⟩), undef, .slice none 0 0, .pointer (some ⟨w.heap.size, 0, none⟩), .pointer (some ⟨X, 0, none⟩), .pointer (some ⟨bx, 0, none⟩), .func (.func 39) #[.pointer (some ⟨bx, 0, none⟩)] #[], x.val, undef, undef, undef, undef, undef], defers := [] }) ?_ ?assign ?body ?done
  · rintro pre W W' ⟨v, h1, h2, h3⟩ hk
    exact ⟨v, hk.at h1 (by simp), hk.ownsRow h2 (fun _ _ => by simp), h3.trans hk⟩
  · rintro pre W k r o' hk hl ⟨v, h1, h2, h3⟩
    exact ⟨v, (World.putObj_heap_other (by omega)).trans h1, own_put h2 hl rfl _, kept_put h3 (by omega) _⟩
  · rintro x a' W k r o' hk hl ⟨X, h1, h2, h3⟩
    refine ⟨X, h1, (World.putObj_heap_other ?_).trans h2, h3⟩
    rintro rfl
    rw [hl] at h2
    cases h2
  case assign =>
    rintro l pre x W K ⟨v, h1, h2, h3⟩ hK
    have hz := h3.size
    have hB := lt_of_block h1
    gi_wp2
    exact hK _ _ ((Kept.refl [] W).alloc _) ⟨W.heap.size, by omega, heap_alloc_at W _, rfl⟩
  case body =>
    rintro l pre x a' W ⟨v, h1, h2, h3⟩ ⟨X, hX, h4, rfl⟩ hpre
    have hlen : pre.length + 1 ≤ tot.length := by have := hpre.length_le; simpa using this
    have hz := h3.size
    have c1 : W.cell? ⟨w.heap.size, 0, none⟩ = some v := by rw [cell_at h1]; rfl
    have f1 := free_at h1 0
    have x0 : W.cell? ⟨X, 0, none⟩ = some (.int .i64 x.k) := by rw [cell_at h4]; rfl
    have x1 : W.cell? ⟨X, 1, none⟩ = some (.string x.s) := by rw [cell_at h4]; rfl
    have x2 : W.cell? ⟨X, 2, none⟩ = some (.string x.t) := by rw [cell_at h4]; rfl
    obtain ⟨ao, cp, hv⟩ := owns_shape h2
    subst hv
    have HI1 := hide h1
    have HI2 := hide h2
    have HI3 := hide h3
    have HK0 := hide (fun o => (Kept.refl [] W).alloc o)
    have HKO := hide (fun o => KeepsOthers.alloc W o)
    have hBW := lt_of_block h1
    have HB := hide hBW
    have HZ := hide hz
    have HLEN := hide hlen
    have HNN := hide hn
    clear h1 h2 h3 h4 hpre hz hlen hn
    gi_wp2_with (gi_at_builtin; refine wpListIn_append_own _ rfl _ _ 25 rfl (w.heap.size + 1) 57 i0 (.agg #[.int .i64 0, .string ⟨#[]⟩, .string ⟨#[]⟩]) 3 40 Tryz.underlying25 hi hz0 hz1 hz2 rfl (by decide) _ _ _ rfl (HI2.out.alloc _) ⟨W.heap.size, 0, none⟩ 1 1 [.int .i64 x.k, .string x.s, .string x.t] rfl rfl ?c1 ?c2 ?c3 ?c4 ?c5 ?_)
    case c1 =>
      intro j u hj
      have hg := heap_alloc_at W (.cells #[.int .i64 x.k, .string x.s, .string x.t] 57 (0, 0))
      rw [addr_add, cell_at hg]
      match j, hj with
      | 0, hj => exact hj
      | 1, hj => exact hj
      | 2, hj => exact hj
    case c2 =>
      intro u hu
      simp at hu
      rcases hu with rfl | rfl | rfl <;> rfl
    case c3 => have := HLEN.out; have := HNN.out; unfold maxLen; omega
    case c4 => have := HLEN.out; have := HNN.out; omega
    case c5 => have := HB.out; simp; omega
    intro v' w3 ho3 hg3 _
    have hrow : ∀ q, (Value.slice ao pre.length cp).ownBlock = some q → w.heap.size + 1 ≤ q := fun q hq => (HI2.out.lt q hq).1
    have hB3 : w3.heap[w.heap.size]? = some (.cells #[.slice ao pre.length cp] 25 (0, 0)) := by
      rw [hg3.block _ (by have := HB.out; simp; omega) (fun e => by have := hrow _ e.symm; omega)]
      exact (HK0.out _).at HI1.out (by simp)
    have c3 : w3.cell? ⟨w.heap.size, 0, none⟩ = some (.slice ao pre.length cp) := by rw [cell_at hB3]; rfl
    have f3 := free_at hB3 0
    obtain ⟨ao', cp', hv'⟩ := owns_shape ho3
    subst hv'
    have kow : w3.ownsRow (w.heap.size + 1) 57 3 (.slice ao' (pre.length + 1) cp') (pre ++ [x]).length (icells (pre ++ [x])) := by
      have e2 : icells (pre ++ [x]) = icells pre ++ [.int .i64 x.k, .string x.s, .string x.t] := by rw [icells_append]; rfl
      rw [e2, List.length_append]
      exact ho3
    have kw3 : Kept [] w w3 := (HI3.out.alloc _).grown hg3 (fun q hq => .inr (by have := hrow q hq; omega))
    have kwr : KW W w3 := by
      intro q cc tt hq ht
      have hq1 := (HK0.out (.cells #[.int .i64 x.k, .string x.s, .string x.t] 57 (0, 0))).at hq (by simp)
      rw [hg3.block q (lt_of_block hq1) ?_]
      · exact hq1
      · intro e
        rcases HI2.out.2 with ⟨e2, _⟩ | ⟨g, cap', cur, e2, _, hc, _⟩
        · rw [e2] at e; cases e
        · rw [e2] at e
          have e3 := Option.some.inj e
          subst e3
          rw [hq] at hc
          simp at hc
          exact ht (by rw [hc.2]; simp)
    have kof : KeepsOthers W w3 := (HKO.out _).trans (KeepsOthers.of_grownBy hg3 (fun q o hq hqo => by
      rcases (HI2.out.alloc (.cells #[.int .i64 x.k, .string x.s, .string x.t] 57 (0, 0))).2 with ⟨e2, _⟩ | ⟨g, cap', cur, e2, _, hc, _⟩
      · rw [e2] at hq; cases hq
      · rw [e2] at hq
        have e3 := Option.some.inj hq
        subst e3
        rw [hqo] at hc
        cases hc
        rfl))
    have nB : ∀ q, (Value.slice ao' (pre.length + 1) cp').ownBlock = some q → q ≠ w.heap.size := fun q hq => by have := (ho3.lt q hq).1; omega
    have HF : Hid (∃ v, (w3.setCell ⟨w.heap.size, 0, none⟩ (.slice ao' (pre.length + 1) cp')).heap[w.heap.size]? = some (.cells #[v] 25 (0, 0)) ∧ (w3.setCell ⟨w.heap.size, 0, none⟩ (.slice ao' (pre.length + 1) cp')).ownsRow (w.heap.size + 1) 57 3 v (pre ++ [x]).length (icells (pre ++ [x])) ∧ Kept [] w (w3.setCell ⟨w.heap.size, 0, none⟩ (.slice ao' (pre.length + 1) cp'))) :=
      hide ⟨_, block_setCell hB3 0 _, ((Kept.refl [w.heap.size] w3).setCell (.inl (by simp)) _).ownsRow kow (fun q hq => by simpa using nB q hq), kw3.setCell (.inr (Nat.le_refl _)) _⟩
    have HG : Hid (KW W (w3.setCell ⟨w.heap.size, 0, none⟩ (.slice ao' (pre.length + 1) cp'))) := hide (by
      intro q cc tt hq ht
      refine ((Kept.refl [w.heap.size] w3).setCell (.inl (by simp)) _).at (kwr q cc tt hq ht) ?_
      intro hm
      have e := List.mem_singleton.1 hm
      subst e
      rw [HI1.out] at hq
      simp at hq
      exact ht (by rw [← hq.2]; simp))
    have HH := hide (kof.trans (KeepsOthers.setCell w3 ⟨w.heap.size, 0, none⟩ (.slice ao' (pre.length + 1) cp')))
    clear ho3 hg3 hrow hB3 kow kw3 kwr kof nB
    gi_wp2
    exact ⟨by simpa using HF.out, HG.out, HH.out⟩
  case done =>
    rintro D W hD ⟨v, h1, h2, h3⟩ hd
    obtain ⟨ao, cp, hv⟩ := owns_shape h2
    subst hv
    have c1 : W.cell? ⟨w.heap.size, 0, none⟩ = some (.slice ao tot.length cp) := by rw [cell_at h1]; rfl
    have HI2 := hide h2
    have HI3 := hide h3
    have HD := hide hd
    have HDz := hide hD
    clear h1 h2 h3 hd hD
    gi_wp2
    refine ⟨by simp, .inl ⟨_, _, rfl, run_takeDeferred HD.out, ?_⟩⟩
    refine ⟨_, results_tmp rfl _ _ _, _, rfl, ?_, kept_put HI3.out (by have := HDz.out; omega) _⟩
    have ho := own_put HI2.out HD.out rfl (.deferred none)
    refine ⟨ho.1, ?_⟩
    rcases ho.2 with e | ⟨g, cap, cur, e, hg, r⟩
    · exact .inl e
    · exact .inr ⟨g, cap, cur, e, by omega, r⟩
end Go.Proofs.YtlhhgenpcjjajaaGreatDoor
namespace Go.Proofs.YtlhhgenpcjjajaaGreatDoor
open Go.RowKit
def KN (w w' : World) : Prop := ∀ (k : Nat) (c : Array Value) (t : TypeId), w.heap[k]? = some (.cells c t (0, 0)) → t ∈ NodeT → w'.heap[k]? = some (.cells c t (0, 0))
theorem KN.of_kept {S : List Nat} {w w' : World} (h : Kept S w w') (hS : ∀ k ∈ S, ∀ c t, w.heap[k]? = some (.cells c t (0, 0)) → t ∉ NodeT) : KN w w' := fun k c t hk ht => h.at hk (fun hm => hS k hm c t hk ht)
theorem KN.trans {a b c : World} (h : KN a b) (k : KN b c) : KN a c := fun i cc t hi ht => k i cc t (h i cc t hi ht) ht
theorem KN.row {w w' : World} (h : KN w w') {base : Nat} {e : TypeId} {size : Nat} {v : Value} {n : Nat} {xs : List Value} (ho : w.ownsRow base e size v n xs) (he : e ∈ NodeT) : w'.ownsRow base e size v n xs := by
  refine ⟨ho.1, ?_⟩
  rcases ho.2 with e1 | ⟨g, cap, cur, e1, h1, hc, r⟩
  · exact .inl e1
  · exact .inr ⟨g, cap, cur, e1, h1, h g _ _ hc he, r⟩
mutual
theorem IsTn.kn {w w' : World} (hk : KN w w') : ∀ {t : Tn} {n : Nd}, IsTn w t n → IsTn w' t n
  | .el name ats ks, .el k, h => by
    unfold IsTn at h ⊢
    obtain ⟨av, par, kv, ns, h1, h2, h3, h4⟩ := h
    exact ⟨av, par, kv, ns, ⟨hk _ _ _ h1.blk (by decide), hk.row h1.row (by decide), h1.le, h1.avs⟩, hk.row h2 (by decide), h3, IsTs.kn hk h4⟩
  | .tx _, .tx _, h => by unfold IsTn at h ⊢; exact hk _ _ _ h (by decide)
  | .cm _, .cm _, h => by unfold IsTn at h ⊢; exact hk _ _ _ h (by decide)
  | .dt _, .dt _, h => by unfold IsTn at h ⊢; exact hk _ _ _ h (by decide)
  | .el _ _ _, .tx _, h => by unfold IsTn at h; exact h.elim
  | .el _ _ _, .cm _, h => by unfold IsTn at h; exact h.elim
  | .el _ _ _, .dt _, h => by unfold IsTn at h; exact h.elim
  | .tx _, .el _, h => by unfold IsTn at h; exact h.elim
  | .tx _, .cm _, h => by unfold IsTn at h; exact h.elim
  | .tx _, .dt _, h => by unfold IsTn at h; exact h.elim
  | .cm _, .el _, h => by unfold IsTn at h; exact h.elim
  | .cm _, .tx _, h => by unfold IsTn at h; exact h.elim
  | .cm _, .dt _, h => by unfold IsTn at h; exact h.elim
  | .dt _, .el _, h => by unfold IsTn at h; exact h.elim
  | .dt _, .tx _, h => by unfold IsTn at h; exact h.elim
  | .dt _, .cm _, h => by unfold IsTn at h; exact h.elim
theorem IsTs.kn {w w' : World} (hk : KN w w') : ∀ {ts : List Tn} {ns : List Nd}, IsTs w ts ns → IsTs w' ts ns
  | [], [], _ => by unfold IsTs; trivial
  | t :: ts, n :: ns, h => by
    unfold IsTs at h ⊢
    exact ⟨IsTn.kn hk h.1, IsTs.kn hk h.2⟩
  | [], _ :: _, h => by unfold IsTs at h; exact h.elim
  | _ :: _, [], h => by unfold IsTs at h; exact h.elim
end
theorem El.zero {bs : Nat} {w : World} {k : Nat} {name : ByteArray} {av : Value} {par : Option Nat} {kv : Value} {ns : List Nd} (h : El bs w k name av par kv ns) : El 0 w k name av par kv ns := ⟨h.blk, ownsRow_base h.row (Nat.zero_le _), h.le, h.avs⟩
def TreeRead (w : World) (T : List Tn) (e : Ending) (w' : World) : Prop :=
  ∃ v k L, e = .returned (.tuple #[.agg #[v, .pointer (some ⟨k, 0, none⟩)], .pointer none]) ∧ IsTn w' (.el ⟨#[]⟩ [] T) (.el k) ∧ w'.ownsRow w.heap.size 53 3 v L.length (scells L) ∧ L.length ≤ 1024 ∧ Kept [] w w'
def ReadsTo (s : ByteArray) (d f l : Nat) (T : List Tn) : Prop := ∀ (tv : Value) (base : Nat) (w : World), w.ownsRow base 5 1 tv s.size (bcells s) → Tab w → GlW w →
    Calls Tryz.prog 38 #[tv, .agg #[.int .i64 (d : Int), .int .i64 (f : Int), .int .i64 (l : Int)]] w (TreeRead w T)
end Go.Proofs.YtlhhgenpcjjajaaGreatDoor
namespace Go.Proofs.YtlhhgenpcjjajaaGreatDoor
open Go.RowKit
def CutP (w : World) (T : List Tn) (v3 v4 : Value) (wc : World) : Prop := ∃ Tb v k L, v3 = .pointer (some ⟨Tb, 0, none⟩) ∧ v4 = .pointer none ∧ w.heap.size ≤ Tb ∧ wc.heap[Tb]? = some (.cells #[v, .pointer (some ⟨k, 0, none⟩)] 74 (0, 0)) ∧ IsTn wc (.el ⟨#[]⟩ [] T) (.el k) ∧ wc.ownsRow w.heap.size 53 3 v L.length (scells L) ∧ L.length ≤ 1024 ∧ Kept [] w wc
theorem cut_alloc {w W w2 : World} {T : List Tn} {e : Ending} (h : TreeRead W T e w2) (hk : Kept [] w W) : ∃ v k, e = .returned (.tuple #[.agg #[v, .pointer (some ⟨k, 0, none⟩)], .pointer none]) ∧ (∃ ax n ac, v = .slice ax n ac) ∧ CutP w T (.pointer (some ⟨w2.heap.size, 0, none⟩)) (.pointer none) (w2.alloc (.cells #[v, .pointer (some ⟨k, 0, none⟩)] 74 (0, 0))) ∧
    (∀ Tb, w.heap.size ≤ Tb → W.heap[Tb]? = some (.cells #[.slice none 0 0, .pointer none] 74 (0, 0)) → w2.heap[Tb]? = some (.cells #[.slice none 0 0, .pointer none] 74 (0, 0)) ∧ CutP w T (.pointer (some ⟨Tb, 0, none⟩)) (.pointer none) ((w2.setCell ⟨Tb, 0, none⟩ v).setCell ⟨Tb, 1, none⟩ (.pointer (some ⟨k, 0, none⟩)))) := by
  obtain ⟨v, k, L, rfl, hT, how, hle, hk2⟩ := h
  have hz : w.heap.size ≤ W.heap.size := hk.size
  have how' := ownsRow_base how hz
  have ka := (Kept.refl [] w2).alloc (.cells #[v, .pointer (some ⟨k, 0, none⟩)] 74 (0, 0))
  obtain ⟨ax, ac, hv⟩ := owns_shape how
  refine ⟨v, k, rfl, ⟨_, _, _, hv⟩, ⟨_, v, k, L, rfl, rfl, Nat.le_trans hz hk2.size, heap_alloc_at w2 _, IsTn.kept ka hT, ka.ownsRow how' (fun _ _ => by simp), hle, (hk.trans hk2).trans ka⟩, ?_⟩
  intro Tb hTb hg
  have hg2 := hk2.at hg (by simp)
  have kS : Kept [Tb] w2 ((w2.setCell ⟨Tb, 0, none⟩ v).setCell ⟨Tb, 1, none⟩ (.pointer (some ⟨k, 0, none⟩))) := ((Kept.refl _ _).setCell (.inl (by simp)) _).setCell (.inl (by simp)) _
  refine ⟨hg2, Tb, v, k, L, rfl, rfl, hTb, block_setCell (block_setCell hg2 0 _) 1 _, IsTn.kn (KN.of_kept kS (fun q hq c t hc ht => ?_)) hT, kS.ownsRow how' (fun q hq hm => ?_), hle, ((hk.trans hk2).setCell (.inr hTb) _).setCell (.inr hTb) _⟩
  · have e := List.mem_singleton.1 hq
    subst e
    rw [hg2] at hc
    simp at hc
    rw [← hc.2] at ht
    revert ht
    decide
  · have e := List.mem_singleton.1 hm
    subst e
    rcases how'.2 with ⟨e2, _⟩ | ⟨q', cap', cur, e2, _, hc, _⟩
    · rw [e2] at hq; cases hq
    · rw [e2] at hq
      have e3 := Option.some.inj hq
      subst e3
      rw [hg2] at hc
      simp at hc
def pcells (d f l : Int) (n : Nat) (v : Value) (k : Nat) : Array Value := #[.int .i64 d, .int .i64 f, .int .i64 l, .slice none 0 0, .bool true, .int .i64 (n : Int), .nilIface, v, .pointer (some ⟨k, 0, none⟩)]
def ClosedP (w : World) (bx d f l : Nat) (s : ByteArray) (T : List Tn) (w' : World) : Prop := ∃ v k L, w'.heap[bx]? = some (.cells (pcells d f l s.size v k) 76 (0, 0)) ∧ IsTn w' (.el ⟨#[]⟩ [] T) (.el k) ∧ w'.ownsRow w.heap.size 53 3 v L.length (scells L) ∧ L.length ≤ 1024 ∧ Kept [bx] w w'
set_option maxRecDepth 100000 in
set_option maxHeartbeats 8000000 in
theorem close_any (bx d f l : Nat) (tv : Value) (s : ByteArray) (base : Nat) (w : World) (hx : w.heap[bx]? = some (.cells (xcells ((d : Int), (f : Int), (l : Int)) tv) 76 (0, 0))) (ho : w.ownsRow base 5 1 tv s.size (bcells s)) {T : List Tn} (hT : Tab w) (hg : GlW w) (hn : ReadsTo s d f l T) :
    Calls Tryz.prog 28 #[.pointer (some ⟨bx, 0, none⟩)] w fun e w' => e = .returned .nilIface ∧ ClosedP w bx d f l s T w' := by
  obtain ⟨ao, cp, htv⟩ := owns_shape ho
  subst htv
  have hbx := lt_of_block hx
  have c0 : w.cell? ⟨bx, 0, none⟩ = some (.int .i64 (d : Int)) := by rw [cell_at hx]; rfl
  have c1 : w.cell? ⟨bx, 1, none⟩ = some (.int .i64 (f : Int)) := by rw [cell_at hx]; rfl
  have c2 : w.cell? ⟨bx, 2, none⟩ = some (.int .i64 (l : Int)) := by rw [cell_at hx]; rfl
  have c3 : w.cell? ⟨bx, 3, none⟩ = some (.slice ao s.size cp) := by rw [cell_at hx]; rfl
  have CI := hide (isClosed_no bx ((d : Int), (f : Int), (l : Int)) _ w hx)
  have CR := hide (fun W (hk : Kept [] w W) => hn (.slice ao s.size cp) base W (hk.ownsRow ho (fun _ _ => by simp)) (hT.fr (bm := 0) (.of_kept0 hk)) (hg.kept hk))
  have HX := hide hx
  have HG := hide (heap_alloc_at w.drew (.cells #[.slice none 0 0, .pointer none] 74 (0, 0)))
  clear hx ho hT hg hn
  go_enter Tryz.func28, Tryz.ntmps28
  go_wp2_with fail
  refine CI.out.mono ?_
  rintro e w1 ⟨rfl, rfl⟩
  go_wp2_with fail
  go_cut [3, 4] from 8 to 19 (fun v3 v4 wc => CutP w1 T v3 v4 wc)
  case first =>
    go_region_with (go_at_call 38; first
      | (refine (CR.out _ ((Kept.refl [] w1).drew)).mono ?_; intro e w2 hp; obtain ⟨v, k, rfl, ⟨ax, n, ac, rfl⟩, h1, _⟩ := cut_alloc hp ((Kept.refl [] w1).drew); have HF := hide h1; clear h1 hp)
      | (refine (CR.out _ (((Kept.refl [] w1).drew).alloc _)).mono ?_; intro e w2 hp; obtain ⟨v, k, rfl, ⟨ax, n, ac, rfl⟩, _, h2⟩ := cut_alloc hp (((Kept.refl [] w1).drew).alloc _); obtain ⟨h3, h4⟩ := h2 w1.heap.size (Nat.le_refl _) HG.out; have q0 : w2.cell? ⟨w1.heap.size, 0, none⟩ = some (.slice none 0 0) := (by rw [cell_at h3]; rfl); have q1 : w2.cell? ⟨w1.heap.size, 1, none⟩ = some (.pointer none) := (by rw [cell_at h3]; rfl); have z0 := free_at h3 0; have z1 := free_at h3 1; have HF := hide h4; clear h2 h3 h4 hp))
    all_goals (try (go_wp2_with fail))
    all_goals (go_meet; exact HF.out)
  case rest =>
    obtain ⟨Tb, v, k, L, rfl, rfl, hTb, hg, hTr, how, hle, hk⟩ := hcut
    obtain ⟨ax, ac, hv⟩ := owns_shape how
    subst hv
    have hx2 := hk.at HX.out (by simp)
    have e3 : wc.cell? ⟨bx, 3, none⟩ = some (.slice ao s.size cp) := by rw [cell_at hx2]; rfl
    have e4 : wc.cell? ⟨bx, 4, none⟩ = some (.bool false) := by rw [cell_at hx2]; rfl
    have e5 : wc.cell? ⟨bx, 5, none⟩ = some (.int .i64 0) := by rw [cell_at hx2]; rfl
    have e7 : wc.cell? ⟨bx, 7, none⟩ = some (.slice none 0 0) := by rw [cell_at hx2]; rfl
    have e8 : wc.cell? ⟨bx, 8, none⟩ = some (.pointer none) := by rw [cell_at hx2]; rfl
    have t0 : wc.cell? ⟨Tb, 0, none⟩ = some (.slice ax L.length ac) := by rw [cell_at hg]; rfl
    have t1 : wc.cell? ⟨Tb, 1, none⟩ = some (.pointer (some ⟨k, 0, none⟩)) := by rw [cell_at hg]; rfl
    have f4 := free_at hx2 4
    have f5 := free_at hx2 5
    have f7 := free_at hx2 7
    have f8 := free_at hx2 8
    have hne : Tb ≠ bx := by omega
    have hne' : bx ≠ Tb := by omega
    have hbxc := lt_of_block hx2
    have HP := hide (And.intro hx2 (And.intro hTr (And.intro how (And.intro hle hk))))
    clear CR CI c0 c1 c2 c3 hg hTr how hle hk hx2
    go_wp2_with fail
    go_cut [] from 20 to 34 (fun wd => wd.heap[bx]? = some (.cells #[.int .i64 (d : Int), .int .i64 (f : Int), .int .i64 (l : Int), .slice ao s.size cp, .bool true, .int .i64 (s.size : Int), .nilIface, .slice ax L.length ac, .pointer (some ⟨k, 0, none⟩)] 76 (0, 0)) ∧ Kept [bx] wc wd)
    case first =>
      go_region
      all_goals (try (go_wp2_with fail))
      all_goals (go_meet; exact ⟨block_setCell (block_setCell (block_setCell (block_setCell HP.out.1 _ _) _ _) _ _) _ _, (((((Kept.refl [bx] wc).setCell (.inl (by simp)) _).setCell (.inl (by simp)) _).setCell (.inl (by simp)) _).setCell (.inl (by simp)) _).drew⟩)
    case rest =>
      obtain ⟨hx3, hk3⟩ := hcut
      obtain ⟨hx2, hTr, how, hle, hk⟩ := HP.out
      have g3 : wc.cell? ⟨bx, 3, none⟩ = some (.slice ao s.size cp) := by rw [cell_at hx3]; rfl
      have g6 : wc.cell? ⟨bx, 6, none⟩ = some .nilIface := by rw [cell_at hx3]; rfl
      have y3 := free_at hx3 3
      have hbx3 := lt_of_block hx3
      have k4 := hk3.trans ((Kept.refl [bx] wc).setCell (p := ⟨bx, 3, none⟩) (.inl (by simp)) (.slice none 0 0))
      have HF : Hid (ClosedP w1 bx d f l s T (wc.setCell ⟨bx, 3, none⟩ (.slice none 0 0))) := hide ⟨_, k, L, block_setCell hx3 3 _, IsTn.kn (KN.of_kept k4 (fun q hq c t hc ht => by
          have e := List.mem_singleton.1 hq
          subst e
          rw [hx2] at hc
          simp at hc
          rw [← hc.2] at ht
          revert ht
          decide)) hTr, k4.ownsRow how (fun q hq hm => by
          have e := List.mem_singleton.1 hm
          subst e
          have := (how.lt _ hq).1
          omega), hle, (hk.mono (by simp)).trans k4⟩
      clear hx3 hk3 hx2 hTr how hle hk k4 HP e3 e4 e5 e7 e8 t0 t1 f4 f5 f7 f8 hbxc
      go_wp2
      go_ret
      exact ⟨rfl, HF.out⟩
end Go.Proofs.YtlhhgenpcjjajaaGreatDoor
namespace Go.Proofs.YtlhhgenpcjjajaaGreatDoor
open Go.RowKit
set_option maxHeartbeats 1000000 in
theorem clone_any (base : Nat) (v : Value) (L : List Sp) (w : World) (ho : w.ownsRow base 53 3 v L.length (scells L)) (hL : L.length ≤ 4096) :
    Calls Tryz.prog 33 #[v] w fun e w' => ∃ v', e = .returned v' ∧ w'.ownsRow w.heap.size 53 3 v' L.length (scells L) ∧ Kept [] w w' := by
  obtain ⟨i0, hi, hz0, hz1, hz2⟩ := info_parts info_span
  rcases ho.2 with ⟨rfl, h0⟩ | ⟨g, cap, cur, rfl, hbg, hg, _⟩
  · have hn := fun w => Lib.run_eql_slice_nil (P := Tryz.prog) w 26 53 none 0 0 0 0 Tryz.underlying26
    have : L = [] := List.eq_nil_of_length_eq_zero h0
    subst this
    clear ho
    go_enter Tryz.func33, Tryz.ntmps33
    go_wp2
    go_ret
    exact ⟨_, rfl, World.ownsRow_nil _ _ _ _, Kept.refl _ _⟩
  · have hn := fun w => Lib.run_eql_slice_nil (P := Tryz.prog) w 26 53 (some ⟨g, 0, none⟩) L.length cap 0 0 Tryz.underlying26
    have HO := hide ho
    have hlt := lt_of_block hg
    have hempty : (w.alloc (.cells #[] 53)).ownsRow w.heap.size 53 3 (.slice (some ⟨w.heap.size, 0, none⟩) 0 0) 0 [] :=
      ⟨rfl, .inr ⟨w.heap.size, 0, #[], rfl, Nat.le_refl _, heap_alloc_at w _, Nat.le_refl _, Nat.zero_le _, rfl, rfl⟩⟩
    have HE := hide hempty
    clear ho hempty
    go_enter Tryz.func33, Tryz.ntmps33
    go_wp2_with (at_builtin; refine wpList_append_ownF _ rfl _ _ 26 rfl w.heap.size 53 i0 (.agg #[.int .i64 0, .int .i64 0, .int .i64 0]) 3 24 Tryz.underlying26 hi hz0 hz1 hz2 rfl (by decide) _ _ _ rfl HE.out ⟨g, 0, none⟩ L.length cap (scells L) rfl ?c1 ?c2 ?c3 ?c4 ?c5 ?c6 ?_)
    case c1 => exact scells_length L
    case c2 =>
      intro j u hj
      have := HO.out.cells (g := g) rfl j u hj
      rw [addr_add] at this ⊢
      rw [← this]
      exact World.cell?_alloc_lt _ _ _ hlt
    case c3 =>
      intro u hu
      unfold scells at hu
      simp at hu
      obtain ⟨p, _, h | h | h⟩ := hu <;> (subst h; rfl)
    case c4 => unfold maxLen; omega
    case c5 => omega
    case c6 => simp
    intro v' w3 ho3 hg3 hf3
    have h9 : w3.ownsRow w.heap.size 53 3 v' L.length (scells L) := by simpa using ho3
    have HF := hide h9
    clear h9
    have HK : Hid (Kept [] w w3) := ((Kept.refl [] w).alloc _).grown hg3 (fun x hx => .inr (HE.out.lt x hx).1)
    clear ho3 hg3 hf3
    go_wp2
    go_ret
    exact ⟨_, rfl, HF.out, HK.out⟩
set_option maxHeartbeats 1000000 in
theorem pclose_any (bx d f l : Nat) (tv : Value) (s : ByteArray) (base : Nat) (w : World) (hx : w.heap[bx]? = some (.cells (xcells ((d : Int), (f : Int), (l : Int)) tv) 76 (0, 0))) (ho : w.ownsRow base 5 1 tv s.size (bcells s)) {T : List Tn} (hT : Tab w) (hg : GlW w) (hn : ReadsTo s d f l T) :
    Calls Tryz.prog 16 #[.pointer (some ⟨bx, 0, none⟩)] w fun e w' => e = .returned (.tuple #[.int .i64 0, .int .i64 0]) ∧ ClosedP w bx d f l s T w' := by
  have C := hide (close_any bx d f l tv s base w hx ho hT hg hn)
  clear hx ho hT hg hn
  go_enter Tryz.func16, Tryz.ntmps16
  go_wp2_with fail
  refine C.out.mono ?_
  rintro e w1 ⟨rfl, h1⟩
  have H1 := hide h1
  clear h1
  go_wp2_with fail
  refine (told_nil w1).mono ?_
  rintro e w2 ⟨rfl, hk⟩
  have HF : Hid (ClosedP w bx d f l s T w2) := by
    obtain ⟨v, k, L, h1, h2, h3, h4, h5⟩ := H1.out
    exact hide ⟨v, k, L, hk.at h1 (by simp), IsTn.kept hk h2, hk.ownsRow h3 (fun _ _ => by simp), h4, h5.trans (hk.mono (by simp))⟩
  clear hk
  go_wp2
  go_ret2
  exact ⟨rfl, HF.out⟩
set_option maxHeartbeats 1000000 in
theorem stop_plain (bx : Nat) (d f l : Int) (n k : Nat) (v : Value) (w : World) (hx : w.heap[bx]? = some (.cells (pcells d f l n v k) 76 (0, 0))) :
    Calls Tryz.prog 29 #[.pointer (some ⟨bx, 0, none⟩)] w fun e w' => e = .returned (.tuple #[.int .i64 (n : Int), .nilIface]) ∧ Kept [] w w' := by
  have c4 : w.cell? ⟨bx, 4, none⟩ = some (.bool true) := by rw [cell_at hx]; rfl
  have c5 : w.cell? ⟨bx, 5, none⟩ = some (.int .i64 (n : Int)) := by rw [cell_at hx]; rfl
  have c6 : w.cell? ⟨bx, 6, none⟩ = some .nilIface := by rw [cell_at hx]; rfl
  have hlt := lt_of_block hx
  clear hx
  go_enter Tryz.func29, Tryz.ntmps29
  go_wp2_with fail
  go_region
  all_goals (try go_wp2)
  all_goals (try go_ret2)
  all_goals exact ⟨rfl, (Kept.refl [] w).drew⟩
set_option maxHeartbeats 1000000 in
theorem pstop_plain (bx : Nat) (d f l : Int) (n k : Nat) (v : Value) (w : World) (hx : w.heap[bx]? = some (.cells (pcells d f l n v k) 76 (0, 0))) :
    Calls Tryz.prog 17 #[.pointer (some ⟨bx, 0, none⟩)] w fun e w' => e = .returned (.tuple #[.int .i64 (n : Int), .int .i64 0, .int .i64 0]) ∧ Kept [] w w' := by
  have C := hide (stop_plain bx d f l n k v w hx)
  clear hx
  go_enter Tryz.func17, Tryz.ntmps17
  go_wp2_with fail
  refine C.out.mono ?_
  rintro e w1 ⟨rfl, hk1⟩
  have HK := hide hk1
  clear hk1
  go_wp2_with fail
  refine (told_nil w1).mono ?_
  rintro e w2 ⟨rfl, hk⟩
  have HK2 := hide (HK.out.trans hk)
  clear hk
  go_wp2
  go_ret3
  exact ⟨rfl, HK2.out⟩
set_option maxHeartbeats 1000000 in
theorem trail_plain (bx : Nat) (d f l : Int) (n k base : Nat) (v : Value) (L : List Sp) (w : World) (hx : w.heap[bx]? = some (.cells (pcells d f l n v k) 76 (0, 0))) (ho : w.ownsRow base 53 3 v L.length (scells L)) (hL : L.length ≤ 4096) :
    Calls Tryz.prog 20 #[.pointer (some ⟨bx, 0, none⟩)] w fun e w' => ∃ ao n c, e = .returned (.slice ao n c) ∧ Kept [] w w' := by
  have c7 : w.cell? ⟨bx, 7, none⟩ = some v := by rw [cell_at hx]; rfl
  have C := hide (clone_any base v L w ho hL)
  obtain ⟨ao, cp, hv⟩ := owns_shape ho
  subst hv
  have hlt := lt_of_block hx
  clear hx ho
  go_enter Tryz.func20, Tryz.ntmps20
  go_wp2_with fail
  refine C.out.mono ?_
  rintro e w' ⟨v', rfl, h1, h2⟩
  obtain ⟨ao1, cp1, hv1⟩ := owns_shape h1
  subst hv1
  have H2 := hide h2
  clear h1 h2
  go_wp2
  go_ret
  exact ⟨_, _, _, rfl, H2.out⟩
end Go.Proofs.YtlhhgenpcjjajaaGreatDoor
