import Derived.Test.YtlhhgenpcjjajaaGreatDoorDoA
import Derived.Test.YtlhhgenpcjjajaaGreatDoorLsI
import Derived.RangeFuncWrites
import Derived.RegionIn
import Derived.TacticsIn
set_option linter.unusedSimpArgs false
set_option linter.unusedVariables false
namespace Go.Proofs.YtlhhgenpcjjajaaGreatDoor
open Go.RowKit
theorem cells1 {v : Value} (h : v.oneCell' = true) : v.cells = #[v] := by
  cases v <;> first | rfl | (simp [Value.oneCell'] at h)
theorem two_at (w : World) (o o2 : Obj) : ((w.alloc o).alloc o2).heap[w.heap.size]? = some o := (Below.heap_alloc _ _ _ (by simp)).trans (heap_alloc_at w _)
set_option maxRecDepth 100000 in
set_option maxHeartbeats 4000000 in
theorem of_char (E : Env) (bB bD a b : Nat) (s : ByteArray) (ats : List (ByteArray × ByteArray)) (sp : RSpec) (v0 v1 v2 v3 v4 v5 v6 v7 v8 v9 : Value) (w : World) (h : IsRules E.bm bB bD sp v0 v1 v2 v3 v4 v5 v6 v7 v8 v9 w) :
    Calls Tryz.prog 264 #[.agg #[v0, v1, v2, v3, v4, v5, v6, v7, v8, v9], tokV E ⟨a, b, .char s, ats⟩] w fun e w' => ∃ v, e = .returned v ∧ IsRu E.bm bB bD (ruleOf sp ⟨a, b, .char s, ats⟩) v w ∧ Kept [] w w' := by
  have hone := h.one
  have k0 := cells1 (hone v0 (by simp))
  have k1 := cells1 (hone v1 (by simp))
  have k2 := cells1 (hone v2 (by simp))
  have k3 := cells1 (hone v3 (by simp))
  have k4 := cells1 (hone v4 (by simp))
  have k5 := cells1 (hone v5 (by simp))
  have k6 := cells1 (hone v6 (by simp))
  have k7 := cells1 (hone v7 (by simp))
  have k8 := cells1 (hone v8 (by simp))
  have k9 := cells1 (hone v9 (by simp))
  clear hone
  have HI := hide h
  clear h
  have HG := hide (fun o => two_at w (.cells #[v0, v1, v2, v3, v4, v5, v6, v7, v8, v9] 172 (0, 0)) o)
  have HG1 := hide (heap_alloc_at w (.cells #[v0, v1, v2, v3, v4, v5, v6, v7, v8, v9] 172 (0, 0)))
  have HK0 := hide (fun o => ((Kept.refl [] w).alloc (.cells #[v0, v1, v2, v3, v4, v5, v6, v7, v8, v9] 172 (0, 0))).alloc o)
  have HK1 := hide ((Kept.refl [] w).alloc (.cells #[v0, v1, v2, v3, v4, v5, v6, v7, v8, v9] 172 (0, 0)))
  simp only [tokV]
  have q_Char := fun (v : Value) (xT : TypeId) (w : World) => ta_yes Tryz.underlying188 v xT w
  have HB := hide (fun W => isBlank_ok s W)
  go_enter Tryz.func264, Tryz.ntmps264
  go_wp2_with fail
  refine (HB.out _).mono ?_
  rintro e w1 ⟨rfl, hk1⟩
  have gB := hk1.at (HG.out _) (by simp)
  have HK := hide ((HK0.out _).trans hk1)
  have q0 : w1.cell? ⟨w.heap.size, 0, none⟩ = some v0 := by rw [cell_at gB]; rfl
  have q1 : w1.cell? ⟨w.heap.size, 1, none⟩ = some v1 := by rw [cell_at gB]; rfl
  have q9 : w1.cell? ⟨w.heap.size, 9, none⟩ = some v9 := by rw [cell_at gB]; rfl
  clear gB hk1 HG HG1 HK0 HK1 HB
  have f0 := HI.out.blank.fv
  have f1 := HI.out.char.fv
  have f9 := HI.out.others.fv
  cases hb : isBlankS s with
  | true =>
    have hr : ruleOf sp ⟨a, b, .char s, ats⟩ = firstR [sp.blank, sp.char, sp.others] := by simp [ruleOf, hb]
    have HAll : Hid (AllRu E.bm bB bD w _ [v0, v1, v9]) := hide (.cons HI.out.blank (.cons HI.out.char (.cons HI.out.others (.nil))))
    have HR := hide hr
    clear hr hb
    have HC : Hid (Calls Tryz.prog 316 #[.slice (some ⟨w1.heap.size, 0, none⟩) 3 3] ((w1).alloc (.cells #[v0, v1, v9] 168 (0, 0))) fun e w3 => e = .returned (firstV [v0, v1, v9]) ∧ w3 = (w1).alloc (.cells #[v0, v1, v9] 168 (0, 0))) := by
      have := firstOf_any ((w1).heap.size) 3 [v0, v1, v9] ((w1).alloc (.cells #[v0, v1, v9] 168 (0, 0))) (heap_alloc_at _ _) HAll.out.isF (by simp)
      try rw [World.size_alloc] at this
      exact hide this
    rcases f0 with rfl | ⟨k0, a0, l0, rfl⟩
    all_goals rcases f1 with rfl | ⟨k1, a1, l1, rfl⟩
    all_goals rcases f9 with rfl | ⟨k9, a9, l9, rfl⟩
    all_goals go_wp2_with fail
    all_goals refine HC.out.mono ?_
    all_goals rintro e w3 ⟨rfl, rfl⟩
    all_goals have HFF := hide HAll.out.first
    all_goals simp only [firstV] at HFF ⊢
    all_goals go_wp2
    all_goals go_ret
    all_goals exact ⟨_, rfl, HR.out ▸ HFF.out, HK.out.alloc _⟩
  | false =>
    have hr : ruleOf sp ⟨a, b, .char s, ats⟩ = firstR [sp.char, sp.others] := by simp [ruleOf, hb]
    have HAll : Hid (AllRu E.bm bB bD w _ [v1, v9]) := hide (.cons HI.out.char (.cons HI.out.others (.nil)))
    have HR := hide hr
    clear hr hb
    have HC : Hid (Calls Tryz.prog 316 #[.slice (some ⟨w1.heap.size, 0, none⟩) 2 2] ((w1).alloc (.cells #[v1, v9] 168 (0, 0))) fun e w3 => e = .returned (firstV [v1, v9]) ∧ w3 = (w1).alloc (.cells #[v1, v9] 168 (0, 0))) := by
      have := firstOf_any ((w1).heap.size) 2 [v1, v9] ((w1).alloc (.cells #[v1, v9] 168 (0, 0))) (heap_alloc_at _ _) HAll.out.isF (by simp)
      try rw [World.size_alloc] at this
      exact hide this
    rcases f1 with rfl | ⟨k1, a1, l1, rfl⟩
    all_goals rcases f9 with rfl | ⟨k9, a9, l9, rfl⟩
    all_goals go_wp2_with fail
    all_goals refine HC.out.mono ?_
    all_goals rintro e w3 ⟨rfl, rfl⟩
    all_goals have HFF := hide HAll.out.first
    all_goals simp only [firstV] at HFF ⊢
    all_goals go_wp2
    all_goals go_ret
    all_goals exact ⟨_, rfl, HR.out ▸ HFF.out, HK.out.alloc _⟩
set_option maxRecDepth 100000 in
set_option maxHeartbeats 4000000 in
theorem of_textEnd (E : Env) (bB bD a b : Nat) (ats : List (ByteArray × ByteArray)) (sp : RSpec) (v0 v1 v2 v3 v4 v5 v6 v7 v8 v9 : Value) (w : World) (h : IsRules E.bm bB bD sp v0 v1 v2 v3 v4 v5 v6 v7 v8 v9 w) :
    Calls Tryz.prog 264 #[.agg #[v0, v1, v2, v3, v4, v5, v6, v7, v8, v9], tokV E ⟨a, b, .textEnd, ats⟩] w fun e w' => ∃ v, e = .returned v ∧ IsRu E.bm bB bD (ruleOf sp ⟨a, b, .textEnd, ats⟩) v w ∧ Kept [] w w' := by
  have hone := h.one
  have k0 := cells1 (hone v0 (by simp))
  have k1 := cells1 (hone v1 (by simp))
  have k2 := cells1 (hone v2 (by simp))
  have k3 := cells1 (hone v3 (by simp))
  have k4 := cells1 (hone v4 (by simp))
  have k5 := cells1 (hone v5 (by simp))
  have k6 := cells1 (hone v6 (by simp))
  have k7 := cells1 (hone v7 (by simp))
  have k8 := cells1 (hone v8 (by simp))
  have k9 := cells1 (hone v9 (by simp))
  clear hone
  have HI := hide h
  clear h
  have HG := hide (fun o => two_at w (.cells #[v0, v1, v2, v3, v4, v5, v6, v7, v8, v9] 172 (0, 0)) o)
  have HG1 := hide (heap_alloc_at w (.cells #[v0, v1, v2, v3, v4, v5, v6, v7, v8, v9] 172 (0, 0)))
  have HK0 := hide (fun o => ((Kept.refl [] w).alloc (.cells #[v0, v1, v2, v3, v4, v5, v6, v7, v8, v9] 172 (0, 0))).alloc o)
  have HK1 := hide ((Kept.refl [] w).alloc (.cells #[v0, v1, v2, v3, v4, v5, v6, v7, v8, v9] 172 (0, 0)))
  simp only [tokV]
  have q_Char := fun (v : Value) (xT : TypeId) (w : World) => ta_no (T := 186) (z := .agg #[.int .i64 0, .int .i64 0, .string ⟨#[]⟩]) Tryz.underlying188 (by kernel_rfl) (by decide) v xT w
  have q_Comment := fun (v : Value) (xT : TypeId) (w : World) => ta_no (T := 186) (z := .agg #[.int .i64 0, .int .i64 0, .string ⟨#[]⟩]) Tryz.underlying198 (by kernel_rfl) (by decide) v xT w
  have q_Doctype := fun (v : Value) (xT : TypeId) (w : World) => ta_no (T := 186) (z := .agg #[.int .i64 0, .int .i64 0, .string ⟨#[]⟩, .bool false]) Tryz.underlying200 (by kernel_rfl) (by decide) v xT w
  have q_StartTag := fun (v : Value) (xT : TypeId) (w : World) => ta_no (T := 186) (z := .agg #[.int .i64 0, .int .i64 0, .string ⟨#[]⟩, .slice none 0 0]) Tryz.underlying196 (by kernel_rfl) (by decide) v xT w
  have q_EndTag := fun (v : Value) (xT : TypeId) (w : World) => ta_no (T := 186) (z := .agg #[.int .i64 0, .int .i64 0, .string ⟨#[]⟩, .slice none 0 0]) Tryz.underlying197 (by kernel_rfl) (by decide) v xT w
  have q4 : (w.alloc (.cells #[v0, v1, v2, v3, v4, v5, v6, v7, v8, v9] 172 (0, 0))).cell? ⟨w.heap.size, 4, none⟩ = some v4 := by rw [cell_at HG1.out]; rfl
  have q9 : (w.alloc (.cells #[v0, v1, v2, v3, v4, v5, v6, v7, v8, v9] 172 (0, 0))).cell? ⟨w.heap.size, 9, none⟩ = some v9 := by rw [cell_at HG1.out]; rfl
  clear HG HG1 HK0
  have HAll : Hid (AllRu E.bm bB bD w _ [v4, v9]) := hide (.cons HI.out.textEnd (.cons HI.out.others (.nil)))
  have HC : Hid (Calls Tryz.prog 316 #[.slice (some ⟨w.heap.size + 1, 0, none⟩) 2 2] ((w.alloc (.cells #[v0, v1, v2, v3, v4, v5, v6, v7, v8, v9] 172 (0, 0))).alloc (.cells #[v4, v9] 168 (0, 0))) fun e w3 => e = .returned (firstV [v4, v9]) ∧ w3 = (w.alloc (.cells #[v0, v1, v2, v3, v4, v5, v6, v7, v8, v9] 172 (0, 0))).alloc (.cells #[v4, v9] 168 (0, 0))) := by
    have := firstOf_any ((w.alloc (.cells #[v0, v1, v2, v3, v4, v5, v6, v7, v8, v9] 172 (0, 0))).heap.size) 2 [v4, v9] ((w.alloc (.cells #[v0, v1, v2, v3, v4, v5, v6, v7, v8, v9] 172 (0, 0))).alloc (.cells #[v4, v9] 168 (0, 0))) (heap_alloc_at _ _) HAll.out.isF (by simp)
    try rw [World.size_alloc] at this
    exact hide this
  have f4 := HI.out.textEnd.fv
  have f9 := HI.out.others.fv
  go_enter Tryz.func264, Tryz.ntmps264
  rcases f4 with rfl | ⟨k4, a4, l4, rfl⟩
  all_goals rcases f9 with rfl | ⟨k9, a9, l9, rfl⟩
  all_goals go_wp2_with fail
  all_goals refine HC.out.mono ?_
  all_goals rintro e w3 ⟨rfl, rfl⟩
  all_goals have HFF := hide HAll.out.first
  all_goals simp only [firstV] at HFF ⊢
  all_goals go_wp2
  all_goals go_ret
  all_goals exact ⟨_, rfl, HFF.out, HK1.out.alloc _⟩
end Go.Proofs.YtlhhgenpcjjajaaGreatDoor
namespace Go.Proofs.YtlhhgenpcjjajaaGreatDoor
open Go.RowKit
section
variable {α β : Type} {E : Env} {f0 : Nat → Nat} {n0 : Nat} {w0 : World} {f : Nat → Nat} {σ : Ab} {w : World}
theorem Does.callE {k : Nat} {args : (Nat → Nat) → Array Value} {m : M α} {val : (Nat → Nat) → α → Value} (D : Does E k args m val) (H : At E f0 n0 w0 f σ w) {R : Res β} {K : α → M β} (hR : R = (m >>= K) σ) (hs : R ≠ .stuck) {A : Array Value} (hA : args f = A) {Q : Ending → World → Prop}
    (hst : ∀ c p j w', R = .stop c p → StopAt w' j c p → Fr E.bs w0 w' → Q (stopV j) w')
    (hok : ∀ a g σ' w', At E f0 n0 w0 g σ' w' → ExF σ.nodes.length f g → Fr E.bs w w' → R = K a σ' → m σ = .ok a σ' → Q (.returned (val g a)) w') : Calls Tryz.prog k A w Q := by
  rw [M.bind_run] at hR
  have hm : m σ ≠ .stuck := fun e => hs (by rw [hR, e])
  have h := D f σ w H.rel hm
  rw [hA] at h
  refine h.mono ?_
  intro e w' hl
  cases hr : m σ with
  | ok a σ' =>
    rw [hr] at hl hR
    obtain ⟨g, h1, h2, rfl, h4, h5⟩ := hl
    exact hok a g σ' w' (H.go h4 h1 h2 h5) h1 h5 hR hr
  | stop c p =>
    rw [hr] at hl hR
    obtain ⟨j, rfl, h2, h3⟩ := hl
    exact hst c p j w' hR h2 (H.fr.trans h3)
  | stuck => exact absurd hr hm
theorem Moves.callE {k : Nat} {args : (Nat → Nat) → Array Value} {m : M α} {val : (Nat → Nat) → α → Value} (D : Moves E k args m val) (H : At E f0 n0 w0 f σ w) {R : Res β} {K : α → M β} (hR : R = (m >>= K) σ) (hs : R ≠ .stuck) {A : Array Value} (hA : args f = A) {Q : Ending → World → Prop}
    (hst : ∀ c p j w', R = .stop c p → StopAt w' j c p → Fr E.bs w0 w' → Q (stopV j) w')
    (hok : ∀ a σ' w', At E f0 n0 w0 f σ' w' → Fr E.bs w w' → R = K a σ' → m σ = .ok a σ' → Q (.returned (val f a)) w') : Calls Tryz.prog k A w Q := by
  rw [M.bind_run] at hR
  have hm : m σ ≠ .stuck := fun e => hs (by rw [hR, e])
  have h := D f σ w H.rel hm
  rw [hA] at h
  refine h.mono ?_
  intro e w' hl
  cases hr : m σ with
  | ok a σ' =>
    rw [hr] at hl hR
    obtain ⟨rfl, h4, h5, h6⟩ := hl
    exact hok a σ' w' (H.to h4 h6 h5) h5 hR hr
  | stop c p =>
    rw [hr] at hl hR
    obtain ⟨j, rfl, h2, h3⟩ := hl
    exact hst c p j w' hR h2 (H.fr.trans h3)
  | stuck => exact absurd hr hm
end
end Go.Proofs.YtlhhgenpcjjajaaGreatDoor
namespace Go.Proofs.YtlhhgenpcjjajaaGreatDoor
open Go.RowKit
attribute [local go_sem] Oper.semAt_some
def upPost (T : List Nat) (I : List (Option Nat) → World → Prop) (Ix : Code → List (Option Nat) → World → Prop) (zs : List (Option Nat)) (W : World) : Exit → Act → World → Prop
  | .normal, _, W' => Kept T W W' ∧ I zs W'
  | .ret, _, W' => Kept T W W' ∧ Ix .ret zs W'
  | .exit id, _, W' => Kept T W W' ∧ Ix (.exit id) zs W'
  | .goto t, _, W' => Kept T W W' ∧ Ix (.goto t) zs W'
  | .panic _, _, _ => False
  | .outgrown, _, _ => False
theorem map_snoc {f : Option Nat → Option Nat} {α : Type} {g : α → Option Nat} {pre : List α} {x : α} {zs : List (Option Nat)} (h : (pre ++ [x]).map g = zs.map f) : ∃ ys y, zs = ys ++ [y] ∧ pre.map g = ys.map f ∧ g x = f y := by
  rcases List.eq_nil_or_concat zs with rfl | ⟨ys, y, rfl⟩
  · simp at h
  · rw [List.concat_eq_append] at h ⊢
    simp only [List.map_append, List.map_cons, List.map_nil] at h
    obtain ⟨h1, h2⟩ := List.append_inj' h rfl
    exact ⟨ys, y, rfl, h1, by simpa using h2⟩
theorem map_inj_list {f : Option Nat → Option Nat} (hf : ∀ x y, f x = f y → x = y) : ∀ {xs ys : List (Option Nat)}, xs.map f = ys.map f → xs = ys
  | [], [], _ => rfl
  | [], _ :: _, h => by simp at h
  | _ :: _, [], h => by simp at h
  | x :: xs, y :: ys, h => by
    simp only [List.map_cons, List.cons.injEq] at h
    rw [hf x y h.1, map_inj_list hf h.2]
theorem prefix_map {f : Option Nat → Option Nat} (hf : ∀ x y, f x = f y → x = y) {zs ys : List (Option Nat)} (h : zs.map f <+: ys.map f) : zs <+: ys := by
  obtain ⟨t, ht⟩ := h
  have hl : zs.length ≤ ys.length := by have := congrArg List.length ht; simp at this; omega
  refine ⟨ys.drop zs.length, ?_⟩
  have e : zs.map f = (ys.take zs.length).map f := by
    rw [List.map_take, ← ht]; simp
  rw [map_inj_list hf e]
  have : (ys.take zs.length).length = zs.length := by simp; omega
  rw [← map_inj_list hf e]
  conv => lhs; lhs; rw [map_inj_list hf e]
  exact List.take_append_drop _ _
theorem wpIn_up {n : Nat} (hn : 3 ≤ n) {base b j : Nat} {tB : TypeId} {C : Array Value} {v : Value} {f : Option Nat → Option Nat} (hf : ∀ x y, f x = f y → x = y) {ys : List (Option Nat)} {w1 : World} (hL : Lst base b j tB C v (ys.map f) w1)
    {g : Operand} {p : Tmp} {assign body : Code} {Q : Exit → Act → World → Prop} {a : Act} (hg : a.eval g = upVal w1.heap.size)
    (T : List Nat) (hT : ∀ k ∈ T, k < w1.heap.size ∧ k ≠ b ∧ v.ownBlock ≠ some k)
    (I : List (Option Nat) → World → Prop) (Ix : Code → List (Option Nat) → World → Prop)
    (hI : OwnFrom (w1.heap.size + 2) I) (hIx : ∀ c, OwnFrom (w1.heap.size + 2) (Ix c)) (h0 : I [] (upWorld b j ys.length w1)) (a₁ : Option Nat → Act)
    (hassign : ∀ (l : Nat) (x : Option Nat) (W : World) (K : Act → World → Prop), K (a₁ x) W →
      assign.wpIn (Fence.wide.inRound l) (n - 1 - 1) Tryz.prog (Exit.then K (fun _ _ _ => False)) { tmps := a.tmps.setIfInBounds p (enc x), defers := [] } W)
    (hbody : ∀ (l : Nat) (pre : List (Option Nat)) (y : Option Nat) (W : World), y ∈ ys → I pre W → body.wpIn (Fence.wide.inRound l) (n - 1 - 1) Tryz.prog (upPost T I Ix (pre ++ [y]) W) (a₁ (f y)) W)
    (hdone : ∀ (D : Nat) (W : World), w1.heap.size + 2 ≤ D → I ys.reverse W → W.heap[D]? = some (.deferred (some [])) → Q .normal { a with defers := { target := .collected D, args := #[] } :: a.defers } W)
    (hstop : ∀ (D : Nat) (c : Code) (pre : List (Option Nat)) (W : World), w1.heap.size + 2 ≤ D → pre <+: ys.reverse → Ix c pre W → W.heap[D]? = some (.deferred (some [])) → c.wpIn Fence.wide n Tryz.prog Q { a with defers := { target := .collected D, args := #[] } :: a.defers } W) :
    (Code.rangeFunc g #[p] assign body).wpIn Fence.wide n Tryz.prog Q a (upWorld b j ys.length w1) := by
  have hsz : (upWorld b j ys.length w1).heap.size = w1.heap.size + 2 := by simp
  have hbl := lt_of_block hL.blk
  have hk0 : Kept [] w1 (upWorld b j ys.length w1) := ((Kept.refl _ _).alloc _).alloc _
  have hL2 : Lst base b j tB C v (ys.map f) (upWorld b j ys.length w1) := hL.keepsB (KeepsB.of_kept (K := b :: v.ownBlock.toList) hk0 (fun k hk => ⟨by
    rcases List.mem_cons.1 hk with rfl | hk
    · exact hbl
    · exact (hL.row.lt k (by simpa using hk)).2, by simp⟩)) (by simp) (fun k hk => by simp [hk])
  obtain ⟨b0, b1⟩ := (⟨(Below.heap_alloc _ _ _ (by simp)).trans (heap_alloc_at w1 _), by
      have := heap_alloc_at (w1.alloc (.cells #[.pointer (some ⟨b, j, none⟩)] 280 (0, 0))) (.cells #[.int .i64 (ys.length : Int)] 3 (0, 0))
      rwa [World.size_alloc] at this⟩ : (upWorld b j ys.length w1).heap[w1.heap.size]? = some (.cells #[.pointer (some ⟨b, j, none⟩)] 280 (0, 0)) ∧ (upWorld b j ys.length w1).heap[w1.heap.size + 1]? = some (.cells #[.int .i64 (ys.length : Int)] 3 (0, 0)))
  obtain ⟨K, hK⟩ : ∃ K, K = b :: w1.heap.size :: v.ownBlock.toList := ⟨_, rfl⟩
  have hKlt : ∀ k ∈ K, k < w1.heap.size + 2 := by
    intro k hk
    rw [hK] at hk
    rcases List.mem_cons.1 hk with rfl | hk
    · omega
    · rcases List.mem_cons.1 hk with rfl | hk
      · omega
      · have := (hL.row.lt k (by simpa using hk)).2; omega
  have hKT : ∀ k ∈ K, k ∉ T := by
    intro k hk hkT
    obtain ⟨t1, t2, t3⟩ := hT k hkT
    rw [hK] at hk
    rcases List.mem_cons.1 hk with rfl | hk
    · exact t2 rfl
    · rcases List.mem_cons.1 hk with rfl | hk
      · omega
      · exact t3 (by simpa using hk)
  have hup := up_stops (n - 1) (by omega) base b j tB C v (ys.map f) ys.length w1.heap.size K _ hL2 (by simp) (by rw [hK]; simp) (by rw [hK]; simp) (by intro k hk; rw [hK]; simp [hk]) (by rw [hsz]; omega) b1 b0
  have mono : ∀ {α : Type} {W W' : World} {row : Option Nat} {B : Nat}, B ≤ W.heap.size → W.grownBy W' row → B ≤ W'.heap.size := fun h1 h2 => Nat.le_trans h1 h2.size
  refine wpIn_rangeFunc_ownG rfl (by omega) (gf := 357) hg trivial (Go.Proofs.enters_of Tryz.func357 (by kernel_rfl) rfl) hup KeepsB.trans (fun W l o o' hl h1 h2 h3 => KeepsB.put (w := upWorld b j ys.length w1) (by rw [hsz]; exact hKlt) W l o o' hl h1 h2 h3) (Below.refl _ _) (fun _ => rfl)
    (fun pre W => w1.heap.size + 2 ≤ W.heap.size ∧ ∃ zs, pre.map (·.1) = zs.map f ∧ I zs W) (fun c pre W => ∃ zs, pre.map (·.1) = zs.map f ∧ Ix c zs W) ?_ ?_ ?_ (fun x => a₁ x.1) ?_ ?_ ?_ ?_
  · rintro s A B row ⟨hs, zs, h1, h2⟩ hgr hr
    rw [hsz] at hr
    exact ⟨Nat.le_trans hs hgr.size, zs, h1, hI zs A B row h2 hgr hr⟩
  · rintro c s A B row ⟨zs, h1, h2⟩ hgr hr
    rw [hsz] at hr
    exact ⟨zs, h1, hIx c zs A B row h2 hgr hr⟩
  · exact ⟨by rw [hsz]; exact Nat.le_refl _, [], rfl, h0⟩
  · intro l x W K' hK'
    have := hassign l x.1 W K' hK'
    have e : (#[p].zip #[enc x.1]).foldl (fun t (p, v) => t.setIfInBounds p v) a.tmps = a.tmps.setIfInBounds p (enc x.1) := by simp
    rw [e]; exact this
  · rintro l pre ⟨x, hx⟩ W ⟨hs, zs, h1, h2⟩ _
    obtain ⟨y, hy, rfl⟩ := List.mem_map.1 hx
    refine wpIn_mono (hbody l zs y W hy h2) ?_
    have keep : ∀ {W' : World}, Kept T W W' → KeepsFrom (upWorld b j ys.length w1).heap.size W W' := by
      intro W' hk
      refine ⟨hk.size, fun k o hBk ho _ => ?_⟩
      rw [hsz] at hBk
      rw [hk.block k (Array.getElem?_eq_some_iff.1 ho).1 (fun hkT => by have := (hT k hkT).1; omega)]
      exact ho
    have hmap : (pre ++ [(⟨f y, hx⟩ : { x : Option Nat // x ∈ ys.map f })]).map (·.1) = (zs ++ [y]).map f := by rw [List.map_append, h1]; simp
    intro e a' W' hp
    cases e with
    | normal => exact ⟨keep hp.1, KeepsB.of_kept hp.1 (fun k hk => ⟨Nat.lt_of_lt_of_le (hKlt k hk) hs, hKT k hk⟩), Nat.le_trans hs hp.1.size, _, hmap, hp.2⟩
    | ret => exact ⟨keep hp.1, _, hmap, hp.2⟩
    | exit id => exact ⟨keep hp.1, _, hmap, hp.2⟩
    | goto t => exact ⟨keep hp.1, _, hmap, hp.2⟩
    | panic _ => exact hp
    | outgrown => exact hp
  · rintro D xs W hD hS ⟨_, zs, h1, h2⟩ hK'
    rw [hsz] at hD
    have hS' : xs.map (·.1) = ((ys.map f).take ys.length).reverse := hS
    rw [h1, List.take_of_length_le (by simp), ← List.map_reverse] at hS'
    rw [map_inj_list hf hS'] at h2
    exact hdone D W hD h2 hK'
  · rintro D c pre W hD hS ⟨zs, h1, h2⟩ hK'
    rw [hsz] at hD
    have hS' : pre.map (·.1) <+: ((ys.map f).take ys.length).reverse := hS
    rw [h1, List.take_of_length_le (by simp), ← List.map_reverse] at hS'
    exact hstop D c zs W hD (prefix_map hf hS') h2 hK'
end Go.Proofs.YtlhhgenpcjjajaaGreatDoor
namespace Go.Proofs.YtlhhgenpcjjajaaGreatDoor
open Go.RowKit
attribute [local go_sem] Oper.semAt_some
theorem scope_done {σ : Ab} {p q : ByteArray → Bool} : ∀ {xs : List (Option Nat)}, (∀ y ∈ xs, p (σ.nmO y) = false ∧ q (σ.nmO y) = false) → σ.scopeL p q xs = false
  | [], _ => rfl
  | x :: xs, h => by
    unfold Ab.scopeL
    obtain ⟨h1, h2⟩ := h x (by simp)
    rw [h1, h2]
    exact scope_done fun y hy => h y (by simp [hy])
theorem scope_stop {σ : Ab} {p q : ByteArray → Bool} {r : Bool} {y : Option Nat} {rest : List (Option Nat)} (hr : (p (σ.nmO y) = true ∧ r = true) ∨ (p (σ.nmO y) = false ∧ q (σ.nmO y) = true ∧ r = false)) : ∀ {xs : List (Option Nat)}, (∀ y ∈ xs, p (σ.nmO y) = false ∧ q (σ.nmO y) = false) → σ.scopeL p q (xs ++ [y] ++ rest) = r
  | [], _ => by
    show σ.scopeL p q (y :: rest) = r
    unfold Ab.scopeL
    rcases hr with ⟨h1, rfl⟩ | ⟨h1, h2, rfl⟩
    · rw [h1]; rfl
    · rw [h1, h2]; rfl
  | x :: xs, h => by
    show σ.scopeL p q (x :: (xs ++ [y] ++ rest)) = r
    unfold Ab.scopeL
    obtain ⟨h1, h2⟩ := h x (by simp)
    rw [h1, h2]
    exact scope_stop hr fun y hy => h y (by simp [hy])
theorem Kept.take {w W : World} (h : Kept [] w W) {D : Nat} (hD : w.heap.size ≤ D) (o : Obj) : Kept [] w (W.putObj D o) := h.grown (grownBy_putObj' W D o) (fun k e => by cases e; exact .inr hD)
theorem at_grown {A B : World} {row : Option Nat} {n k : Nat} {o : Obj} (h : A.heap[k]? = some o) (hg : A.grownBy B row) (hr : ∀ r, row = some r → n ≤ r ∧ ∃ o : Obj, A.heap[r]? = some o ∧ o.isCells = false) (hk : k < n) : B.heap[k]? = some o := by
  rw [hg.block k (Array.getElem?_eq_some_iff.1 h).1 (fun e => by have := (hr k e.symm).1; omega)]; exact h
theorem kept_grown {w A B : World} {row : Option Nat} {n : Nat} (h : Kept [] w A) (hg : A.grownBy B row) (hr : ∀ r, row = some r → n ≤ r ∧ ∃ o : Obj, A.heap[r]? = some o ∧ o.isCells = false) (hn : w.heap.size ≤ n) : Kept [] w B := h.grown hg (fun k e => .inr (by have := (hr k e).1; omega))
set_option maxRecDepth 100000 in
set_option maxHeartbeats 4000000 in
theorem inScope_r {E : Env} {f : Nat → Nat} {σ : Ab} {w : World} (h : RF E f σ w) (p q : ByteArray → Bool) (vs vb : Value) (hs : Ask E.bm vs p w) (hb : Ask E.bm vb q w) :
    Calls Tryz.prog 238 #[Bp E, vs, vb] w fun e w' => e = .returned (.bool (σ.inScope p q)) ∧ Kept [] w w' := by
  obtain ⟨L, rfl, hr⟩ := h
  obtain ⟨k1, lb1, rfl, he1, hc1⟩ := hs.call
  obtain ⟨k2, lb2, rfl, he2, hc2⟩ := hb.call
  refine (callsIn_wide (n := 3)).1 ?_
  refine callsIn_of_wp_marks Tryz.func238 rfl trivial ?_ rfl
  simp only [Tryz.ntmps238, List.size_toArray, List.length_cons, List.length_nil, Nat.reduceAdd, Nat.reduceSub, Array.replicate_succ, Array.replicate_zero, List.push_toArray, List.append_toArray, List.nil_append, List.cons_append]
  obtain ⟨w1, hw1⟩ : ∃ w1, w1 = ((w.alloc (.cells #[.func (.func k1) #[] lb1] 89 (0, 0))).alloc (.cells #[.func (.func k2) #[] lb2] 89 (0, 0))).alloc (.cells #[.bool false] 4 (0, 0)) := ⟨_, rfl⟩
  have hk1 : Kept [] w w1 := by rw [hw1]; exact (((Kept.refl _ _).alloc _).alloc _).alloc _
  obtain ⟨b0, b1, b2⟩ := three_blocks w (.cells #[.func (.func k1) #[] lb1] 89 (0, 0)) (.cells #[.func (.func k2) #[] lb2] 89 (0, 0)) (.cells #[.bool false] 4 (0, 0))
  rw [← hw1] at b0 b1 b2
  have hz1 : w1.heap.size = w.heap.size + 1 + 1 + 1 := by rw [hw1]; simp
  have hr1 := hr.kept0 hk1
  obtain ⟨C, hL, hC⟩ := hr1.lstO
  have hl1 := hr.lt
  have HL := hide hL
  have HU := hide (l_up E.bs E.bB 188 _ C _ _ w1 hL)
  have H1 := hide hc1
  have H2 := hide hc2
  have HO := hide (fun g (hg : L.ov.ownBlock = some g) => row_lt hr.orow hg)
  have HN := hide (fun (W : World) (hk : Kept [] w W) (i : Nat) (e : AEl) (hi : σ.el? i = some e) => (hr.kept0 hk).nameAt hi)
  have HS := hide (fun (y : Option Nat) (hy : y ∈ σ.opn) => hr.opn_some hy)
  have HI := hide hr.inj
  clear hr hr1 hC hc1 hc2 hs hb hL
  gi_wp2_with (refine ⟨trivial, ?_⟩; gi_at_call 294; rw [← hw1]; refine (callsIn_wide.2 HU.out).mono ?_; rintro e w' ⟨rfl, rfl⟩)
  rw [← hz1, ← hw1]
  have HZ := hide hz1
  clear hz1 hw1
  refine wpIn_up (by omega) (f := omap L.at') (fun x y e => omap_inj HI.out e) HL.out (by rfl) [w.heap.size + 1 + 1] ?_
    (fun pre W => Kept [] w W ∧ W.heap[w.heap.size]? = some (.cells #[.func (.func k1) #[] lb1] 89 (0, 0)) ∧ W.heap[w.heap.size + 1]? = some (.cells #[.func (.func k2) #[] lb2] 89 (0, 0)) ∧ W.heap[w.heap.size + 1 + 1]? = some (.cells #[.bool false] 4 (0, 0)) ∧ ∀ y ∈ pre, p (σ.nmO y) = false ∧ q (σ.nmO y) = false)
    (fun c pre W => c = .ret ∧ Kept [] w W ∧ ∃ pre' y r, pre = pre' ++ [y] ∧ (∀ y ∈ pre', p (σ.nmO y) = false ∧ q (σ.nmO y) = false) ∧ ((p (σ.nmO y) = true ∧ r = true) ∨ (p (σ.nmO y) = false ∧ q (σ.nmO y) = true ∧ r = false)) ∧ W.heap[w.heap.size + 1 + 1]? = some (.cells #[.bool r] 4 (0, 0)))
    ?_ ?_ ?_ (fun x => { tmps := #[Bp E, .func (.func k1) #[] lb1, .func (.func k2) #[] lb2, undef, .pointer (some ⟨w.heap.size, 0, none⟩), .pointer (some ⟨w.heap.size + 1, 0, none⟩), .pointer (some ⟨w.heap.size + 1 + 1, 0, none⟩), enc x, Bp E, .pointer (some ⟨E.bB, 0, none⟩), .pointer (some ⟨E.bB, 188, none⟩), upVal w1.heap.size, enc x, undef, undef, undef, undef, undef, undef, undef, undef, undef, undef, undef, undef, undef, undef], defers := [] }) ?assign ?body ?done ?stop
  · intro k hk
    have := List.mem_singleton.1 hk
    subst this
    have hz1 := HZ.out
    exact ⟨by omega, by omega, fun h => by have := HO.out _ h; omega⟩
  · rintro s A B row ⟨h1, h2, h3, h4, h5⟩ hg hr
    have hz1 := HZ.out
    exact ⟨kept_grown h1 hg hr (by omega), at_grown h2 hg hr (by omega), at_grown h3 hg hr (by omega), at_grown h4 hg hr (by omega), h5⟩
  · rintro c s A B row ⟨h0, h1, pre', y, r, h2, h3, h4, h5⟩ hg hr
    have hz1 := HZ.out
    exact ⟨h0, kept_grown h1 hg hr (by omega), pre', y, r, h2, h3, h4, at_grown h5 hg hr (by omega)⟩
  · have hk : Kept [] w1 (upWorld E.bB 188 (σ.opn.length) w1) := ((Kept.refl _ _).alloc _).alloc _
    exact ⟨hk1.trans hk, hk.at b0 (by simp), hk.at b1 (by simp), hk.at b2 (by simp), by simp⟩
  case assign =>
    intro l x W K hK
    gi_wp2
    exact hK
  case body =>
    rintro l pre y W hy ⟨h1, h2, h3, h4, h5⟩
    obtain ⟨i, e0, rfl, hi⟩ := HS.out y hy
    have c0 := HN.out W h1 i e0 hi
    have c1 : W.cell? ⟨w.heap.size, 0, none⟩ = some (.func (.func k1) #[] lb1) := by rw [cell_at h2]; rfl
    have c2 : W.cell? ⟨w.heap.size + 1, 0, none⟩ = some (.func (.func k2) #[] lb2) := by rw [cell_at h3]; rfl
    have c3 : W.cell? ⟨w.heap.size + 1 + 1, 0, none⟩ = some (.bool false) := by rw [cell_at h4]; rfl
    have f3 := free_at h4 0
    have HA := hide (fun W' (hk : Kept [] w W') => H1.out W' (.of_kept0 hk) (σ.nm i))
    have HB := hide (fun W' (hk : Kept [] w W') => H2.out W' (.of_kept0 hk) (σ.nm i))
    have HK := hide h1
    have B2 := hide h2
    have B3 := hide h3
    have B4 := hide h4
    have B5 := hide h5
    have HW := hide h1.drew
    have HT : Hid (∀ (r : Bool), Kept [w.heap.size + 1 + 1] W ((W.drew).setCell ⟨w.heap.size + 1 + 1, 0, none⟩ (.bool r)) ∧ Kept [] w ((W.drew).setCell ⟨w.heap.size + 1 + 1, 0, none⟩ (.bool r)) ∧ ((W.drew).setCell ⟨w.heap.size + 1 + 1, 0, none⟩ (.bool r)).heap[w.heap.size + 1 + 1]? = some (.cells #[.bool r] 4 (0, 0))) := fun r => ⟨((Kept.refl _ W).drew).setCell (.inl (by simp)) _, h1.drew.setCell (.inr (by simp; omega)) _, block_setCell (show W.drew.heap[w.heap.size + 1 + 1]? = _ from h4) 0 _⟩
    have HT2 : Hid (∀ (r : Bool), Kept [w.heap.size + 1 + 1] W ((W.drew.drew).setCell ⟨w.heap.size + 1 + 1, 0, none⟩ (.bool r)) ∧ Kept [] w ((W.drew.drew).setCell ⟨w.heap.size + 1 + 1, 0, none⟩ (.bool r)) ∧ ((W.drew.drew).setCell ⟨w.heap.size + 1 + 1, 0, none⟩ (.bool r)).heap[w.heap.size + 1 + 1]? = some (.cells #[.bool r] 4 (0, 0))) := fun r => ⟨((Kept.refl _ W).drew.drew).setCell (.inl (by simp)) _, h1.drew.drew.setCell (.inr (by simp; omega)) _, block_setCell (show W.drew.drew.heap[w.heap.size + 1 + 1]? = _ from h4) 0 _⟩
    have HN : Hid (Kept [w.heap.size + 1 + 1] W W.drew.drew) := (Kept.refl _ W).drew.drew
    clear h1 h2 h3 h4 h5
    try dsimp only
    rw [show enc (omap L.at' (some i)) = .pointer (some ⟨L.at' i, 0, none⟩) from rfl]
    have hmx : Tryz.prog.follows .mixedOrders = true := by kernel_rfl
    gi_wp2
    refine wpIn_mono (Q := fun e a' w' => e = Exit.normal ∧ a' = ({ tmps := #[Bp E, .func (.func k1) #[] lb1, .func (.func k2) #[] lb2, undef, .pointer (some ⟨w.heap.size, 0, none⟩), .pointer (some ⟨w.heap.size + 1, 0, none⟩), .pointer (some ⟨w.heap.size + 1 + 1, 0, none⟩), .pointer (some ⟨L.at' i, 0, none⟩), Bp E, .pointer (some ⟨E.bB, 0, none⟩), .pointer (some ⟨E.bB, 188, none⟩), upVal w1.heap.size, .pointer (some ⟨L.at' i, 0, none⟩), .bool (p (σ.nm i)), .func (.func k1) #[] lb1, .pointer (some ⟨L.at' i, 0, none⟩), .pointer (some ⟨L.at' i, 0, none⟩), .pointer (some ⟨L.at' i, 0, none⟩), .string (σ.nm i), .bool (p (σ.nm i)), undef, undef, undef, undef, undef, undef, undef], defers := [] } : Act) ∧ w' = W.drew) ?_ ?_
    · gi_region_with_o (refine ⟨trivial, ?_⟩; refine (CallsIn.inRound l (callsIn_wide.2 (HA.out _ HW.out))).mono ?_; rintro e w' ⟨rfl, rfl⟩)
      all_goals exact ⟨rfl, rfl, rfl⟩
    rintro e a' w' ⟨rfl, rfl, rfl⟩
    cases hp : p (σ.nm i) with
    | true =>
      gi_wp2
      obtain ⟨t1, t2, t3⟩ := HT.out true
      exact ⟨t1, rfl, t2, pre, some i, true, rfl, B5.out, .inl ⟨hp, rfl⟩, t3⟩
    | false =>
      have HP := hide hp
      clear hp
      gi_wp2
      refine wpIn_mono (Q := fun e a' w' => e = Exit.normal ∧ a' = ({ tmps := #[Bp E, .func (.func k1) #[] lb1, .func (.func k2) #[] lb2, undef, .pointer (some ⟨w.heap.size, 0, none⟩), .pointer (some ⟨w.heap.size + 1, 0, none⟩), .pointer (some ⟨w.heap.size + 1 + 1, 0, none⟩), .pointer (some ⟨L.at' i, 0, none⟩), Bp E, .pointer (some ⟨E.bB, 0, none⟩), .pointer (some ⟨E.bB, 188, none⟩), upVal w1.heap.size, .pointer (some ⟨L.at' i, 0, none⟩), .bool false, .func (.func k1) #[] lb1, .pointer (some ⟨L.at' i, 0, none⟩), .pointer (some ⟨L.at' i, 0, none⟩), .pointer (some ⟨L.at' i, 0, none⟩), .string (σ.nm i), .bool false, .bool (q (σ.nm i)), .func (.func k2) #[] lb2, .pointer (some ⟨L.at' i, 0, none⟩), .pointer (some ⟨L.at' i, 0, none⟩), .pointer (some ⟨L.at' i, 0, none⟩), .string (σ.nm i), .bool (q (σ.nm i))], defers := [] } : Act) ∧ w' = W.drew.drew) ?_ ?_
      · gi_region_with_o (refine ⟨trivial, ?_⟩; refine (CallsIn.inRound l (callsIn_wide.2 (HB.out _ HW.out.drew))).mono ?_; rintro e w' ⟨rfl, rfl⟩)
        all_goals exact ⟨rfl, rfl, rfl⟩
      rintro e a' w' ⟨rfl, rfl, rfl⟩
      cases hq : q (σ.nm i) with
      | true =>
        gi_wp2
        obtain ⟨t1, t2, t3⟩ := HT2.out false
        exact ⟨t1, rfl, t2, pre, some i, false, rfl, B5.out, .inr ⟨HP.out, hq, rfl⟩, t3⟩
      | false =>
        have HQ := hide hq
        clear hq
        gi_wp2
        refine ⟨HN.out, HK.out.drew.drew, B2.out, B3.out, B4.out, fun y hy => ?_⟩
        rcases List.mem_append.1 hy with hy | hy
        · exact B5.out y hy
        · rw [List.mem_singleton.1 hy]; exact ⟨HP.out, HQ.out⟩
  case done =>
    rintro D W hD ⟨h1, h2, h3, h4, h5⟩ hK
    have hz1 := HZ.out
    have c3 : W.cell? ⟨w.heap.size + 1 + 1, 0, none⟩ = some (.bool false) := by rw [cell_at h4]; rfl
    have f3 := free_at h4 0
    have HK := hide h1
    have hsc : σ.inScope p q = false := scope_done (fun y hy => h5 y hy)
    have HD := hide hD
    clear h1 h2 h3 hz1 hD h5
    gi_wp2
    have hK' := (KeepsOthers.setCell W ⟨w.heap.size + 1 + 1, 0, none⟩ (.bool false)).same D _ hK rfl
    refine ⟨by simp, .inl ⟨_, _, rfl, run_takeDeferred hK', ?_⟩⟩
    have hc5 := cell_kept (World.cell?_setCell_same' W ⟨w.heap.size + 1 + 1, 0, none⟩ (.bool false) (by rw [c3]; rfl)) (grownBy_putObj' _ D (.deferred none)) (fun r e => by cases e; exact ⟨_, hK', rfl⟩)
    refine ⟨.bool false, ?_, ⟨by rw [hsc], ?_⟩⟩
    · simp [results, Tryz.results238, go_sem, hc5]
    · have hz1 := HZ.out
      have hD := HD.out
      exact (HK.out.setCell (.inr (by simp; omega)) _).take (by omega) _
  case stop =>
    rintro D c pre W hD hpre ⟨rfl, h1, pre', y, r, rfl, h3, h4, h5⟩ hK
    obtain ⟨rest, hrest⟩ := hpre
    have hsc : σ.inScope p q = r := by unfold Ab.inScope; rw [← hrest]; exact scope_stop h4 h3
    have c3 : W.cell? ⟨w.heap.size + 1 + 1, 0, none⟩ = some (.bool r) := by rw [cell_at h5]; rfl
    have HK := hide h1
    have HD := hide hD
    clear h1 h3 h4 h5 hrest hD
    gi_wp2
    refine ⟨by simp, .inl ⟨_, _, rfl, run_takeDeferred hK, ?_⟩⟩
    have hc5 := cell_kept c3 (grownBy_putObj' _ D (.deferred none)) (fun r e => by cases e; exact ⟨_, hK, rfl⟩)
    refine ⟨.bool r, ?_, ⟨by rw [hsc], ?_⟩⟩
    · simp [results, Tryz.results238, go_sem, hc5]
    · have hz1 := HZ.out
      have hD := HD.out
      exact HK.out.take (by omega) _
end Go.Proofs.YtlhhgenpcjjajaaGreatDoor
namespace Go.Proofs.YtlhhgenpcjjajaaGreatDoor
open Go.RowKit
theorem RF.rel {E : Env} {f : Nat → Nat} {σ : Ab} {w : World} (h : RF E f σ w) : ∃ L, L.at' = f ∧ Rel E L σ w := h
def FosterOk (E : Env) : Prop := Moves E 267 (fun _ => #[Bp E]) fosterPlace pV
theorem nV_new (f : Nat → Nat) (n k : Nat) : nV (fnew f n k) n = .pointer (some ⟨k, 0, none⟩) := by unfold nV; rw [fnew_self]
theorem tableParts_ok (E : Env) (w : World) : Calls Tryz.prog 221 #[] w fun e w' => ∃ k lb, e = .returned (.func (.func k) #[] lb) ∧ Ask E.bm (.func (.func k) #[] lb) tableP w' ∧ Kept [] w w' := by
  have C := hide (is_at E.bm [(⟨#[116, 97, 98, 108, 101]⟩ : ByteArray), (⟨#[116, 98, 111, 100, 121]⟩ : ByteArray), (⟨#[116, 102, 111, 111, 116]⟩ : ByteArray), (⟨#[116, 104, 101, 97, 100]⟩ : ByteArray), (⟨#[116, 114]⟩ : ByteArray)] w (by decide))
  go_enter Tryz.func221, Tryz.ntmps221
  go_wp2_with fail
  refine C.out.mono ?_
  rintro e w1 ⟨f1, a1, l1, rfl, ha1, hk1⟩
  obtain ⟨k, lb, e0, _, _⟩ := ha1.call
  cases e0
  have HA := hide ha1
  have HK := hide hk1
  clear ha1 hk1
  go_wp2
  go_ret
  exact ⟨_, _, rfl, HA.out, HK.out⟩
set_option maxHeartbeats 2000000 in
theorem insert_m (E : Env) (hP : Moves E 105 (fun _ => #[Bp E]) placeM pV) (j : Nat) : Moves E 268 (fun f => #[Bp E, nV f j]) (insertM j) uV := by
  intro f σ w h hs
  obtain ⟨R, hR⟩ : ∃ R, R = (insertM j) σ := ⟨_, rfl⟩
  rw [← hR] at hs ⊢
  unfold insertM at hR
  have HS := hide hs
  have H := hide (At.start h)
  have HR := hide hR
  clear h hs hR
  go_enter Tryz.func268, Tryz.ntmps268
  go_wp2_with fail
  refine Moves.call (hP) H.out HR.out HS.out (rfl) ?_ ?_
  · intro c p j ws h1 h2 h3
    have H1 := hide h1
    have H2 := hide h2
    have H3 := hide h3
    clear h1 h2 h3
    go_wp2
    exact ⟨rfl, moves_stop H1.out H2.out H3.out⟩
  rintro (pl) σ w h1 h2 h3
  have HF := hide h2
  replace H := hide h1
  replace HR := hide h3
  clear h1 h2 h3
  try dsimp only at HR
  go_wp2_with fail
  refine Moves.call (putEl_m E pl j) H.out HR.out HS.out (rfl) ?_ ?_
  · intro c p j ws h1 h2 h3
    have H1 := hide h1
    have H2 := hide h2
    have H3 := hide h3
    clear h1 h2 h3
    go_wp2
    exact ⟨rfl, moves_stop H1.out H2.out H3.out⟩
  rintro (_) σ w h1 h2 h3
  have HF := hide h2
  replace H := hide h1
  replace HR := hide h3
  clear h1 h2 h3
  try dsimp only at HR
  go_wp2_with fail
  refine Moves.call (push_m E (some j)) H.out HR.out HS.out (rfl) ?_ ?_
  · intro c p j ws h1 h2 h3
    have H1 := hide h1
    have H2 := hide h2
    have H3 := hide h3
    clear h1 h2 h3
    go_wp2
    exact ⟨rfl, moves_stop H1.out H2.out H3.out⟩
  rintro (_) σ w h1 h2 h3
  have HF := hide h2
  replace H := hide h1
  replace HR := hide h3
  clear h1 h2 h3
  try dsimp only at HR
  go_wp2
  go_end0
  exact moves_ok HR.out H.out rfl
set_option maxHeartbeats 2000000 in
theorem insertNamed_d (E : Env) (hP : Moves E 105 (fun _ => #[Bp E]) placeM pV) (s : ByteArray) : Does E 188 (fun _ => #[Bp E, .string s]) (insertNamed s) uV := by
  intro f σ w h hs
  obtain ⟨R, hR⟩ : ∃ R, R = (insertNamed s) σ := ⟨_, rfl⟩
  rw [← hR] at hs ⊢
  unfold insertNamed at hR
  have HS := hide hs
  have H := hide (At.start h)
  have HR := hide hR
  clear h hs hR
  go_enter Tryz.func188, Tryz.ntmps188
  have H2 := hide (H.out.newEl s)
  replace HR : Hid (R = (insertM σ.nodes.length >>= fun _ => pure ()) (σ.add (.el { name := s, attrs := [], par := none, kids := [] }))) := HR
  clear H
  have H := H2
  clear H2
  go_wp2_with fail
  refine Moves.call (insert_m E hP σ.nodes.length) H.out HR.out HS.out (by rw [nV_new]) ?_ ?_
  · intro c p j ws h1 h2 h3
    have H1 := hide h1
    have H2 := hide h2
    have H3 := hide h3
    clear h1 h2 h3
    go_wp2
    exact ⟨rfl, leaves_stop H1.out H2.out H3.out⟩
  rintro (_) σ w h1 h2 h3
  have HF := hide h2
  replace H := hide h1
  replace HR := hide h3
  clear h1 h2 h3
  try dsimp only at HR
  go_wp2
  go_end0
  exact leaves_ok HR.out H.out rfl
end Go.Proofs.YtlhhgenpcjjajaaGreatDoor
namespace Go.Proofs.YtlhhgenpcjjajaaGreatDoor
open Go.RowKit
abbrev Asks1 (E : Env) (p : ByteArray → Bool) (w : World) (e : Ending) (w' : World) : Prop := ∃ k lb, e = .returned (.func (.func k) #[] lb) ∧ Ask E.bm (.func (.func k) #[] lb) p w' ∧ Kept [] w w'
theorem RF.bounds {E : Env} {f : Nat → Nat} {σ : Ab} {w : World} (h : RF E f σ w) : ∃ k lb, w.cell? ⟨E.bB, 186, none⟩ = some (.func (.func k) #[] lb) ∧ Ask E.bm (.func (.func k) #[] lb) pBounds w := by
  obtain ⟨L, _, hr⟩ := h
  obtain ⟨f1, a1, l1, c, ha⟩ := hr.bounds
  obtain ⟨k, lb, e, _, _⟩ := ha.call
  cases e
  exact ⟨_, _, c, ha⟩
theorem RF.special {E : Env} {f : Nat → Nat} {σ : Ab} {w : World} (h : RF E f σ w) : ∃ k lb, w.cell? ⟨E.bB, 184, none⟩ = some (.func (.func k) #[] lb) ∧ Ask E.bm (.func (.func k) #[] lb) pSpecial w := by
  obtain ⟨L, _, hr⟩ := h
  obtain ⟨f1, a1, l1, c, ha⟩ := hr.special
  obtain ⟨k, lb, e, _, _⟩ := ha.call
  cases e
  exact ⟨_, _, c, ha⟩
theorem RF.lt {E : Env} {f : Nat → Nat} {σ : Ab} {w : World} (h : RF E f σ w) : E.bB < w.heap.size := by obtain ⟨L, _, hr⟩ := h; exact hr.lt
theorem is_one (E : Env) (ss : List ByteArray) (w : World) (hle : ss.length ≤ 4096) :
    Calls Tryz.prog 225 #[.slice (some ⟨w.heap.size, 0, none⟩) ss.length ss.length] (w.alloc (.cells (ss.map Value.string).toArray 9 (0, 0))) (Asks1 E (hasS ss) w) := by
  refine (is_at E.bm ss w hle).mono ?_
  rintro e w' ⟨f1, a1, l1, rfl, ha, hk⟩
  obtain ⟨k, lb, e, _, _⟩ := ha.call
  cases e
  exact ⟨_, _, rfl, ha, hk⟩
theorem or_one (E : Env) (v1 v2 : Value) (p q : ByteArray → Bool) (w : World) (hp : Ask E.bm v1 p w) (hq : Ask E.bm v2 q w) :
    Calls Tryz.prog 245 #[v1, v2] w (Asks1 E (fun s => p s || q s) w) := by
  refine (or_at E.bm v1 v2 p q w hp hq).mono ?_
  rintro e w' ⟨f1, a1, l1, rfl, ha, hk⟩
  obtain ⟨k, lb, e, _, _⟩ := ha.call
  cases e
  exact ⟨_, _, rfl, ha, hk⟩
set_option maxHeartbeats 2000000 in
theorem buttonBounds_ok {E : Env} {f : Nat → Nat} {σ : Ab} {w : World} (h : RF E f σ w) : Calls Tryz.prog 286 #[Bp E] w (Asks1 E buttonB w) := by
  obtain ⟨kb, lbb, cb, hb⟩ := h.bounds
  have hlt := h.lt
  have HB := hide hb
  have HC := hide cb
  have C1 := hide (is_one E [(⟨#[98, 117, 116, 116, 111, 110]⟩ : ByteArray)] w.drew (by decide))
  clear h hb
  go_enter Tryz.func286, Tryz.ntmps286
  go_wp2_with fail
  go_region_with (first
    | (go_at_call 225; refine C1.out.mono ?_; rintro e w1 ⟨k1, lb1, rfl, ha1, hk1⟩; have c1 : w1.cell? ⟨E.bB, 186, none⟩ = some (.func (.func kb) #[] lbb) := (hk1.cell (p := ⟨E.bB, 186, none⟩) hlt (by simp)).trans HC.out; have HA1 := hide ha1; have HK1 := hide hk1; clear ha1 hk1)
    | (go_at_call 245; refine (or_one E _ _ _ _ _ (HB.out.k0 (((Kept.refl _ w).drew).trans HK1.out)) HA1.out).mono ?_; rintro e w2 ⟨k2, lb2, rfl, ha2, hk2⟩; have HA2 := hide ha2; have HK2 := hide ((((Kept.refl _ w).drew).trans HK1.out).trans hk2); clear ha2 hk2))
  all_goals go_wp2
  all_goals go_ret
  all_goals exact ⟨_, _, rfl, HA2.out, HK2.out⟩
set_option maxHeartbeats 2000000 in
theorem itemBounds_ok {E : Env} {f : Nat → Nat} {σ : Ab} {w : World} (h : RF E f σ w) : Calls Tryz.prog 285 #[Bp E] w (Asks1 E itemB w) := by
  obtain ⟨kb, lbb, cb, hb⟩ := h.bounds
  have hlt := h.lt
  have HB := hide hb
  have HC := hide cb
  have C1 := hide (is_one E [(⟨#[117, 108]⟩ : ByteArray)] w.drew (by decide))
  clear h hb
  go_enter Tryz.func285, Tryz.ntmps285
  go_wp2_with fail
  go_region_with (first
    | (go_at_call 225; refine C1.out.mono ?_; rintro e w1 ⟨k1, lb1, rfl, ha1, hk1⟩; have c1 : w1.cell? ⟨E.bB, 186, none⟩ = some (.func (.func kb) #[] lbb) := (hk1.cell (p := ⟨E.bB, 186, none⟩) hlt (by simp)).trans HC.out; have HA1 := hide ha1; have HK1 := hide hk1; clear ha1 hk1)
    | (go_at_call 245; refine (or_one E _ _ _ _ _ (HB.out.k0 (((Kept.refl _ w).drew).trans HK1.out)) HA1.out).mono ?_; rintro e w2 ⟨k2, lb2, rfl, ha2, hk2⟩; have HA2 := hide ha2; have HK2 := hide ((((Kept.refl _ w).drew).trans HK1.out).trans hk2); clear ha2 hk2))
  all_goals go_wp2
  all_goals go_ret
  all_goals exact ⟨_, _, rfl, HA2.out, HK2.out⟩
theorem tableBounds_ok (E : Env) (w : World) : Calls Tryz.prog 229 #[] w (Asks1 E tableB w) := by
  have C := hide (is_one E [(⟨#[104, 116, 109, 108]⟩ : ByteArray), (⟨#[116, 97, 98, 108, 101]⟩ : ByteArray)] w (by decide))
  go_enter Tryz.func229, Tryz.ntmps229
  go_wp2_with fail
  refine C.out.mono ?_
  rintro e w1 ⟨k, lb, rfl, ha1, hk1⟩
  have HA := hide ha1
  have HK := hide hk1
  clear ha1 hk1
  go_wp2
  go_ret
  exact ⟨_, _, rfl, HA.out, HK.out⟩
theorem tableQ_ok (E : Env) (w : World) : Calls Tryz.prog 128 #[] w (Asks1 E (hasS [(⟨#[116, 97, 98, 108, 101]⟩ : ByteArray)]) w) := by
  have C := hide (is_one E [(⟨#[116, 97, 98, 108, 101]⟩ : ByteArray)] w (by decide))
  go_enter Tryz.func128, Tryz.ntmps128
  go_wp2_with fail
  refine C.out.mono ?_
  rintro e w1 ⟨k, lb, rfl, ha1, hk1⟩
  have HA := hide ha1
  have HK := hide hk1
  clear ha1 hk1
  go_wp2
  go_ret
  exact ⟨_, _, rfl, HA.out, HK.out⟩
theorem tableBodies_ok (E : Env) (w : World) : Calls Tryz.prog 140 #[] w (Asks1 E (hasS [(⟨#[116, 98, 111, 100, 121]⟩ : ByteArray), (⟨#[116, 102, 111, 111, 116]⟩ : ByteArray), (⟨#[116, 104, 101, 97, 100]⟩ : ByteArray)]) w) := by
  have C := hide (is_one E [(⟨#[116, 98, 111, 100, 121]⟩ : ByteArray), (⟨#[116, 102, 111, 111, 116]⟩ : ByteArray), (⟨#[116, 104, 101, 97, 100]⟩ : ByteArray)] w (by decide))
  go_enter Tryz.func140, Tryz.ntmps140
  go_wp2_with fail
  refine C.out.mono ?_
  rintro e w1 ⟨k, lb, rfl, ha1, hk1⟩
  have HA := hide ha1
  have HK := hide hk1
  clear ha1 hk1
  go_wp2
  go_ret
  exact ⟨_, _, rfl, HA.out, HK.out⟩
theorem rowQ_ok (E : Env) (w : World) : Calls Tryz.prog 239 #[] w (Asks1 E (hasS [(⟨#[116, 114]⟩ : ByteArray)]) w) := by
  have C := hide (is_one E [(⟨#[116, 114]⟩ : ByteArray)] w (by decide))
  go_enter Tryz.func239, Tryz.ntmps239
  go_wp2_with fail
  refine C.out.mono ?_
  rintro e w1 ⟨k, lb, rfl, ha1, hk1⟩
  have HA := hide ha1
  have HK := hide hk1
  clear ha1 hk1
  go_wp2
  go_ret
  exact ⟨_, _, rfl, HA.out, HK.out⟩
theorem cellsQ_ok (E : Env) (w : World) : Calls Tryz.prog 240 #[] w (Asks1 E (hasS [(⟨#[116, 100]⟩ : ByteArray), (⟨#[116, 104]⟩ : ByteArray)]) w) := by
  have C := hide (is_one E [(⟨#[116, 100]⟩ : ByteArray), (⟨#[116, 104]⟩ : ByteArray)] w (by decide))
  go_enter Tryz.func240, Tryz.ntmps240
  go_wp2_with fail
  refine C.out.mono ?_
  rintro e w1 ⟨k, lb, rfl, ha1, hk1⟩
  have HA := hide ha1
  have HK := hide hk1
  clear ha1 hk1
  go_wp2
  go_ret
  exact ⟨_, _, rfl, HA.out, HK.out⟩
theorem headings_ok (E : Env) (w : World) : Calls Tryz.prog 279 #[] w (Asks1 E (hasS [(⟨#[104, 49]⟩ : ByteArray), (⟨#[104, 50]⟩ : ByteArray)]) w) := by
  have C := hide (is_one E [(⟨#[104, 49]⟩ : ByteArray), (⟨#[104, 50]⟩ : ByteArray)] w (by decide))
  go_enter Tryz.func279, Tryz.ntmps279
  go_wp2_with fail
  refine C.out.mono ?_
  rintro e w1 ⟨k, lb, rfl, ha1, hk1⟩
  have HA := hide ha1
  have HK := hide hk1
  clear ha1 hk1
  go_wp2
  go_ret
  exact ⟨_, _, rfl, HA.out, HK.out⟩
theorem optionQ_ok (E : Env) (w : World) : Calls Tryz.prog 242 #[] w (Asks1 E (hasS [(⟨#[111, 112, 116, 105, 111, 110]⟩ : ByteArray)]) w) := by
  have C := hide (is_one E [(⟨#[111, 112, 116, 105, 111, 110]⟩ : ByteArray)] w (by decide))
  go_enter Tryz.func242, Tryz.ntmps242
  go_wp2_with fail
  refine C.out.mono ?_
  rintro e w1 ⟨k, lb, rfl, ha1, hk1⟩
  have HA := hide ha1
  have HK := hide hk1
  clear ha1 hk1
  go_wp2
  go_ret
  exact ⟨_, _, rfl, HA.out, HK.out⟩
theorem optgroupQ_ok (E : Env) (w : World) : Calls Tryz.prog 243 #[] w (Asks1 E (hasS [(⟨#[111, 112, 116, 103, 114, 111, 117, 112]⟩ : ByteArray)]) w) := by
  have C := hide (is_one E [(⟨#[111, 112, 116, 103, 114, 111, 117, 112]⟩ : ByteArray)] w (by decide))
  go_enter Tryz.func243, Tryz.ntmps243
  go_wp2_with fail
  refine C.out.mono ?_
  rintro e w1 ⟨k, lb, rfl, ha1, hk1⟩
  have HA := hide ha1
  have HK := hide hk1
  clear ha1 hk1
  go_wp2
  go_ret
  exact ⟨_, _, rfl, HA.out, HK.out⟩
end Go.Proofs.YtlhhgenpcjjajaaGreatDoor
