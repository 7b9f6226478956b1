import Derived.Test.YtlhhgenpcjjajaaGreatDoorDoA
import Derived.Test.YtlhhgenpcjjajaaGreatDoorLsE
import Derived.RangeFuncWrites
import Derived.RegionIn
import Derived.TacticsIn
import Derived.Test.YtlhhgenpcjjajaaGreatDoorRelE
set_option linter.unusedSimpArgs false
set_option linter.unusedVariables false
namespace Go.Proofs.YtlhhgenpcjjajaaGreatDoor
open Go.RowKit
section
variable {α β : Type} {E : Env} {f0 : Nat → Nat} {n0 : Nat} {w0 : World} {f : Nat → Nat} {σ : Ab} {w : World}
theorem Does.callE {k : Nat} {args : (Nat → Nat) → Array Value} {m : M α} {val : (Nat → Nat) → α → Value} (D : Does E k args m val) (H : At E f0 n0 w0 f σ w) {R : Res β} {K : α → M β} (hR : R = (m >>= K) σ) (hs : R ≠ .stuck) {A : Array Value} (hA : args f = A) {Q : Ending → World → Prop}
    (hst : ∀ c p j w', R = .stop c p → StopAt w' j c p → Fr E.bs w0 w' → Q (stopV j) w')
    (hok : ∀ a g σ' w', At E f0 n0 w0 g σ' w' → ExF σ.nodes.length f g → Fr E.bs w w' → R = K a σ' → m σ = .ok a σ' → Q (.returned (val g a)) w') : Calls Tryz.prog k A w Q := by
  rw [M.bind_run] at hR
  have hm : m σ ≠ .stuck := fun e => hs (by rw [hR, e])
  have h := D f σ w H.rel hm
  rw [hA] at h
  refine h.mono ?_
  intro e w' hl
  cases hr : m σ with
  | ok a σ' =>
    rw [hr] at hl hR
    obtain ⟨g, h1, h2, rfl, h4, h5⟩ := hl
    exact hok a g σ' w' (H.go h4 h1 h2 h5) h1 h5 hR hr
  | stop c p =>
    rw [hr] at hl hR
    obtain ⟨j, rfl, h2, h3⟩ := hl
    exact hst c p j w' hR h2 (H.fr.trans h3)
  | stuck => exact absurd hr hm
theorem Moves.callE {k : Nat} {args : (Nat → Nat) → Array Value} {m : M α} {val : (Nat → Nat) → α → Value} (D : Moves E k args m val) (H : At E f0 n0 w0 f σ w) {R : Res β} {K : α → M β} (hR : R = (m >>= K) σ) (hs : R ≠ .stuck) {A : Array Value} (hA : args f = A) {Q : Ending → World → Prop}
    (hst : ∀ c p j w', R = .stop c p → StopAt w' j c p → Fr E.bs w0 w' → Q (stopV j) w')
    (hok : ∀ a σ' w', At E f0 n0 w0 f σ' w' → Fr E.bs w w' → R = K a σ' → m σ = .ok a σ' → Q (.returned (val f a)) w') : Calls Tryz.prog k A w Q := by
  rw [M.bind_run] at hR
  have hm : m σ ≠ .stuck := fun e => hs (by rw [hR, e])
  have h := D f σ w H.rel hm
  rw [hA] at h
  refine h.mono ?_
  intro e w' hl
  cases hr : m σ with
  | ok a σ' =>
    rw [hr] at hl hR
    obtain ⟨rfl, h4, h5, h6⟩ := hl
    exact hok a σ' w' (H.to h4 h6 h5) h5 hR hr
  | stop c p =>
    rw [hr] at hl hR
    obtain ⟨j, rfl, h2, h3⟩ := hl
    exact hst c p j w' hR h2 (H.fr.trans h3)
  | stuck => exact absurd hr hm
end
end Go.Proofs.YtlhhgenpcjjajaaGreatDoor
namespace Go.Proofs.YtlhhgenpcjjajaaGreatDoor
open Go.RowKit
attribute [local go_sem] Oper.semAt_some
theorem map_inj_list {f : Option Nat → Option Nat} (hf : ∀ x y, f x = f y → x = y) : ∀ {xs ys : List (Option Nat)}, xs.map f = ys.map f → xs = ys
  | [], [], _ => rfl
  | [], _ :: _, h => by simp at h
  | _ :: _, [], h => by simp at h
  | x :: xs, y :: ys, h => by
    simp only [List.map_cons, List.cons.injEq] at h
    rw [hf x y h.1, map_inj_list hf h.2]
theorem prefix_map {f : Option Nat → Option Nat} (hf : ∀ x y, f x = f y → x = y) {zs ys : List (Option Nat)} (h : zs.map f <+: ys.map f) : zs <+: ys := by
  obtain ⟨t, ht⟩ := h
  have hl : zs.length ≤ ys.length := by have := congrArg List.length ht; simp at this; omega
  refine ⟨ys.drop zs.length, ?_⟩
  have e : zs.map f = (ys.take zs.length).map f := by
    rw [List.map_take, ← ht]; simp
  rw [map_inj_list hf e]
  have : (ys.take zs.length).length = zs.length := by simp; omega
  rw [← map_inj_list hf e]
  conv => lhs; lhs; rw [map_inj_list hf e]
  exact List.take_append_drop _ _
end Go.Proofs.YtlhhgenpcjjajaaGreatDoor
namespace Go.Proofs.YtlhhgenpcjjajaaGreatDoor
open Go.RowKit
attribute [local go_sem] Oper.semAt_some
theorem Kept.take {w W : World} (h : Kept [] w W) {D : Nat} (hD : w.heap.size ≤ D) (o : Obj) : Kept [] w (W.putObj D o) := h.grown (grownBy_putObj' W D o) (fun k e => by cases e; exact .inr hD)
theorem at_grown {A B : World} {row : Option Nat} {n k : Nat} {o : Obj} (h : A.heap[k]? = some o) (hg : A.grownBy B row) (hr : ∀ r, row = some r → n ≤ r ∧ ∃ o : Obj, A.heap[r]? = some o ∧ o.isCells = false) (hk : k < n) : B.heap[k]? = some o := by
  rw [hg.block k (Array.getElem?_eq_some_iff.1 h).1 (fun e => by have := (hr k e.symm).1; omega)]; exact h
theorem kept_grown {w A B : World} {row : Option Nat} {n : Nat} (h : Kept [] w A) (hg : A.grownBy B row) (hr : ∀ r, row = some r → n ≤ r ∧ ∃ o : Obj, A.heap[r]? = some o ∧ o.isCells = false) (hn : w.heap.size ≤ n) : Kept [] w B := h.grown hg (fun k e => .inr (by have := (hr k e).1; omega))
end Go.Proofs.YtlhhgenpcjjajaaGreatDoor
namespace Go.Proofs.YtlhhgenpcjjajaaGreatDoor
open Go.RowKit
theorem RF.rel {E : Env} {f : Nat → Nat} {σ : Ab} {w : World} (h : RF E f σ w) : ∃ L, L.at' = f ∧ Rel E L σ w := h
def FosterOk (E : Env) : Prop := Moves E 267 (fun _ => #[Bp E]) fosterPlace pV
theorem nV_new (f : Nat → Nat) (n k : Nat) : nV (fnew f n k) n = .pointer (some ⟨k, 0, none⟩) := by unfold nV; rw [fnew_self]
theorem tableParts_ok (E : Env) (w : World) : Calls Tryz.prog 221 #[] w fun e w' => ∃ k lb, e = .returned (.func (.func k) #[] lb) ∧ Ask E.bm (.func (.func k) #[] lb) tableP w' ∧ Kept [] w w' := by
  have C := hide (is_at E.bm [(⟨#[116, 97, 98, 108, 101]⟩ : ByteArray), (⟨#[116, 98, 111, 100, 121]⟩ : ByteArray), (⟨#[116, 102, 111, 111, 116]⟩ : ByteArray), (⟨#[116, 104, 101, 97, 100]⟩ : ByteArray), (⟨#[116, 114]⟩ : ByteArray)] w (by decide))
  go_enter Tryz.func221, Tryz.ntmps221
  go_wp2_with fail
  refine C.out.mono ?_
  rintro e w1 ⟨f1, a1, l1, rfl, ha1, hk1⟩
  obtain ⟨k, lb, e0, _, _⟩ := ha1.call
  cases e0
  have HA := hide ha1
  have HK := hide hk1
  clear ha1 hk1
  go_wp2
  go_ret
  exact ⟨_, _, rfl, HA.out, HK.out⟩
set_option maxHeartbeats 2000000 in
theorem insert_m (E : Env) (hP : Moves E 105 (fun _ => #[Bp E]) placeM pV) (j : Nat) : Moves E 268 (fun f => #[Bp E, nV f j]) (insertM j) uV := by
  intro f σ w h hs
  obtain ⟨R, hR⟩ : ∃ R, R = (insertM j) σ := ⟨_, rfl⟩
  rw [← hR] at hs ⊢
  unfold insertM at hR
  have HS := hide hs
  have H := hide (At.start h)
  have HR := hide hR
  clear h hs hR
  go_enter Tryz.func268, Tryz.ntmps268
  go_wp2_with fail
  refine Moves.call (hP) H.out HR.out HS.out (rfl) ?_ ?_
  · intro c p j ws h1 h2 h3
    have H1 := hide h1
    have H2 := hide h2
    have H3 := hide h3
    clear h1 h2 h3
    go_wp2
    exact ⟨rfl, moves_stop H1.out H2.out H3.out⟩
  rintro (pl) σ w h1 h2 h3
  have HF := hide h2
  replace H := hide h1
  replace HR := hide h3
  clear h1 h2 h3
  try dsimp only at HR
  go_wp2_with fail
  refine Moves.call (putEl_m E pl j) H.out HR.out HS.out (rfl) ?_ ?_
  · intro c p j ws h1 h2 h3
    have H1 := hide h1
    have H2 := hide h2
    have H3 := hide h3
    clear h1 h2 h3
    go_wp2
    exact ⟨rfl, moves_stop H1.out H2.out H3.out⟩
  rintro (_) σ w h1 h2 h3
  have HF := hide h2
  replace H := hide h1
  replace HR := hide h3
  clear h1 h2 h3
  try dsimp only at HR
  go_wp2_with fail
  refine Moves.call (push_m E (some j)) H.out HR.out HS.out (rfl) ?_ ?_
  · intro c p j ws h1 h2 h3
    have H1 := hide h1
    have H2 := hide h2
    have H3 := hide h3
    clear h1 h2 h3
    go_wp2
    exact ⟨rfl, moves_stop H1.out H2.out H3.out⟩
  rintro (_) σ w h1 h2 h3
  have HF := hide h2
  replace H := hide h1
  replace HR := hide h3
  clear h1 h2 h3
  try dsimp only at HR
  go_wp2
  go_end0
  exact moves_ok HR.out H.out rfl
set_option maxHeartbeats 2000000 in
theorem insertNamed_d (E : Env) (hP : Moves E 105 (fun _ => #[Bp E]) placeM pV) (s : ByteArray) : Does E 188 (fun _ => #[Bp E, .string s]) (insertNamed s) uV := by
  intro f σ w h hs
  obtain ⟨R, hR⟩ : ∃ R, R = (insertNamed s) σ := ⟨_, rfl⟩
  rw [← hR] at hs ⊢
  unfold insertNamed at hR
  have HS := hide hs
  have H := hide (At.start h)
  have HR := hide hR
  clear h hs hR
  go_enter Tryz.func188, Tryz.ntmps188
  have H2 := hide (H.out.newEl s)
  replace HR : Hid (R = (insertM σ.nodes.length >>= fun _ => pure ()) (σ.add (.el { name := s, attrs := [], par := none, kids := [] }))) := HR
  clear H
  have H := H2
  clear H2
  go_wp2_with fail
  refine Moves.call (insert_m E hP σ.nodes.length) H.out HR.out HS.out (by rw [nV_new]) ?_ ?_
  · intro c p j ws h1 h2 h3
    have H1 := hide h1
    have H2 := hide h2
    have H3 := hide h3
    clear h1 h2 h3
    go_wp2
    exact ⟨rfl, leaves_stop H1.out H2.out H3.out⟩
  rintro (_) σ w h1 h2 h3
  have HF := hide h2
  replace H := hide h1
  replace HR := hide h3
  clear h1 h2 h3
  try dsimp only at HR
  go_wp2
  go_end0
  exact leaves_ok HR.out H.out rfl
end Go.Proofs.YtlhhgenpcjjajaaGreatDoor
namespace Go.Proofs.YtlhhgenpcjjajaaGreatDoor
open Go.RowKit
theorem RF.lt {E : Env} {f : Nat → Nat} {σ : Ab} {w : World} (h : RF E f σ w) : E.bB < w.heap.size := by obtain ⟨L, _, hr⟩ := h; exact hr.lt
end Go.Proofs.YtlhhgenpcjjajaaGreatDoor
namespace Go.Proofs.YtlhhgenpcjjajaaGreatDoor
open Go.RowKit
def setMode (m : Nat) : M Unit := upd fun σ => { σ with mode := m }
def aRepl (x y : Option Nat) : M Unit := fun σ => if σ.isEl x && σ.isEl y then .ok () { σ with act := repl σ.act x y } else .stuck
def anotherM (i : Nat) : M Nat := fun σ => match σ.el? i with
  | some e => if givable e.name then .stuck else .ok σ.nodes.length (σ.add (.el { name := e.name, attrs := e.attrs, par := none, kids := [] }))
  | none => .stuck
def Ab.isMO (σ : Ab) (x : Option Nat) : Bool := decide (x = none) || decide (x ∈ σ.opn)
def Ab.recL (σ : Ab) : List (Option Nat) → Nat
  | [] => 0
  | x :: r => if σ.isMO x then r.length + 1 else σ.recL r
def Ab.recN (σ : Ab) : Nat := σ.recL σ.act.reverse
def actAt (n : Nat) : M Nat := fun σ => match getAt σ.act (n : Int) with
  | some i => .ok i σ
  | none => .stuck
def aReplLast (old : Nat) : M Unit := fun σ => aRepl (some old) σ.last σ
def recM : Nat → Nat → M Unit
  | 0, _ => pure ()
  | k + 1, n => do
    let old ← actAt n
    let j ← anotherM old
    insertM j
    aReplLast old
    recM k (n + 1)
def reconstruct : M Unit := fun σ => recM (σ.act.length - σ.recN) σ.recN σ
def startOther (t : ATok) : M Unit := do
  reconstruct
  insertTag t
  return ()
def ahead (f : Nat) : M Nat := fun σ => match getAt σ.opn (posOf σ.opn (some f) - 1) with
  | some i => .ok i σ
  | none => .stuck
end Go.Proofs.YtlhhgenpcjjajaaGreatDoor
namespace Go.Proofs.YtlhhgenpcjjajaaGreatDoor
open Go.RowKit
section
variable (rec : Nat → ATok → M Unit) (t : ATok)
def takeM : M Unit := fun σ => rec σ.mode t σ
def docEnd : M (Nat × Nat) := endOf 0
def startWithoutDoctype : M Unit := do
  upd fun σ => { σ with quirks := true }
  setMode 1
  takeM rec t
  return ()
def newElA (name : ByteArray) (own : Bool) (ats : List (ByteArray × ByteArray)) : M Nat := fun σ => if own then (if σ.fresh then .ok σ.nodes.length (σ.addF (.el { name := name, attrs := ats, par := none, kids := [] }) false) else .stuck) else .ok σ.nodes.length (σ.add (.el { name := name, attrs := [], par := none, kids := [] }))
def openHTML (own : Bool) (ats : List (ByteArray × ByteArray)) : M Unit := do
  let e ← newElA (⟨#[104, 116, 109, 108]⟩ : ByteArray) own ats
  let pl ← docEnd
  putEl pl e
  pushM (some e)
  setMode 2
  return ()
def impliedHTML : M Unit := do
  openHTML false []
  takeM rec t
  return ()
def openHead (own : Bool) (ats : List (ByteArray × ByteArray)) : M Unit := do
  let e ← newElA (⟨#[104, 101, 97, 100]⟩ : ByteArray) own ats
  upd fun σ => { σ with head := some e }
  insertM e
  setMode 3
  return ()
def impliedHead : M Unit := do
  openHead false []
  takeM rec t
  return ()
def endHead : M Unit := do
  let _ ← pop'
  setMode 4
  return ()
def impliedEndOfHead : M Unit := do
  endHead
  takeM rec t
  return ()
def impliedBody : M Unit := do
  insertNamed (⟨#[98, 111, 100, 121]⟩ : ByteArray)
  setMode 6
  takeM rec t
  return ()
def charInBody : M Unit := if isNulS t.chars then pure () else do
  reconstruct
  insertChar t
  return ()
end
end Go.Proofs.YtlhhgenpcjjajaaGreatDoor
namespace Go.Proofs.YtlhhgenpcjjajaaGreatDoor
open Go.RowKit
theorem To.ml {E : Env} {L : Loc} {σ σ' : Ab} {w w' : World} {α : Type} {val : (Nat → Nat) → α → Value} {a : α} {e : Ending} (h : To E L σ' w w') (he : e = .returned (val L.at' a)) (hl : σ.nodes.length ≤ σ'.nodes.length) : MLeaves E L.at' σ.nodes.length w (.ok a σ') val e w' := by
  obtain ⟨L', e1, h3, h4⟩ := h
  exact ⟨he, ⟨L', e1, h3⟩, h4, hl⟩
abbrev zPl : Obj := .cells #[.pointer none, .int .i64 0] 235 (0, 0)
theorem M.bind_pure {α : Type} (m : M α) (σ : Ab) : (m >>= fun a => (Pure.pure a : M α)) σ = m σ := by
  rw [M.bind_run]; cases m σ <;> rfl
set_option maxHeartbeats 2000000 in
set_option maxRecDepth 100000 in
theorem placeFor_m (E : Env) (hF : FosterOk E) (i : Nat) : Moves E 178 (fun f => #[Bp E, nV f i]) (placeFor i) pV := by
  intro f σ w h hs
  have HB := hide (heap_alloc_at w zPl)
  have hlt := h.lt
  have H0 := hide ((At.start h).k0 ((Kept.refl _ w).alloc zPl))
  have c195 : w.cell? ⟨E.bB, 195, none⟩ = some (.bool σ.fostering) := (At.start h).c195
  obtain ⟨R, hR⟩ : ∃ R, R = placeFor i σ := ⟨_, rfl⟩
  rw [← hR] at hs ⊢
  have HS := hide hs
  unfold placeFor at hR
  cases hfo : σ.fostering with
  | false =>
    rw [hfo] at hR c195
    rw [if_neg (by simp)] at hR
    have H := H0
    have HR : Hid (R = (endOf i >>= fun pl => pure pl) σ) := hide (hR.trans (M.bind_pure (endOf i) σ).symm)
    clear h hs hR hfo H0
    go_enter Tryz.func178, Tryz.ntmps178
    go_wp2_with fail
    go_quiet (fail)
    replace H := hide (H.out.k0 ((Kept.refl _ (w.alloc zPl)).drewN nq))
    go_wp2_with fail
    refine Moves.call (end_m E i) H.out HR.out HS.out rfl ?_ ?_
    · intro c p j ws h1 h2 h3
      have H1 := hide h1
      have H2 := hide h2
      have H3 := hide h3
      clear h1 h2 h3
      go_wp2
      exact ⟨rfl, moves_stop H1.out H2.out H3.out⟩
    rintro pl σ1 w1 h1 h2 h3
    have hb := ((Fr.of_kept0 ((Kept.refl _ (w.alloc zPl)).drewN nq)).trans h2).cell HB.out (by decide)
    have c0 : w1.cell? ⟨w.heap.size, 0, none⟩ = some (.pointer none) := by rw [cell_at hb]; rfl
    have c1 : w1.cell? ⟨w.heap.size, 1, none⟩ = some (.int .i64 0) := by rw [cell_at hb]; rfl
    have f0 := free_at hb 0
    have f1 := free_at hb 1
    replace H := hide (((h1.side hb (by decide) (Nat.le_refl _) 0 (.pointer (some ⟨f pl.1, 0, none⟩))).side (block_setCell hb 0 _) (by decide) (Nat.le_refl _) 1 (.int .i64 (pl.2 : Int))))
    replace HR := hide h3
    have hb2 := hide (block_setCell (block_setCell hb 0 (.pointer (some ⟨f pl.1, 0, none⟩))) 1 (.int .i64 (pl.2 : Int)))
    clear h1 h2 h3
    go_wp2
    refine bodyPost_ret (v := pV f pl) ?_ rfl (moves_ok HR.out H.out rfl)
    simp [results, Tryz.results178, asAddr, Result.andThen, go_sem, cell_at hb2.out]
  | true =>
    rw [hfo] at hR c195
    have hel : ∃ e, σ.el? i = some e := by
      cases he : σ.el? i with
      | some e => exact ⟨e, rfl⟩
      | none =>
        exfalso
        have hnm : σ.nm i = ⟨#[]⟩ := by unfold Ab.nm; rw [he]
        have htp : tableP (σ.nm i) = false := by rw [hnm]; simp [tableP, hasS, eqS, ByteArray.toList_eq]
        rw [htp] at hR
        simp only [Bool.and_false, Bool.false_eq_true, if_false] at hR
        apply hs
        rw [hR]
        unfold endOf
        rw [he]
    obtain ⟨e0, he0⟩ := hel
    have hN : ∀ W, Kept [] w W → W.cell? ⟨f i, 0, none⟩ = some (.string (σ.nm i)) := by
      intro W hk
      obtain ⟨L, rfl, hr⟩ := h
      exact (hr.kept0 hk).nameAt he0
    have cN := hN w (Kept.refl _ _)
    have HN := hide hN
    have hlt2 : f i < w.heap.size := by
      obtain ⟨L, rfl, hr⟩ := h
      exact hr.at_lt (Ab.lt_of_el he0)
    have HR := hide hR
    have HS0 := hide (At.start h)
    clear h hs hR hN
    go_enter Tryz.func178, Tryz.ntmps178
    go_wp2_with fail
    go_cut [16] from 5 to 15 (fun b wc => b = .bool (tableP (σ.nm i)) ∧ Kept [] w wc ∧ wc.heap[w.heap.size]? = some zPl)
    case first =>
      go_region_with (first
        | (go_at_call 221; refine (tableParts_ok E _).mono ?_; rintro e w1 ⟨k1, lb1, rfl, ha1, hk1⟩; have hk0 : Kept [] w w1 := (((Kept.refl _ w).alloc zPl).drew).trans hk1; have c1 := HN.out w1 hk0; obtain ⟨k1', lb1', e1, he1, hc1⟩ := ha1.call; cases e1; have HC1 := hide (hc1 w1 (FrN.refl _ _) (σ.nm i)); have HK1 := hide hk0; have HB1 := hide (hk1.at HB.out (by simp)); clear ha1 hk1 hk0 hc1)
        | (refine HC1.out.mono ?_; rintro e w2 ⟨rfl, rfl⟩))
      all_goals (try (go_wp2_with fail))
      all_goals (go_meet; exact ⟨rfl, HK1.out, HB1.out⟩)
    case rest =>
      obtain ⟨rfl, hk, hb0⟩ := hcut
      have H : Hid (At E f σ.nodes.length w f σ wc) := hide (HS0.out.k0 hk)
      have HBc := hide hb0
      clear hk hb0 HN cN HB H0 c195
      cases htp : tableP (σ.nm i) with
      | true =>
        have HR2 : Hid (R = (fosterPlace >>= fun pl => (Pure.pure pl : M (Nat × Nat))) σ) := by
          refine hide ?_
          rw [M.bind_pure]
          have := HR.out
          rw [htp] at this
          exact this
        replace HR := HR2
        clear htp HR2
        go_wp2_with fail
        refine Moves.call hF H.out HR.out HS.out rfl ?_ ?_
        · intro c p j ws h1 h2 h3
          have H1 := hide h1
          have H2 := hide h2
          have H3 := hide h3
          clear h1 h2 h3
          go_wp2
          exact ⟨rfl, moves_stop H1.out H2.out H3.out⟩
        rintro pl σ1 w1 h1 h2 h3
        have hb := h2.cell HBc.out (by decide)
        have c0 : w1.cell? ⟨w.heap.size, 0, none⟩ = some (.pointer none) := by rw [cell_at hb]; rfl
        have c1 : w1.cell? ⟨w.heap.size, 1, none⟩ = some (.int .i64 0) := by rw [cell_at hb]; rfl
        have f0 := free_at hb 0
        have f1 := free_at hb 1
        replace H := hide (((h1.side hb (by decide) (Nat.le_refl _) 0 (.pointer (some ⟨f pl.1, 0, none⟩))).side (block_setCell hb 0 _) (by decide) (Nat.le_refl _) 1 (.int .i64 (pl.2 : Int))))
        replace HR := hide h3
        have hb2 := hide (block_setCell (block_setCell hb 0 (.pointer (some ⟨f pl.1, 0, none⟩))) 1 (.int .i64 (pl.2 : Int)))
        clear h1 h2 h3
        go_wp2
        refine bodyPost_ret (v := pV f pl) ?_ rfl (moves_ok HR.out H.out rfl)
        simp [results, Tryz.results178, asAddr, Result.andThen, go_sem, cell_at hb2.out]
      | false =>
        have HR2 : Hid (R = (endOf i >>= fun pl => (Pure.pure pl : M (Nat × Nat))) σ) := by
          refine hide ?_
          rw [M.bind_pure]
          have := HR.out
          rw [htp] at this
          exact this
        replace HR := HR2
        clear htp HR2
        go_wp2_with fail
        refine Moves.call (end_m E i) H.out HR.out HS.out rfl ?_ ?_
        · intro c p j ws h1 h2 h3
          have H1 := hide h1
          have H2 := hide h2
          have H3 := hide h3
          clear h1 h2 h3
          go_wp2
          exact ⟨rfl, moves_stop H1.out H2.out H3.out⟩
        rintro pl σ1 w1 h1 h2 h3
        have hb := h2.cell HBc.out (by decide)
        have c0 : w1.cell? ⟨w.heap.size, 0, none⟩ = some (.pointer none) := by rw [cell_at hb]; rfl
        have c1 : w1.cell? ⟨w.heap.size, 1, none⟩ = some (.int .i64 0) := by rw [cell_at hb]; rfl
        have f0 := free_at hb 0
        have f1 := free_at hb 1
        replace H := hide (((h1.side hb (by decide) (Nat.le_refl _) 0 (.pointer (some ⟨f pl.1, 0, none⟩))).side (block_setCell hb 0 _) (by decide) (Nat.le_refl _) 1 (.int .i64 (pl.2 : Int))))
        replace HR := hide h3
        have hb2 := hide (block_setCell (block_setCell hb 0 (.pointer (some ⟨f pl.1, 0, none⟩))) 1 (.int .i64 (pl.2 : Int)))
        clear h1 h2 h3
        go_wp2
        refine bodyPost_ret (v := pV f pl) ?_ rfl (moves_ok HR.out H.out rfl)
        simp [results, Tryz.results178, asAddr, Result.andThen, go_sem, cell_at hb2.out]
set_option maxHeartbeats 2000000 in
theorem place_m (E : Env) (hF : FosterOk E) : Moves E 105 (fun _ => #[Bp E]) placeM pV := by
  intro f σ w h hs
  cases hl : σ.last with
  | none => exfalso; apply hs; unfold placeM; rw [hl]
  | some i =>
    have e0 : placeM σ = (placeFor i >>= fun pl => pure pl) σ := by
      unfold placeM; rw [hl, M.bind_pure]
    obtain ⟨R, hR⟩ : ∃ R, R = placeM σ := ⟨_, rfl⟩
    have C1 : Hid (Calls Tryz.prog 179 #[.pointer (some ⟨E.bB, 188, none⟩)] (w.alloc zPl) fun e w' => e = .returned (.pointer (some ⟨f i, 0, none⟩)) ∧ w' = w.alloc zPl) := by
      obtain ⟨L, rfl, hr⟩ := h
      have := o_last (hr.kept0 ((Kept.refl _ w).alloc zPl))
      rw [show getAt σ.opn ((σ.opn.length : Int) - 1) = some i from hl] at this
      exact this
    rw [← hR] at hs ⊢
    rw [e0] at hR
    have HS := hide hs
    have H := hide ((At.start h).k0 ((Kept.refl _ w).alloc zPl))
    have HR := hide hR
    have HB := hide (heap_alloc_at w zPl)
    have hlt := h.lt
    clear h hs hR e0 hl
    go_enter Tryz.func105, Tryz.ntmps105
    go_wp2_with fail
    refine C1.out.mono ?_
    rintro e w' ⟨rfl, rfl⟩
    go_wp2_with fail
    refine Moves.call (placeFor_m E hF i) H.out HR.out HS.out rfl ?_ ?_
    · intro c p j ws h1 h2 h3
      have H1 := hide h1
      have H2 := hide h2
      have H3 := hide h3
      clear h1 h2 h3
      go_wp2
      exact ⟨rfl, moves_stop H1.out H2.out H3.out⟩
    rintro pl σ1 w1 h1 h2 h3
    have hb := h2.cell HB.out (by decide)
    have c0 : w1.cell? ⟨w.heap.size, 0, none⟩ = some (.pointer none) := by rw [cell_at hb]; rfl
    have c1 : w1.cell? ⟨w.heap.size, 1, none⟩ = some (.int .i64 0) := by rw [cell_at hb]; rfl
    have f0 := free_at hb 0
    have f1 := free_at hb 1
    replace H := hide (((h1.side hb (by decide) (Nat.le_refl _) 0 (.pointer (some ⟨f pl.1, 0, none⟩))).side (block_setCell hb 0 _) (by decide) (Nat.le_refl _) 1 (.int .i64 (pl.2 : Int))))
    replace HR := hide h3
    have hb2 := hide (block_setCell (block_setCell hb 0 (.pointer (some ⟨f pl.1, 0, none⟩))) 1 (.int .i64 (pl.2 : Int)))
    clear h1 h2 h3
    go_wp2
    refine bodyPost_ret (v := pV f pl) ?_ rfl (moves_ok HR.out H.out rfl)
    simp [results, Tryz.results105, asAddr, Result.andThen, go_sem, cell_at hb2.out]
end Go.Proofs.YtlhhgenpcjjajaaGreatDoor
namespace Go.Proofs.YtlhhgenpcjjajaaGreatDoor
open Go.RowKit
theorem RF.tv {E : Env} {f : Nat → Nat} {σ : Ab} {w : World} (h : RF E f σ w) : ∃ ao n cp, E.tv = .slice ao n cp := by
  obtain ⟨L, _, hr⟩ := h
  obtain ⟨ao, cap, e⟩ := owns_shape hr.tok
  exact ⟨ao, _, cap, e⟩
section
variable (E : Env) (hF : FosterOk E)
include hF
theorem insert_p (j : Nat) : Moves E 268 (fun f => #[Bp E, nV f j]) (insertM j) uV := insert_m E (place_m E hF) j
theorem insertNamed_p (s : ByteArray) : Does E 188 (fun _ => #[Bp E, .string s]) (insertNamed s) uV := insertNamed_d E (place_m E hF) s
set_option maxHeartbeats 2000000 in
theorem insertTag_p (t : ATok) (ht : TokOk E t) : Does E 183 (fun _ => #[Bp E, tokV E t]) (insertTag t) uV := by
  intro f σ w h hs
  obtain ⟨ao, n, cp, htv⟩ := h.tv
  have hst : t.isTag = true ∧ σ.fresh = true := by
    unfold insertTag at hs
    rw [M.bind_run] at hs
    unfold newTagEl at hs
    cases hc : (σ.fresh && t.isTag) with
    | true => simp at hc; exact ⟨hc.2, hc.1⟩
    | false => simp [hc] at hs
  have hta := ht hst.1
  have htg : t.tagAttrs = E.ta ∧ tagV E t = #[.int .i64 (t.a : Int), .int .i64 (t.b : Int), .string t.name, .slice ao n cp] := by
    obtain ⟨a, b, k, ats⟩ := t
    cases k <;> simp_all [ATok.isTag, ATok.tagAttrs, tagV, ATok.name]
  obtain ⟨R, hR⟩ : ∃ R, R = (insertTag t) σ := ⟨_, rfl⟩
  rw [← hR] at hs ⊢
  have hR2 : R = (insertM σ.nodes.length >>= fun _ => (Pure.pure () : M Unit)) (σ.addF (.el { name := t.name, attrs := E.ta, par := none, kids := [] }) false) := by
    rw [hR]
    unfold insertTag
    rw [M.bind_run]
    unfold newTagEl
    simp only [hst.1, hst.2, htg.1, Bool.and_self, if_true]
  have HS := hide hs
  have HR := hide hR2
  have C1 := tagOf_ok E t w ⟨ao, n, cp, htv⟩
  rw [htg.2] at C1
  have HC1 := hide C1
  have H := hide (At.start h)
  have hlt := h.lt
  have HFr := hide hst.2
  clear h hs hR hR2 hst hta htg C1
  go_enter Tryz.func183, Tryz.ntmps183
  go_wp2_with fail
  refine HC1.out.mono ?_
  rintro e w1 ⟨rfl, hk⟩
  replace H := hide ((H.out.k0 (hk.alloc (.cells #[.int .i64 (t.a : Int), .int .i64 (t.b : Int), .string t.name, .slice ao n cp] 194 (0, 0)))).newTagEl HFr.out t.name)
  rw [htv] at H
  clear hk HC1
  go_wp2_with fail
  refine Moves.call (insert_p E hF σ.nodes.length) H.out HR.out HS.out (by rw [nV_new]; simp) ?_ ?_
  · intro c p j ws h1 h2 h3
    have H1 := hide h1
    have H2 := hide h2
    have H3 := hide h3
    clear h1 h2 h3
    go_wp2
    exact ⟨rfl, leaves_stop H1.out H2.out H3.out⟩
  rintro (_) σ w h1 h2 h3
  have HF := hide h2
  replace H := hide h1
  replace HR := hide h3
  clear h1 h2 h3
  try dsimp only at HR
  go_wp2
  go_end0
  exact leaves_ok HR.out H.out rfl
set_option maxHeartbeats 2000000 in
theorem insertChar_p (t : ATok) : Does E 109 (fun _ => #[Bp E, tokV E t]) (insertChar t) uV := by
  intro f σ w h hs
  obtain ⟨R, hR⟩ : ∃ R, R = (insertChar t) σ := ⟨_, rfl⟩
  rw [← hR] at hs ⊢
  unfold insertChar at hR
  have HS := hide hs
  have H := hide (At.start h)
  have HR := hide hR
  clear h hs hR
  go_enter Tryz.func109, Tryz.ntmps109
  go_wp2_with fail
  refine Moves.call (place_m E hF) H.out HR.out HS.out (rfl) ?_ ?_
  · intro c p j ws h1 h2 h3
    have H1 := hide h1
    have H2 := hide h2
    have H3 := hide h3
    clear h1 h2 h3
    go_wp2
    exact ⟨rfl, leaves_stop H1.out H2.out H3.out⟩
  rintro (pl) σ w h1 h2 h3
  have HF := hide h2
  replace H := hide h1
  replace HR := hide h3
  clear h1 h2 h3
  try dsimp only at HR
  go_wp2_with fail
  refine (charsOf_ok E t _).mono ?_
  rintro e w1 ⟨rfl, hk⟩
  replace H := hide (H.out.k0 hk)
  clear hk
  go_wp2_with fail
  refine Does.call (putChars_d E pl t.chars) H.out HR.out HS.out (rfl) ?_ ?_
  · intro c p j ws h1 h2 h3
    have H1 := hide h1
    have H2 := hide h2
    have H3 := hide h3
    clear h1 h2 h3
    go_wp2
    exact ⟨rfl, leaves_stop H1.out H2.out H3.out⟩
  rintro (_) f σ w h1 h0 h2 h3
  have HX := hide h0
  have HF := hide h2
  clear h0
  replace H := hide h1
  replace HR := hide h3
  clear h1 h2 h3
  try dsimp only at HR
  go_wp2
  go_end0
  exact leaves_ok HR.out H.out rfl
end
end Go.Proofs.YtlhhgenpcjjajaaGreatDoor
namespace Go.Proofs.YtlhhgenpcjjajaaGreatDoor
open Go.RowKit
end Go.Proofs.YtlhhgenpcjjajaaGreatDoor
namespace Go.Proofs.YtlhhgenpcjjajaaGreatDoor
open Go.RowKit
theorem At.c187 {E : Env} {f0 : Nat → Nat} {n0 : Nat} {w0 : World} {f : Nat → Nat} {σ : Ab} {w : World} (h : At E f0 n0 w0 f σ w) : w.cell? ⟨E.bB, 187, none⟩ = some (nV f 0) := by
  obtain ⟨L, rfl, hr⟩ := h.rel
  exact hr.low (by decide) hr.env.doc
theorem len_le (σ σ' : Ab) (h : σ'.nodes = σ.nodes) : σ.nodes.length ≤ σ'.nodes.length := by rw [h]; exact Nat.le_refl _
theorem aRepl_m (E : Env) (x y : Option Nat) : Moves E 276 (fun f => #[.pointer (some ⟨E.bB, 189, none⟩), oV f x, oV f y]) (aRepl x y) uV := by
  intro f σ w ⟨L, e, hr⟩ hs
  subst e
  unfold aRepl at hs ⊢
  by_cases hx : (σ.isEl x && σ.isEl y) = true
  · rw [if_pos hx]; simp at hx; exact (a_replace hr x y hx.1 hx.2).mono (fun e w' h => h.2.ml h.1 (len_le _ _ rfl))
  · rw [if_neg hx] at hs; exact absurd rfl hs
theorem pop'_m (E : Env) : Moves E 184 (fun _ => #[.pointer (some ⟨E.bB, 188, none⟩)]) pop' oV := pop_m E
theorem another_d (E : Env) (i : Nat) : Does E 275 (fun f => #[nV f i]) (anotherM i) nV := by
  intro f σ w ⟨L, e, hr⟩ hs
  subst e
  unfold anotherM at hs ⊢
  cases hi : σ.el? i with
  | none => rw [hi] at hs; exact absurd rfl hs
  | some e =>
    simp only [hi] at hs ⊢
    by_cases hg : givable e.name = true
    · rw [if_pos hg] at hs; exact absurd rfl hs
    · rw [if_neg hg]
      refine (t_another hr hi (by simpa using hg)).mono ?_
      rintro e' w' ⟨L', h1, rfl, h2, h3⟩
      exact ⟨L'.at', h1, by simp [Ab.add], rfl, ⟨L', rfl, h2⟩, h3⟩
theorem RF.doc0 {E : Env} {f : Nat → Nat} {σ : Ab} {w : World} (h : RF E f σ w) : 0 < σ.nodes.length := by
  obtain ⟨L, _, hr⟩ := h; exact Ab.isEl_lt (σ := σ) (i := 0) hr.wf.doc
theorem nV_old {f : Nat → Nat} {n k i : Nat} (h : i < n) : nV (fnew f n k) i = nV f i := by unfold nV; rw [fnew_ext f n k i h]
section
variable (E : Env) (hF : FosterOk E) (rec : Nat → ATok → M Unit)
variable (hA : ∀ (m : Nat) (t : ATok), TokOk E t → Does E 171 (fun _ => #[Bp E, .int .i64 (m : Int), tokV E t]) (rec m t) uV)
include hA in
theorem take_p (t : ATok) (ht : TokOk E t) : Does E 95 (fun _ => #[Bp E, tokV E t]) (takeM rec t) uV := by
  intro f σ w h hs
  obtain ⟨R, hR⟩ : ∃ R, R = takeM rec t σ := ⟨_, rfl⟩
  rw [← hR] at hs ⊢
  have hR2 : R = (rec σ.mode t >>= fun _ => (Pure.pure () : M Unit)) σ := by
    rw [hR, M.bind_pure]; rfl
  have HS := hide hs
  have HR := hide hR2
  have H := hide (At.start h)
  have c1 := H.out.c192
  have hlt := h.lt
  clear h hs hR hR2
  go_enter Tryz.func95, Tryz.ntmps95
  go_wp2_with fail
  refine Does.call (hA σ.mode t ht) H.out HR.out HS.out (rfl) ?_ ?_
  · intro c p j ws h1 h2 h3
    have H1 := hide h1
    have H2 := hide h2
    have H3 := hide h3
    clear h1 h2 h3
    go_wp2
    exact ⟨rfl, leaves_stop H1.out H2.out H3.out⟩
  rintro (_) f σ w h1 h0 h2 h3
  have HX := hide h0
  have HF := hide h2
  clear h0
  replace H := hide h1
  replace HR := hide h3
  clear h1 h2 h3
  try dsimp only at HR
  go_wp2
  go_end0
  exact leaves_ok HR.out H.out rfl
include hA in
set_option maxHeartbeats 2000000 in
theorem startWithoutDoctype_p (t : ATok) (ht : TokOk E t) : Does E 101 (fun _ => #[Bp E, tokV E t]) (startWithoutDoctype rec t) uV := by
  intro f σ w h hs
  obtain ⟨R, hR⟩ : ∃ R, R = (startWithoutDoctype rec t) σ := ⟨_, rfl⟩
  rw [← hR] at hs ⊢
  unfold startWithoutDoctype at hR
  have HS := hide hs
  have H := hide (At.start h)
  have HR := hide hR
  clear h hs hR
  go_enter Tryz.func101, Tryz.ntmps101
  have c1 := H.out.c196
  have f1 := H.out.free 196
  have c2 := H.out.c192
  have f2 := H.out.free 192
  have hlt := H.out.lt
  replace H := hide ((H.out.set_quirks true).set_mode 1)
  go_wp2_with fail
  refine Does.call (take_p E rec hA t ht) H.out HR.out HS.out (rfl) ?_ ?_
  · intro c p j ws h1 h2 h3
    have H1 := hide h1
    have H2 := hide h2
    have H3 := hide h3
    clear h1 h2 h3
    go_wp2
    exact ⟨rfl, leaves_stop H1.out H2.out H3.out⟩
  rintro (_) f σ w h1 h0 h2 h3
  have HX := hide h0
  have HF := hide h2
  clear h0
  replace H := hide h1
  replace HR := hide h3
  clear h1 h2 h3
  try dsimp only at HR
  go_wp2
  go_end0
  exact leaves_ok HR.out H.out rfl
set_option maxHeartbeats 2000000 in
theorem openHTML_p (own : Bool) : Does E 176 (fun _ => #[Bp E, if own then E.tv else .slice none 0 0]) (openHTML own (if own then E.ta else [])) uV := by
  intro f σ w h hs
  obtain ⟨ao, n, cp, htv⟩ := h.tv
  obtain ⟨R, hR⟩ : ∃ R, R = openHTML own (if own then E.ta else []) σ := ⟨_, rfl⟩
  rw [← hR] at hs ⊢
  have HS := hide hs
  have H := hide (At.start h)
  have hlt := h.lt
  have HD := hide h.doc0
  have c1 := H.out.c187
  have c3 := H.out.c190
  have f3 := H.out.free 190
  unfold openHTML at hR
  cases own with
  | true =>
    rw [M.bind_run] at hR
    unfold newElA at hR
    have hfr : σ.fresh = true := by
      cases hq : σ.fresh with
      | true => rfl
      | false => rw [hq] at hR; simp at hR; exact absurd hR hs
    simp only [hfr, if_true] at hR
    have HR := hide hR
    replace H := hide (H.out.newTagEl hfr (⟨#[104, 116, 109, 108]⟩ : ByteArray))
    rw [htv] at H
    rw [if_pos rfl, htv]
    clear h hs hR hfr htv
    go_enter Tryz.func176, Tryz.ntmps176
    go_wp2_with fail
    refine Moves.call (end_m E 0) H.out HR.out HS.out (by rw [nV_old HD.out]) ?_ ?_
    · intro c p j ws h1 h2 h3
      have H1 := hide h1
      have H2 := hide h2
      have H3 := hide h3
      clear h1 h2 h3
      go_wp2
      exact ⟨rfl, leaves_stop H1.out H2.out H3.out⟩
    rintro (pl) σ w h1 h2 h3
    have HF := hide h2
    replace H := hide h1
    replace HR := hide h3
    clear h1 h2 h3
    try dsimp only at HR
    go_wp2_with fail
    refine Moves.call (putEl_m E pl _) H.out HR.out HS.out (by rw [nV_new]) ?_ ?_
    · intro c p j ws h1 h2 h3
      have H1 := hide h1
      have H2 := hide h2
      have H3 := hide h3
      clear h1 h2 h3
      go_wp2
      exact ⟨rfl, leaves_stop H1.out H2.out H3.out⟩
    rintro (_) σ w h1 h2 h3
    have HF := hide h2
    replace H := hide h1
    replace HR := hide h3
    clear h1 h2 h3
    try dsimp only at HR
    go_wp2_with fail
    refine Moves.call (push_m E (some _)) H.out HR.out HS.out (by show #[_, nV _ _] = _; rw [nV_new]) ?_ ?_
    · intro c p j ws h1 h2 h3
      have H1 := hide h1
      have H2 := hide h2
      have H3 := hide h3
      clear h1 h2 h3
      go_wp2
      exact ⟨rfl, leaves_stop H1.out H2.out H3.out⟩
    rintro (_) σ w h1 h2 h3
    have HF := hide h2
    replace H := hide h1
    replace HR := hide h3
    clear h1 h2 h3
    try dsimp only at HR
    have c2 := H.out.c192
    have f2 := H.out.free 192
    replace H := hide (H.out.set_mode 2)
    go_wp2
    go_end0
    exact leaves_ok HR.out H.out rfl
  | false =>
    rw [M.bind_run] at hR
    unfold newElA at hR
    simp only [Bool.false_eq_true, if_false] at hR
    have HR := hide hR
    replace H := hide (H.out.newEl (⟨#[104, 116, 109, 108]⟩ : ByteArray))
    rw [if_neg (by simp)]
    clear h hs hR htv
    go_enter Tryz.func176, Tryz.ntmps176
    go_wp2_with fail
    refine Moves.call (end_m E 0) H.out HR.out HS.out (by rw [nV_old HD.out]) ?_ ?_
    · intro c p j ws h1 h2 h3
      have H1 := hide h1
      have H2 := hide h2
      have H3 := hide h3
      clear h1 h2 h3
      go_wp2
      exact ⟨rfl, leaves_stop H1.out H2.out H3.out⟩
    rintro (pl) σ w h1 h2 h3
    have HF := hide h2
    replace H := hide h1
    replace HR := hide h3
    clear h1 h2 h3
    try dsimp only at HR
    go_wp2_with fail
    refine Moves.call (putEl_m E pl _) H.out HR.out HS.out (by rw [nV_new]) ?_ ?_
    · intro c p j ws h1 h2 h3
      have H1 := hide h1
      have H2 := hide h2
      have H3 := hide h3
      clear h1 h2 h3
      go_wp2
      exact ⟨rfl, leaves_stop H1.out H2.out H3.out⟩
    rintro (_) σ w h1 h2 h3
    have HF := hide h2
    replace H := hide h1
    replace HR := hide h3
    clear h1 h2 h3
    try dsimp only at HR
    go_wp2_with fail
    refine Moves.call (push_m E (some _)) H.out HR.out HS.out (by show #[_, nV _ _] = _; rw [nV_new]) ?_ ?_
    · intro c p j ws h1 h2 h3
      have H1 := hide h1
      have H2 := hide h2
      have H3 := hide h3
      clear h1 h2 h3
      go_wp2
      exact ⟨rfl, leaves_stop H1.out H2.out H3.out⟩
    rintro (_) σ w h1 h2 h3
    have HF := hide h2
    replace H := hide h1
    replace HR := hide h3
    clear h1 h2 h3
    try dsimp only at HR
    have c2 := H.out.c192
    have f2 := H.out.free 192
    replace H := hide (H.out.set_mode 2)
    go_wp2
    go_end0
    exact leaves_ok HR.out H.out rfl
include hF in
set_option maxHeartbeats 2000000 in
theorem openHead_p (own : Bool) : Does E 181 (fun _ => #[Bp E, if own then E.tv else .slice none 0 0]) (openHead own (if own then E.ta else [])) uV := by
  intro f σ w h hs
  obtain ⟨ao, n, cp, htv⟩ := h.tv
  obtain ⟨R, hR⟩ : ∃ R, R = openHead own (if own then E.ta else []) σ := ⟨_, rfl⟩
  rw [← hR] at hs ⊢
  have HS := hide hs
  have H := hide (At.start h)
  have hlt := h.lt
  have HD := hide h.doc0
  have c1 := H.out.c187
  have c3 := H.out.c190
  have f3 := H.out.free 190
  unfold openHead at hR
  cases own with
  | true =>
    rw [M.bind_run] at hR
    unfold newElA at hR
    have hfr : σ.fresh = true := by
      cases hq : σ.fresh with
      | true => rfl
      | false => rw [hq] at hR; simp at hR; exact absurd hR hs
    simp only [hfr, if_true] at hR
    have HR := hide hR
    replace H := hide (H.out.newTagEl hfr (⟨#[104, 101, 97, 100]⟩ : ByteArray))
    rw [htv] at H
    rw [if_pos rfl, htv]
    clear h hs hR hfr htv
    go_enter Tryz.func181, Tryz.ntmps181
    have HH := H.out.set_head (some σ.nodes.length) (by simp [Ab.isEl, Ab.el?, Ab.addF, Ab.add])
    rw [show oV (fnew f σ.nodes.length w.heap.size) (some σ.nodes.length) = .pointer (some ⟨w.heap.size, 0, none⟩) from nV_new _ _ _] at HH
    rw [World.setCell_alloc_past _ _ _ _ hlt] at HH
    replace H := hide HH
    clear HH
    go_wp2_with fail
    refine Moves.call (insert_p E hF _) H.out HR.out HS.out (by rw [nV_new]) ?_ ?_
    · intro c p j ws h1 h2 h3
      have H1 := hide h1
      have H2 := hide h2
      have H3 := hide h3
      clear h1 h2 h3
      go_wp2
      exact ⟨rfl, leaves_stop H1.out H2.out H3.out⟩
    rintro (_) σ w h1 h2 h3
    have HF := hide h2
    replace H := hide h1
    replace HR := hide h3
    clear h1 h2 h3
    try dsimp only at HR
    have c2 := H.out.c192
    have f2 := H.out.free 192
    replace H := hide (H.out.set_mode 3)
    go_wp2
    go_end0
    exact leaves_ok HR.out H.out rfl
  | false =>
    rw [M.bind_run] at hR
    unfold newElA at hR
    simp only [Bool.false_eq_true, if_false] at hR
    have HR := hide hR
    replace H := hide (H.out.newEl (⟨#[104, 101, 97, 100]⟩ : ByteArray))
    rw [if_neg (by simp)]
    clear h hs hR htv
    go_enter Tryz.func181, Tryz.ntmps181
    have HH := H.out.set_head (some σ.nodes.length) (by simp [Ab.isEl, Ab.el?, Ab.addF, Ab.add])
    rw [show oV (fnew f σ.nodes.length w.heap.size) (some σ.nodes.length) = .pointer (some ⟨w.heap.size, 0, none⟩) from nV_new _ _ _] at HH
    rw [World.setCell_alloc_past _ _ _ _ hlt] at HH
    replace H := hide HH
    clear HH
    go_wp2_with fail
    refine Moves.call (insert_p E hF _) H.out HR.out HS.out (by rw [nV_new]) ?_ ?_
    · intro c p j ws h1 h2 h3
      have H1 := hide h1
      have H2 := hide h2
      have H3 := hide h3
      clear h1 h2 h3
      go_wp2
      exact ⟨rfl, leaves_stop H1.out H2.out H3.out⟩
    rintro (_) σ w h1 h2 h3
    have HF := hide h2
    replace H := hide h1
    replace HR := hide h3
    clear h1 h2 h3
    try dsimp only at HR
    have c2 := H.out.c192
    have f2 := H.out.free 192
    replace H := hide (H.out.set_mode 3)
    go_wp2
    go_end0
    exact leaves_ok HR.out H.out rfl
include hA in
set_option maxHeartbeats 2000000 in
theorem impliedHTML_p (t : ATok) (ht : TokOk E t) : Does E 104 (fun _ => #[Bp E, tokV E t]) (impliedHTML rec t) uV := by
  intro f σ w h hs
  obtain ⟨R, hR⟩ : ∃ R, R = (impliedHTML rec t) σ := ⟨_, rfl⟩
  rw [← hR] at hs ⊢
  unfold impliedHTML at hR
  have HS := hide hs
  have H := hide (At.start h)
  have HR := hide hR
  clear h hs hR
  go_enter Tryz.func104, Tryz.ntmps104
  go_wp2_with fail
  refine Does.call (openHTML_p E false) H.out HR.out HS.out (by simp) ?_ ?_
  · intro c p j ws h1 h2 h3
    have H1 := hide h1
    have H2 := hide h2
    have H3 := hide h3
    clear h1 h2 h3
    go_wp2
    exact ⟨rfl, leaves_stop H1.out H2.out H3.out⟩
  rintro (_) f σ w h1 h0 h2 h3
  have HX := hide h0
  have HF := hide h2
  clear h0
  replace H := hide h1
  replace HR := hide h3
  clear h1 h2 h3
  try dsimp only at HR
  go_wp2_with fail
  refine Does.call (take_p E rec hA t ht) H.out HR.out HS.out (rfl) ?_ ?_
  · intro c p j ws h1 h2 h3
    have H1 := hide h1
    have H2 := hide h2
    have H3 := hide h3
    clear h1 h2 h3
    go_wp2
    exact ⟨rfl, leaves_stop H1.out H2.out H3.out⟩
  rintro (_) f σ w h1 h0 h2 h3
  have HX := hide h0
  have HF := hide h2
  clear h0
  replace H := hide h1
  replace HR := hide h3
  clear h1 h2 h3
  try dsimp only at HR
  go_wp2
  go_end0
  exact leaves_ok HR.out H.out rfl
include hF hA in
set_option maxHeartbeats 2000000 in
theorem impliedHead_p (t : ATok) (ht : TokOk E t) : Does E 108 (fun _ => #[Bp E, tokV E t]) (impliedHead rec t) uV := by
  intro f σ w h hs
  obtain ⟨R, hR⟩ : ∃ R, R = (impliedHead rec t) σ := ⟨_, rfl⟩
  rw [← hR] at hs ⊢
  unfold impliedHead at hR
  have HS := hide hs
  have H := hide (At.start h)
  have HR := hide hR
  clear h hs hR
  go_enter Tryz.func108, Tryz.ntmps108
  go_wp2_with fail
  refine Does.call (openHead_p E hF false) H.out HR.out HS.out (by simp) ?_ ?_
  · intro c p j ws h1 h2 h3
    have H1 := hide h1
    have H2 := hide h2
    have H3 := hide h3
    clear h1 h2 h3
    go_wp2
    exact ⟨rfl, leaves_stop H1.out H2.out H3.out⟩
  rintro (_) f σ w h1 h0 h2 h3
  have HX := hide h0
  have HF := hide h2
  clear h0
  replace H := hide h1
  replace HR := hide h3
  clear h1 h2 h3
  try dsimp only at HR
  go_wp2_with fail
  refine Does.call (take_p E rec hA t ht) H.out HR.out HS.out (rfl) ?_ ?_
  · intro c p j ws h1 h2 h3
    have H1 := hide h1
    have H2 := hide h2
    have H3 := hide h3
    clear h1 h2 h3
    go_wp2
    exact ⟨rfl, leaves_stop H1.out H2.out H3.out⟩
  rintro (_) f σ w h1 h0 h2 h3
  have HX := hide h0
  have HF := hide h2
  clear h0
  replace H := hide h1
  replace HR := hide h3
  clear h1 h2 h3
  try dsimp only at HR
  go_wp2
  go_end0
  exact leaves_ok HR.out H.out rfl
set_option maxHeartbeats 2000000 in
theorem endHead_p (t : ATok) : Does E 113 (fun _ => #[Bp E, tokV E t]) (endHead) uV := by
  intro f σ w h hs
  obtain ⟨R, hR⟩ : ∃ R, R = (endHead) σ := ⟨_, rfl⟩
  rw [← hR] at hs ⊢
  unfold endHead at hR
  have HS := hide hs
  have H := hide (At.start h)
  have HR := hide hR
  clear h hs hR
  go_enter Tryz.func113, Tryz.ntmps113
  go_wp2_with fail
  refine Moves.call (pop'_m E) H.out HR.out HS.out (rfl) ?_ ?_
  · intro c p j ws h1 h2 h3
    have H1 := hide h1
    have H2 := hide h2
    have H3 := hide h3
    clear h1 h2 h3
    go_wp2
    exact ⟨rfl, leaves_stop H1.out H2.out H3.out⟩
  rintro (_) σ w h1 h2 h3
  have HF := hide h2
  replace H := hide h1
  replace HR := hide h3
  clear h1 h2 h3
  try dsimp only at HR
  have c2 := H.out.c192
  have f2 := H.out.free 192
  have hl1 := H.out.lt
  replace H := hide (H.out.set_mode 4)
  go_wp2
  go_end0
  exact leaves_ok HR.out H.out rfl
include hA in
set_option maxHeartbeats 2000000 in
theorem impliedEndOfHead_p (t : ATok) (ht : TokOk E t) : Does E 114 (fun _ => #[Bp E, tokV E t]) (impliedEndOfHead rec t) uV := by
  intro f σ w h hs
  obtain ⟨R, hR⟩ : ∃ R, R = (impliedEndOfHead rec t) σ := ⟨_, rfl⟩
  rw [← hR] at hs ⊢
  unfold impliedEndOfHead at hR
  have HS := hide hs
  have H := hide (At.start h)
  have HR := hide hR
  clear h hs hR
  go_enter Tryz.func114, Tryz.ntmps114
  go_wp2_with fail
  refine Does.call (endHead_p E t) H.out HR.out HS.out (rfl) ?_ ?_
  · intro c p j ws h1 h2 h3
    have H1 := hide h1
    have H2 := hide h2
    have H3 := hide h3
    clear h1 h2 h3
    go_wp2
    exact ⟨rfl, leaves_stop H1.out H2.out H3.out⟩
  rintro (_) f σ w h1 h0 h2 h3
  have HX := hide h0
  have HF := hide h2
  clear h0
  replace H := hide h1
  replace HR := hide h3
  clear h1 h2 h3
  try dsimp only at HR
  go_wp2_with fail
  refine Does.call (take_p E rec hA t ht) H.out HR.out HS.out (rfl) ?_ ?_
  · intro c p j ws h1 h2 h3
    have H1 := hide h1
    have H2 := hide h2
    have H3 := hide h3
    clear h1 h2 h3
    go_wp2
    exact ⟨rfl, leaves_stop H1.out H2.out H3.out⟩
  rintro (_) f σ w h1 h0 h2 h3
  have HX := hide h0
  have HF := hide h2
  clear h0
  replace H := hide h1
  replace HR := hide h3
  clear h1 h2 h3
  try dsimp only at HR
  go_wp2
  go_end0
  exact leaves_ok HR.out H.out rfl
include hF hA in
set_option maxHeartbeats 2000000 in
theorem impliedBody_p (t : ATok) (ht : TokOk E t) : Does E 117 (fun _ => #[Bp E, tokV E t]) (impliedBody rec t) uV := by
  intro f σ w h hs
  obtain ⟨R, hR⟩ : ∃ R, R = (impliedBody rec t) σ := ⟨_, rfl⟩
  rw [← hR] at hs ⊢
  unfold impliedBody at hR
  have HS := hide hs
  have H := hide (At.start h)
  have HR := hide hR
  clear h hs hR
  go_enter Tryz.func117, Tryz.ntmps117
  go_wp2_with fail
  refine Does.call (insertNamed_p E hF (⟨#[98, 111, 100, 121]⟩ : ByteArray)) H.out HR.out HS.out (rfl) ?_ ?_
  · intro c p j ws h1 h2 h3
    have H1 := hide h1
    have H2 := hide h2
    have H3 := hide h3
    clear h1 h2 h3
    go_wp2
    exact ⟨rfl, leaves_stop H1.out H2.out H3.out⟩
  rintro (_) f σ w h1 h0 h2 h3
  have HX := hide h0
  have HF := hide h2
  clear h0
  replace H := hide h1
  replace HR := hide h3
  clear h1 h2 h3
  try dsimp only at HR
  have c2 := H.out.c192
  have f2 := H.out.free 192
  have hl1 := H.out.lt
  replace H := hide (H.out.set_mode 6)
  go_wp2_with fail
  refine Does.call (take_p E rec hA t ht) H.out HR.out HS.out (rfl) ?_ ?_
  · intro c p j ws h1 h2 h3
    have H1 := hide h1
    have H2 := hide h2
    have H3 := hide h3
    clear h1 h2 h3
    go_wp2
    exact ⟨rfl, leaves_stop H1.out H2.out H3.out⟩
  rintro (_) f σ w h1 h0 h2 h3
  have HX := hide h0
  have HF := hide h2
  clear h0
  replace H := hide h1
  replace HR := hide h3
  clear h1 h2 h3
  try dsimp only at HR
  go_wp2
  go_end0
  exact leaves_ok HR.out H.out rfl
end
end Go.Proofs.YtlhhgenpcjjajaaGreatDoor
