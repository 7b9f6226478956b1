import Derived.Test.YtlhhgenpcjjajaaGreatDoorRelE
set_option linter.unusedSimpArgs false
set_option linter.unusedVariables false
namespace Go.Proofs.YtlhhgenpcjjajaaGreatDoor
open Go.RowKit
def RF (E : Env) (f : Nat → Nat) (σ : Ab) (w : World) : Prop := ∃ L, L.at' = f ∧ Rel E L σ w
def ExF (n : Nat) (f g : Nat → Nat) : Prop := ∀ i, i < n → g i = f i
def Leaves {α : Type} (E : Env) (f : Nat → Nat) (n : Nat) (w : World) (r : Res α) (val : (Nat → Nat) → α → Value) (e : Ending) (w' : World) : Prop := match r with
  | .ok a σ' => ∃ g, ExF n f g ∧ n ≤ σ'.nodes.length ∧ e = .returned (val g a) ∧ RF E g σ' w' ∧ Fr E.bs w w'
  | .stop c p => ∃ k, e = stopV k ∧ StopAt w' k c p ∧ Fr E.bs w w'
  | .stuck => False
def Does {α : Type} (E : Env) (k : Nat) (args : (Nat → Nat) → Array Value) (m : M α) (val : (Nat → Nat) → α → Value) : Prop :=
  ∀ f σ w, RF E f σ w → m σ ≠ .stuck → Calls Tryz.prog k (args f) w (Leaves E f σ.nodes.length w (m σ) val)
abbrev uV (_ : Nat → Nat) (_ : Unit) : Value := .tuple #[]
abbrev nV (f : Nat → Nat) (i : Nat) : Value := .pointer (some ⟨f i, 0, none⟩)
abbrev oV (f : Nat → Nat) (x : Option Nat) : Value := enc (omap f x)
abbrev pV (f : Nat → Nat) (pl : Nat × Nat) : Value := .agg #[.pointer (some ⟨f pl.1, 0, none⟩), .int .i64 (pl.2 : Int)]
structure At (E : Env) (f0 : Nat → Nat) (n0 : Nat) (w0 : World) (f : Nat → Nat) (σ : Ab) (w : World) : Prop where
  rel : RF E f σ w
  ext : ExF n0 f0 f
  le : n0 ≤ σ.nodes.length
  fr : Fr E.bs w0 w
  hw : E.w0.heap.size ≤ w0.heap.size
theorem At.start {E : Env} {f : Nat → Nat} {σ : Ab} {w : World} (h : RF E f σ w) : At E f σ.nodes.length w f σ w := ⟨h, fun _ _ => rfl, Nat.le_refl _, Fr.refl _, by obtain ⟨L, _, hr⟩ := h; exact hr.fr.size⟩
theorem RF.kept0 {E : Env} {f : Nat → Nat} {σ : Ab} {w w' : World} (h : RF E f σ w) (hk : Kept [] w w') : RF E f σ w' := by obtain ⟨L, e, hr⟩ := h; exact ⟨L, e, hr.kept0 hk⟩
def RelT : List TypeId := [140, 142, 284, 239, 243, 299, 180, 72, 125, 165]
theorem Rel.side {E : Env} {L : Loc} {σ : Ab} {w : World} (h : Rel E L σ w) {b : Nat} {c : Array Value} {T : TypeId} {m : Nat × Nat} (hb : w.heap[b]? = some (.cells c T m)) (hT : ∀ t ∈ RelT, t ≠ T) (hge : E.w0.heap.size ≤ b) (j : Nat) (u : Value) : Rel E L σ (w.setCell ⟨b, j, none⟩ u) := by
  have kt : KT E.bs [T] w (w.setCell ⟨b, j, none⟩ u) := .of_kept ((Kept.refl [b] w).setCell (.inl (by simp)) u) (fun k hk _ => by simp at hk; subst hk; exact ⟨⟨_, _, _, hb, by simp⟩, Nat.le_trans h.bz hge⟩)
  have hn : ∀ t ∈ RelT, t ∉ [T] := fun t ht => by simpa using hT t ht
  obtain ⟨C, hbl, hC⟩ := h.blk
  exact { h with
    fr := by
      obtain ⟨S, hk, hS⟩ := h.fr
      exact ⟨S, hk.setCell (.inr hge) u, hS⟩
    nds := fun i nd hi => (h.nds i nd hi).kt kt (fun t ht => hn t (by revert t; decide))
    blk := ⟨C, kt.at hbl (hn _ (by decide)), hC⟩
    orow := kt.row h.orow (hn _ (by decide))
    crow := kt.row h.crow (hn _ (by decide))
    wrow := kt.row h.wrow (hn _ (by decide))
    rd := kt.at h.rd (hn _ (by decide))
    tok := kt.row h.tok (hn _ (by decide)) }
section
variable {α β : Type} {E : Env} {f0 : Nat → Nat} {n0 : Nat} {w0 : World} {f : Nat → Nat} {σ : Ab} {w : World}
theorem At.side (h : At E f0 n0 w0 f σ w) {b : Nat} {c : Array Value} {T : TypeId} {m : Nat × Nat} (hb : w.heap[b]? = some (.cells c T m)) (hT : ∀ t ∈ RelT, t ≠ T) (hge : w0.heap.size ≤ b) (j : Nat) (u : Value) : At E f0 n0 w0 f σ (w.setCell ⟨b, j, none⟩ u) := by
  obtain ⟨L, e, hr⟩ := h.rel
  refine ⟨⟨L, e, hr.side hb hT (Nat.le_trans h.hw hge) j u⟩, h.ext, h.le, ?_, h.hw⟩
  obtain ⟨S, hk, hS⟩ := h.fr
  exact ⟨S, hk.setCell (.inr hge) u, hS⟩
theorem At.k0 (h : At E f0 n0 w0 f σ w) {w' : World} (hk : Kept [] w w') : At E f0 n0 w0 f σ w' := ⟨h.rel.kept0 hk, h.ext, h.le, h.fr.trans (.of_kept0 hk), h.hw⟩
theorem At.drewN (h : At E f0 n0 w0 f σ w) (q : Nat) : At E f0 n0 w0 f σ (w.drewN q) := h.k0 ((Kept.refl _ _).drewN q)
theorem At.to (h : At E f0 n0 w0 f σ w) {σ' : Ab} {w' : World} (hr : RF E f σ' w') (hl : σ.nodes.length ≤ σ'.nodes.length) (hf : Fr E.bs w w') : At E f0 n0 w0 f σ' w' := ⟨hr, h.ext, Nat.le_trans h.le hl, h.fr.trans hf, h.hw⟩
theorem At.go (h : At E f0 n0 w0 f σ w) {g : Nat → Nat} {σ' : Ab} {w' : World} (hr : RF E g σ' w') (hx : ExF σ.nodes.length f g) (hl : σ.nodes.length ≤ σ'.nodes.length) (hf : Fr E.bs w w') : At E f0 n0 w0 g σ' w' :=
  ⟨hr, fun i hi => (hx i (Nat.lt_of_lt_of_le hi h.le)).trans (h.ext i hi), Nat.le_trans h.le hl, h.fr.trans hf, h.hw⟩
theorem leaves_ok {R : Res α} {a : α} {val : (Nat → Nat) → α → Value} (hR : R = .ok a σ) (h : At E f0 n0 w0 f σ w) {e : Ending} (he : e = .returned (val f a)) : Leaves E f0 n0 w0 R val e w := by
  subst hR; exact ⟨f, h.ext, h.le, he, h.rel, h.fr⟩
theorem leaves_stop {R : Res α} {val : (Nat → Nat) → α → Value} {c p j : Nat} (hR : R = .stop c p) (hs : StopAt w j c p) (hf : Fr E.bs w0 w) : Leaves E f0 n0 w0 R val (stopV j) w := by
  subst hR; exact ⟨j, rfl, hs, hf⟩
theorem Does.call {k : Nat} {args : (Nat → Nat) → Array Value} {m : M α} {val : (Nat → Nat) → α → Value} (D : Does E k args m val) (H : At E f0 n0 w0 f σ w) {R : Res β} {K : α → M β} (hR : R = (m >>= K) σ) (hs : R ≠ .stuck) {A : Array Value} (hA : args f = A) {Q : Ending → World → Prop}
    (hst : ∀ c p j w', R = .stop c p → StopAt w' j c p → Fr E.bs w0 w' → Q (stopV j) w')
    (hok : ∀ a g σ' w', At E f0 n0 w0 g σ' w' → ExF σ.nodes.length f g → Fr E.bs w w' → R = K a σ' → Q (.returned (val g a)) w') : Calls Tryz.prog k A w Q := by
  rw [M.bind_run] at hR
  have hm : m σ ≠ .stuck := fun e => hs (by rw [hR, e])
  have h := D f σ w H.rel hm
  rw [hA] at h
  refine h.mono ?_
  intro e w' hl
  cases hr : m σ with
  | ok a σ' =>
    rw [hr] at hl hR
    obtain ⟨g, h1, h2, rfl, h4, h5⟩ := hl
    exact hok a g σ' w' (H.go h4 h1 h2 h5) h1 h5 hR
  | stop c p =>
    rw [hr] at hl hR
    obtain ⟨j, rfl, h2, h3⟩ := hl
    exact hst c p j w' hR h2 (H.fr.trans h3)
  | stuck => exact absurd hr hm
end
def MLeaves {α : Type} (E : Env) (f : Nat → Nat) (n : Nat) (w : World) (r : Res α) (val : (Nat → Nat) → α → Value) (e : Ending) (w' : World) : Prop := match r with
  | .ok a σ' => e = .returned (val f a) ∧ RF E f σ' w' ∧ Fr E.bs w w' ∧ n ≤ σ'.nodes.length
  | .stop c p => ∃ j, e = stopV j ∧ StopAt w' j c p ∧ Fr E.bs w w'
  | .stuck => False
def Moves {α : Type} (E : Env) (k : Nat) (args : (Nat → Nat) → Array Value) (m : M α) (val : (Nat → Nat) → α → Value) : Prop :=
  ∀ f σ w, RF E f σ w → m σ ≠ .stuck → Calls Tryz.prog k (args f) w (MLeaves E f σ.nodes.length w (m σ) val)
section
variable {α β : Type} {E : Env} {f0 : Nat → Nat} {n0 : Nat} {w0 : World} {f : Nat → Nat} {σ : Ab} {w : World}
theorem Moves.call {k : Nat} {args : (Nat → Nat) → Array Value} {m : M α} {val : (Nat → Nat) → α → Value} (D : Moves E k args m val) (H : At E f0 n0 w0 f σ w) {R : Res β} {K : α → M β} (hR : R = (m >>= K) σ) (hs : R ≠ .stuck) {A : Array Value} (hA : args f = A) {Q : Ending → World → Prop}
    (hst : ∀ c p j w', R = .stop c p → StopAt w' j c p → Fr E.bs w0 w' → Q (stopV j) w')
    (hok : ∀ a σ' w', At E f0 n0 w0 f σ' w' → Fr E.bs w w' → R = K a σ' → Q (.returned (val f a)) w') : Calls Tryz.prog k A w Q := by
  rw [M.bind_run] at hR
  have hm : m σ ≠ .stuck := fun e => hs (by rw [hR, e])
  have h := D f σ w H.rel hm
  rw [hA] at h
  refine h.mono ?_
  intro e w' hl
  cases hr : m σ with
  | ok a σ' =>
    rw [hr] at hl hR
    obtain ⟨rfl, h4, h5, h6⟩ := hl
    exact hok a σ' w' (H.to h4 h6 h5) h5 hR
  | stop c p =>
    rw [hr] at hl hR
    obtain ⟨j, rfl, h2, h3⟩ := hl
    exact hst c p j w' hR h2 (H.fr.trans h3)
  | stuck => exact absurd hr hm
theorem moves_ok {R : Res α} {a : α} {val : (Nat → Nat) → α → Value} (hR : R = .ok a σ) (h : At E f n0 w0 f σ w) {e : Ending} (he : e = .returned (val f a)) : MLeaves E f n0 w0 R val e w := by
  subst hR; exact ⟨he, h.rel, h.fr, h.le⟩
theorem moves_stop {R : Res α} {val : (Nat → Nat) → α → Value} {c p j : Nat} (hR : R = .stop c p) (hs : StopAt w j c p) (hf : Fr E.bs w0 w) : MLeaves E f n0 w0 R val (stopV j) w := by
  subst hR; exact ⟨j, rfl, hs, hf⟩
end
end Go.Proofs.YtlhhgenpcjjajaaGreatDoor
namespace Go.Proofs.YtlhhgenpcjjajaaGreatDoor
open Go.RowKit
theorem end_m (E : Env) (i : Nat) : Moves E 99 (fun f => #[nV f i]) (endOf i) pV := by
  intro f σ w ⟨L, e, hr⟩ hs
  subst e
  unfold endOf at hs ⊢
  cases he : σ.el? i with
  | none => rw [he] at hs; exact absurd rfl hs
  | some e =>
    refine (t_end hr he).mono ?_
    rintro e' w' ⟨rfl, h1, hk⟩
    exact ⟨rfl, ⟨L, rfl, h1⟩, .of_kept0 hk, Nat.le_refl _⟩
theorem putEl_m (E : Env) (pl : Nat × Nat) (j : Nat) : Moves E 175 (fun f => #[pV f pl, .iface 72 (nV f j)]) (putEl pl j) uV := by
  intro f σ w ⟨L, e, hr⟩ hs
  subst e
  unfold putEl at hs ⊢
  cases h1 : σ.el? pl.1 with
  | none => rw [h1] at hs; exact absurd rfl hs
  | some ei =>
    cases h2 : σ.el? j with
    | none => rw [h1, h2] at hs; exact absurd rfl hs
    | some ej =>
      simp only [h1, h2] at hs ⊢
      by_cases hc : j ≠ pl.1 ∧ pl.2 ≤ ei.kids.length ∧ ei.kids.length < 1048576
      · rw [if_pos hc]
        refine (t_put_el hr h1 h2 hc.1 hc.2.1 hc.2.2).mono ?_
        rintro e' w' ⟨rfl, L', e1, h3, h4⟩
        exact ⟨rfl, ⟨L', e1, h3⟩, h4, by simp [Ab.setEl]⟩
      · rw [if_neg hc] at hs; exact absurd rfl hs
theorem putChars_d (E : Env) (pl : Nat × Nat) (s : ByteArray) : Does E 182 (fun f => #[pV f pl, .string s]) (putChars pl s) uV := by
  intro f σ w ⟨L, e, hr⟩ hs
  subst e
  unfold putChars at hs ⊢
  cases h1 : σ.el? pl.1 with
  | none => rw [h1] at hs; exact absurd rfl hs
  | some ei =>
    simp only [h1] at hs ⊢
    by_cases hc : pl.2 ≤ ei.kids.length ∧ ei.kids.length < 1048576
    · rw [if_pos hc] at hs ⊢
      have hnew : ∀ (hx : ∀ m, (hm : m < ei.kids.length) → pl.2 = m + 1 → ∀ t, ei.kids[m] ≠ .tx t), Calls Tryz.prog 182 #[pV L.at' pl, .string s] w (Leaves E L.at' σ.nodes.length w (.ok () ((σ.add (.tx s)).setEl pl.1 { ei with kids := ins ei.kids pl.2 (.tx σ.nodes.length) })) uV) := by
        intro hx
        refine (t_putChars_new hr h1 hc.1 hc.2 hx).mono ?_
        rintro e' w' ⟨rfl, L', e1, h3, h4⟩
        exact ⟨L'.at', e1, by simp [Ab.setEl, Ab.add], rfl, ⟨L', rfl, h3⟩, h4⟩
      by_cases hz : pl.2 = 0
      · simp only [if_pos hz] at hs ⊢
        exact hnew fun m hm e => by omega
      · simp only [if_neg hz] at hs ⊢
        obtain ⟨m, hm⟩ : ∃ m, pl.2 = m + 1 := ⟨pl.2 - 1, by omega⟩
        have hml : m < ei.kids.length := by omega
        have hg : ei.kids[pl.2 - 1]? = some ei.kids[m] := by rw [hm, Nat.add_sub_cancel]; exact List.getElem?_eq_getElem hml
        rw [hg] at hs ⊢
        cases hk : ei.kids[m] with
        | tx t =>
          simp only [hk] at hs ⊢
          cases ht : σ.nodes[t]? with
          | none => rw [ht] at hs; exact absurd rfl hs
          | some nd =>
            cases nd with
            | tx old =>
              simp only [ht] at hs ⊢
              by_cases hsz : old.size + s.size ≤ 1048576
              · rw [if_pos hsz]
                have := t_putChars_join hr h1 hml hk ht hsz
                rw [← hm] at this
                refine this.mono ?_
                rintro e' w' ⟨rfl, L', e1, h3, h4⟩
                exact ⟨L.at', fun _ _ => rfl, by simp [Ab.setTx], rfl, ⟨L', e1, h3⟩, h4⟩
              · rw [if_neg hsz] at hs; exact absurd rfl hs
            | el e => rw [ht] at hs; exact absurd rfl hs
            | cm e => rw [ht] at hs; exact absurd rfl hs
            | dt e => rw [ht] at hs; exact absurd rfl hs
        | el t => exact hnew fun m' hm' e t' => by have : m' = m := by omega
                                                   subst this; rw [hk]; simp
        | cm t => exact hnew fun m' hm' e t' => by have : m' = m := by omega
                                                   subst this; rw [hk]; simp
        | dt t => exact hnew fun m' hm' e t' => by have : m' = m := by omega
                                                   subst this; rw [hk]; simp
    · rw [if_neg hc] at hs; exact absurd rfl hs
theorem pop_m (E : Env) : Moves E 184 (fun _ => #[.pointer (some ⟨E.bB, 188, none⟩)]) (fun σ => .ok σ.last σ.pop) oV := by
  intro f σ w ⟨L, e, hr⟩ hs
  subst e
  refine (o_pop hr).mono ?_
  rintro e' w' ⟨rfl, L', e1, h3, h4⟩
  exact ⟨rfl, ⟨L', e1, h3⟩, h4, Nat.le_refl _⟩
set_option maxHeartbeats 1000000 in
theorem push_m (E : Env) (x : Option Nat) : Moves E 186 (fun f => #[Bp E, oV f x]) (pushM x) uV := by
  intro f σ w ⟨L, e, h⟩ hm
  subst e
  have c0 := h.low (j := 0) (by decide) h.lim.1
  obtain ⟨_, _, _, hd, _, _⟩ := h.lim
  have hol := h.ole
  have C1 := hide (fun q => o_len (h.drewN q))
  unfold pushM at hm ⊢
  by_cases hl : σ.dep ≤ σ.opn.length
  · rw [if_pos hl]
    have C2 := hide (fun q => stop_ok (h.drewN q) 5)
    clear h hm
    go_enter Tryz.func186, Tryz.ntmps186
    go_wp2_with fail
    go_quiet ((go_at_call 269; exact Calls.quiet_of_same (C1.out _)))
    go_wp2_with fail
    refine (C2.out nq).mono ?_
    rintro e w' ⟨k, rfl, h1, h2⟩
    have H1 := hide h1
    have H2 := hide ((Fr.drewN w nq).trans h2)
    clear h1 h2
    go_wp2
    exact ⟨rfl, k, rfl, H1.out, H2.out⟩
  · rw [if_neg hl] at hm ⊢
    have hx : σ.isElS x = true := by
      by_cases hx : σ.isElS x = true
      · exact hx
      · rw [if_neg hx] at hm; exact absurd rfl hm
    rw [if_pos hx]
    have C2 := hide (fun q => o_push (h.drewN q) x hx (by omega))
    clear h hm
    go_enter Tryz.func186, Tryz.ntmps186
    go_wp2_with fail
    go_quiet ((go_at_call 269; exact Calls.quiet_of_same (C1.out _)))
    go_wp2_with fail
    refine (C2.out nq).mono ?_
    rintro e w' ⟨rfl, L', e1, hR, hf⟩
    have HR := hide hR
    have HF := hide ((Fr.drewN w nq).trans hf)
    clear hR hf
    go_wp2
    go_end0
    exact ⟨rfl, ⟨L', e1, HR.out⟩, HF.out, Nat.le_refl _⟩
end Go.Proofs.YtlhhgenpcjjajaaGreatDoor
namespace Go.Proofs.YtlhhgenpcjjajaaGreatDoor
open Go.RowKit
section
variable {E : Env} {f0 : Nat → Nat} {n0 : Nat} {w0 : World} {f : Nat → Nat} {σ : Ab} {w : World}
theorem At.lt (h : At E f0 n0 w0 f σ w) : E.bB < w.heap.size := by obtain ⟨L, _, hr⟩ := h.rel; exact hr.lt
theorem At.free (h : At E f0 n0 w0 f σ w) (j : Nat) : w.frozen? ⟨E.bB, j, none⟩ = false := by obtain ⟨L, _, hr⟩ := h.rel; exact hr.free j
theorem At.c190 (h : At E f0 n0 w0 f σ w) : w.cell? ⟨E.bB, 190, none⟩ = some (oV f σ.head) := by obtain ⟨L, rfl, hr⟩ := h.rel; exact hr.c190
theorem At.c192 (h : At E f0 n0 w0 f σ w) : w.cell? ⟨E.bB, 192, none⟩ = some (.int .i64 (σ.mode : Int)) := by obtain ⟨L, rfl, hr⟩ := h.rel; exact hr.c192
theorem At.c195 (h : At E f0 n0 w0 f σ w) : w.cell? ⟨E.bB, 195, none⟩ = some (.bool σ.fostering) := by obtain ⟨L, rfl, hr⟩ := h.rel; exact hr.c195
theorem At.c196 (h : At E f0 n0 w0 f σ w) : w.cell? ⟨E.bB, 196, none⟩ = some (.bool σ.quirks) := by obtain ⟨L, rfl, hr⟩ := h.rel; exact hr.c196
theorem At.c197 (h : At E f0 n0 w0 f σ w) : w.cell? ⟨E.bB, 197, none⟩ = some (.int .i64 (σ.at' : Int)) := by obtain ⟨L, rfl, hr⟩ := h.rel; exact hr.c197
theorem At.c198 (h : At E f0 n0 w0 f σ w) : w.cell? ⟨E.bB, 198, none⟩ = some (.bool σ.behind) := by obtain ⟨L, rfl, hr⟩ := h.rel; exact hr.c198
theorem At.fset (h : At E f0 n0 w0 f σ w) (j : Nat) (u : Value) : Fr E.bs w (w.setCell ⟨E.bB, j, none⟩ u) := by
  obtain ⟨L, _, hr⟩ := h.rel
  obtain ⟨C, hb⟩ := hr.bcell
  exact .of_kept ((Kept.refl [E.bB] w).setCell (.inl (by simp)) u) (fun k hk => by simp at hk; subst hk; exact ⟨⟨_, _, _, hb, by decide⟩, hr.bB⟩)
theorem At.set_head (h : At E f0 n0 w0 f σ w) (x : Option Nat) (hx : σ.isEl x = true) : At E f0 n0 w0 f { σ with head := x } (w.setCell ⟨E.bB, 190, none⟩ (oV f x)) := by
  have hf := h.fset 190 (oV f x)
  obtain ⟨L, rfl, hr⟩ := h.rel; exact h.to ⟨L, rfl, hr.set_head x hx⟩ (Nat.le_refl _) hf
theorem At.set_mode (h : At E f0 n0 w0 f σ w) (x : Nat) : At E f0 n0 w0 f { σ with mode := x } (w.setCell ⟨E.bB, 192, none⟩ (.int .i64 (x : Int))) := by
  have hf := h.fset 192 (.int .i64 (x : Int))
  obtain ⟨L, rfl, hr⟩ := h.rel; exact h.to ⟨L, rfl, hr.set_mode x⟩ (Nat.le_refl _) hf
theorem At.set_quirks (h : At E f0 n0 w0 f σ w) (x : Bool) : At E f0 n0 w0 f { σ with quirks := x } (w.setCell ⟨E.bB, 196, none⟩ (.bool x)) := by
  have hf := h.fset 196 (.bool x)
  obtain ⟨L, rfl, hr⟩ := h.rel; exact h.to ⟨L, rfl, hr.set_quirks x⟩ (Nat.le_refl _) hf
theorem At.set_at (h : At E f0 n0 w0 f σ w) (x : Nat) : At E f0 n0 w0 f { σ with at' := x } (w.setCell ⟨E.bB, 197, none⟩ (.int .i64 (x : Int))) := by
  have hf := h.fset 197 (.int .i64 (x : Int))
  obtain ⟨L, rfl, hr⟩ := h.rel; exact h.to ⟨L, rfl, hr.set_at x⟩ (Nat.le_refl _) hf
theorem At.set_behind (h : At E f0 n0 w0 f σ w) (x : Bool) : At E f0 n0 w0 f { σ with behind := x } (w.setCell ⟨E.bB, 198, none⟩ (.bool x)) := by
  have hf := h.fset 198 (.bool x)
  obtain ⟨L, rfl, hr⟩ := h.rel; exact h.to ⟨L, rfl, hr.set_behind x⟩ (Nat.le_refl _) hf
def fnew (f : Nat → Nat) (n k : Nat) : Nat → Nat := fun i => if i < n then f i else k + (i - n)
theorem fnew_self (f : Nat → Nat) (n k : Nat) : fnew f n k n = k := by unfold fnew; rw [if_neg (by omega)]; omega
theorem fnew_ext (f : Nat → Nat) (n k : Nat) : ExF n f (fnew f n k) := fun i hi => if_pos hi
theorem At.newEl (h : At E f0 n0 w0 f σ w) (name : ByteArray) : At E f0 n0 w0 (fnew f σ.nodes.length w.heap.size) (σ.add (.el { name := name, attrs := [], par := none, kids := [] })) (w.alloc (.cells #[.string name, .slice none 0 0, .pointer none, .slice none 0 0] 140 (0, 0))) := by
  obtain ⟨L, rfl, hr⟩ := h.rel
  exact h.go ⟨_, rfl, hr.newEl name⟩ (fnew_ext _ _ _) (by simp [Ab.add]) (.of_kept0 ((Kept.refl _ _).alloc _))
theorem At.newTagEl (h : At E f0 n0 w0 f σ w) (hf : σ.fresh = true) (name : ByteArray) : At E f0 n0 w0 (fnew f σ.nodes.length w.heap.size) (σ.addF (.el { name := name, attrs := E.ta, par := none, kids := [] }) false) (w.alloc (.cells #[.string name, E.tv, .pointer none, .slice none 0 0] 140 (0, 0))) := by
  obtain ⟨L, rfl, hr⟩ := h.rel
  exact h.go ⟨_, rfl, hr.newTagEl hf name⟩ (fnew_ext _ _ _) (by simp [Ab.addF]) (.of_kept0 ((Kept.refl _ _).alloc _))
end
def tokV (E : Env) (t : ATok) : Value := match t.k with
  | .char s => .iface 188 (.agg #[.int .i64 (t.a : Int), .int .i64 (t.b : Int), .string s])
  | .start n => .iface 196 (.agg #[.int .i64 (t.a : Int), .int .i64 (t.b : Int), .string n, E.tv])
  | .stop n => .iface 197 (.agg #[.int .i64 (t.a : Int), .int .i64 (t.b : Int), .string n, E.tv])
  | .comment s => .iface 198 (.agg #[.int .i64 (t.a : Int), .int .i64 (t.b : Int), .string s])
  | .doctype n q => .iface 200 (.agg #[.int .i64 (t.a : Int), .int .i64 (t.b : Int), .string n, .bool q])
  | .lost => .iface 190 (.agg #[.int .i64 (t.a : Int), .int .i64 (t.b : Int)])
  | .textEnd => .iface 186 (.agg #[.int .i64 (t.a : Int), .int .i64 (t.b : Int)])
def TokOk (E : Env) (t : ATok) : Prop := t.isTag = true → t.attrs = E.ta
end Go.Proofs.YtlhhgenpcjjajaaGreatDoor
namespace Go.Proofs.YtlhhgenpcjjajaaGreatDoor
open Go.RowKit
theorem ta_yes {X : TypeId} {fs : Array Field} (hu : Tryz.prog.underlying X = some (.struct fs)) (v : Value) (xT : TypeId) (w : World) : (Instr.typeAssert (.iface X v) xT X true).run Tryz.prog w = .ok (.tuple #[v, .bool true]) w := by
  simp [Instr.typeAssert, run_underlying hu]
theorem ta_no {X T : TypeId} {fs : Array Field} {z : Value} (hu : Tryz.prog.underlying X = some (.struct fs)) (hz : (Tryz.prog.info? X).bind (·.zero) = some z) (hne : T ≠ X) (v : Value) (xT : TypeId) (w : World) : (Instr.typeAssert (.iface T v) xT X true).run Tryz.prog w = .ok (.tuple #[z, .bool false]) w := by
  obtain ⟨i, hi, hz⟩ := Option.bind_eq_some_iff.1 hz
  simp [Instr.typeAssert, run_underlying hu, hne, zeroValue, typeInfo, hi, hz]
def tagV (E : Env) (t : ATok) : Array Value := match t.k with
  | .start n => #[.int .i64 (t.a : Int), .int .i64 (t.b : Int), .string n, E.tv]
  | .stop n => #[.int .i64 (t.a : Int), .int .i64 (t.b : Int), .string n, E.tv]
  | _ => #[.int .i64 0, .int .i64 0, .string ⟨#[]⟩, .slice none 0 0]
set_option maxRecDepth 100000 in
set_option maxHeartbeats 1000000 in
theorem charsOf_ok (E : Env) (t : ATok) (w : World) :
    Calls Tryz.prog 94 #[tokV E t] w fun e w' => e = .returned (.string t.chars) ∧ Kept [] w w' := by
  obtain ⟨a, b, k, ats⟩ := t
  cases k with
  | char s =>
    simp only [tokV, ATok.chars]
    have q_Char := fun (v : Value) (xT : TypeId) (w : World) => ta_yes Tryz.underlying188 v xT w
    go_enter Tryz.func94, Tryz.ntmps94
    go_wp2
    go_ret
    exact ⟨rfl, (Kept.refl _ _).alloc _⟩
  | start s =>
    simp only [tokV, ATok.chars]
    have q_Char := fun (v : Value) (xT : TypeId) (w : World) => ta_no (T := 196) (z := .agg #[.int .i64 0, .int .i64 0, .string ⟨#[]⟩]) Tryz.underlying188 (by kernel_rfl) (by decide) v xT w
    go_enter Tryz.func94, Tryz.ntmps94
    go_wp2
    go_ret
    exact ⟨rfl, (Kept.refl _ _).alloc _⟩
  | stop s =>
    simp only [tokV, ATok.chars]
    have q_Char := fun (v : Value) (xT : TypeId) (w : World) => ta_no (T := 197) (z := .agg #[.int .i64 0, .int .i64 0, .string ⟨#[]⟩]) Tryz.underlying188 (by kernel_rfl) (by decide) v xT w
    go_enter Tryz.func94, Tryz.ntmps94
    go_wp2
    go_ret
    exact ⟨rfl, (Kept.refl _ _).alloc _⟩
  | comment s =>
    simp only [tokV, ATok.chars]
    have q_Char := fun (v : Value) (xT : TypeId) (w : World) => ta_no (T := 198) (z := .agg #[.int .i64 0, .int .i64 0, .string ⟨#[]⟩]) Tryz.underlying188 (by kernel_rfl) (by decide) v xT w
    go_enter Tryz.func94, Tryz.ntmps94
    go_wp2
    go_ret
    exact ⟨rfl, (Kept.refl _ _).alloc _⟩
  | doctype s q =>
    simp only [tokV, ATok.chars]
    have q_Char := fun (v : Value) (xT : TypeId) (w : World) => ta_no (T := 200) (z := .agg #[.int .i64 0, .int .i64 0, .string ⟨#[]⟩]) Tryz.underlying188 (by kernel_rfl) (by decide) v xT w
    go_enter Tryz.func94, Tryz.ntmps94
    go_wp2
    go_ret
    exact ⟨rfl, (Kept.refl _ _).alloc _⟩
  | lost =>
    simp only [tokV, ATok.chars]
    have q_Char := fun (v : Value) (xT : TypeId) (w : World) => ta_no (T := 190) (z := .agg #[.int .i64 0, .int .i64 0, .string ⟨#[]⟩]) Tryz.underlying188 (by kernel_rfl) (by decide) v xT w
    go_enter Tryz.func94, Tryz.ntmps94
    go_wp2
    go_ret
    exact ⟨rfl, (Kept.refl _ _).alloc _⟩
  | textEnd =>
    simp only [tokV, ATok.chars]
    have q_Char := fun (v : Value) (xT : TypeId) (w : World) => ta_no (T := 186) (z := .agg #[.int .i64 0, .int .i64 0, .string ⟨#[]⟩]) Tryz.underlying188 (by kernel_rfl) (by decide) v xT w
    go_enter Tryz.func94, Tryz.ntmps94
    go_wp2
    go_ret
    exact ⟨rfl, (Kept.refl _ _).alloc _⟩
set_option maxRecDepth 100000 in
set_option maxHeartbeats 1000000 in
theorem tagOf_ok (E : Env) (t : ATok) (w : World) (tv : ∃ ao n cp, E.tv = .slice ao n cp) :
    Calls Tryz.prog 177 #[tokV E t] w fun e w' => e = .returned (.agg (tagV E t)) ∧ Kept [] w w' := by
  obtain ⟨a, b, k, ats⟩ := t
  obtain ⟨ao, n, cp, htv⟩ := tv
  cases k with
  | char s =>
    simp only [tokV, tagV, htv]
    have q_StartTag := fun (v : Value) (xT : TypeId) (w : World) => ta_no (T := 188) (z := .agg #[.int .i64 0, .int .i64 0, .string ⟨#[]⟩, .slice none 0 0]) Tryz.underlying196 (by kernel_rfl) (by decide) v xT w
    have q_EndTag := fun (v : Value) (xT : TypeId) (w : World) => ta_no (T := 188) (z := .agg #[.int .i64 0, .int .i64 0, .string ⟨#[]⟩, .slice none 0 0]) Tryz.underlying197 (by kernel_rfl) (by decide) v xT w
    go_enter Tryz.func177, Tryz.ntmps177
    go_wp2
    refine bodyPost_ret (v := .agg #[.int .i64 0, .int .i64 0, .string ⟨#[]⟩, .slice none 0 0]) ?_ rfl ⟨rfl, (Kept.refl _ _).alloc _⟩
    simp [results, Tryz.results177, asAddr, Result.andThen, go_sem]
  | start s =>
    simp only [tokV, tagV, htv]
    have q_StartTag := fun (v : Value) (xT : TypeId) (w : World) => ta_yes Tryz.underlying196 v xT w
    go_enter Tryz.func177, Tryz.ntmps177
    go_wp2
    refine bodyPost_ret (v := .agg #[.int .i64 (a : Int), .int .i64 (b : Int), .string s, .slice ao n cp]) ?_ rfl ⟨rfl, ((Kept.refl _ _).alloc _).alloc _⟩
    simp [results, Tryz.results177, asAddr, Result.andThen, go_sem]
  | stop s =>
    simp only [tokV, tagV, htv]
    have q_StartTag := fun (v : Value) (xT : TypeId) (w : World) => ta_no (T := 197) (z := .agg #[.int .i64 0, .int .i64 0, .string ⟨#[]⟩, .slice none 0 0]) Tryz.underlying196 (by kernel_rfl) (by decide) v xT w
    have q_EndTag := fun (v : Value) (xT : TypeId) (w : World) => ta_yes Tryz.underlying197 v xT w
    go_enter Tryz.func177, Tryz.ntmps177
    go_wp2
    refine bodyPost_ret (v := .agg #[.int .i64 (a : Int), .int .i64 (b : Int), .string s, .slice ao n cp]) ?_ rfl ⟨rfl, ((Kept.refl _ _).alloc _).alloc _⟩
    simp [results, Tryz.results177, asAddr, Result.andThen, go_sem]
  | comment s =>
    simp only [tokV, tagV, htv]
    have q_StartTag := fun (v : Value) (xT : TypeId) (w : World) => ta_no (T := 198) (z := .agg #[.int .i64 0, .int .i64 0, .string ⟨#[]⟩, .slice none 0 0]) Tryz.underlying196 (by kernel_rfl) (by decide) v xT w
    have q_EndTag := fun (v : Value) (xT : TypeId) (w : World) => ta_no (T := 198) (z := .agg #[.int .i64 0, .int .i64 0, .string ⟨#[]⟩, .slice none 0 0]) Tryz.underlying197 (by kernel_rfl) (by decide) v xT w
    go_enter Tryz.func177, Tryz.ntmps177
    go_wp2
    refine bodyPost_ret (v := .agg #[.int .i64 0, .int .i64 0, .string ⟨#[]⟩, .slice none 0 0]) ?_ rfl ⟨rfl, (Kept.refl _ _).alloc _⟩
    simp [results, Tryz.results177, asAddr, Result.andThen, go_sem]
  | doctype s q =>
    simp only [tokV, tagV, htv]
    have q_StartTag := fun (v : Value) (xT : TypeId) (w : World) => ta_no (T := 200) (z := .agg #[.int .i64 0, .int .i64 0, .string ⟨#[]⟩, .slice none 0 0]) Tryz.underlying196 (by kernel_rfl) (by decide) v xT w
    have q_EndTag := fun (v : Value) (xT : TypeId) (w : World) => ta_no (T := 200) (z := .agg #[.int .i64 0, .int .i64 0, .string ⟨#[]⟩, .slice none 0 0]) Tryz.underlying197 (by kernel_rfl) (by decide) v xT w
    go_enter Tryz.func177, Tryz.ntmps177
    go_wp2
    refine bodyPost_ret (v := .agg #[.int .i64 0, .int .i64 0, .string ⟨#[]⟩, .slice none 0 0]) ?_ rfl ⟨rfl, (Kept.refl _ _).alloc _⟩
    simp [results, Tryz.results177, asAddr, Result.andThen, go_sem]
  | lost =>
    simp only [tokV, tagV, htv]
    have q_StartTag := fun (v : Value) (xT : TypeId) (w : World) => ta_no (T := 190) (z := .agg #[.int .i64 0, .int .i64 0, .string ⟨#[]⟩, .slice none 0 0]) Tryz.underlying196 (by kernel_rfl) (by decide) v xT w
    have q_EndTag := fun (v : Value) (xT : TypeId) (w : World) => ta_no (T := 190) (z := .agg #[.int .i64 0, .int .i64 0, .string ⟨#[]⟩, .slice none 0 0]) Tryz.underlying197 (by kernel_rfl) (by decide) v xT w
    go_enter Tryz.func177, Tryz.ntmps177
    go_wp2
    refine bodyPost_ret (v := .agg #[.int .i64 0, .int .i64 0, .string ⟨#[]⟩, .slice none 0 0]) ?_ rfl ⟨rfl, (Kept.refl _ _).alloc _⟩
    simp [results, Tryz.results177, asAddr, Result.andThen, go_sem]
  | textEnd =>
    simp only [tokV, tagV, htv]
    have q_StartTag := fun (v : Value) (xT : TypeId) (w : World) => ta_no (T := 186) (z := .agg #[.int .i64 0, .int .i64 0, .string ⟨#[]⟩, .slice none 0 0]) Tryz.underlying196 (by kernel_rfl) (by decide) v xT w
    have q_EndTag := fun (v : Value) (xT : TypeId) (w : World) => ta_no (T := 186) (z := .agg #[.int .i64 0, .int .i64 0, .string ⟨#[]⟩, .slice none 0 0]) Tryz.underlying197 (by kernel_rfl) (by decide) v xT w
    go_enter Tryz.func177, Tryz.ntmps177
    go_wp2
    refine bodyPost_ret (v := .agg #[.int .i64 0, .int .i64 0, .string ⟨#[]⟩, .slice none 0 0]) ?_ rfl ⟨rfl, (Kept.refl _ _).alloc _⟩
    simp [results, Tryz.results177, asAddr, Result.andThen, go_sem]
set_option maxHeartbeats 1000000 in
theorem isNul_ok (E : Env) (t : ATok) (w : World) :
    Calls Tryz.prog 189 #[tokV E t] w fun e w' => e = .returned (.bool (isNulS t.chars)) ∧ Kept [] w w' := by
  have C1 := hide (charsOf_ok E t w)
  go_enter Tryz.func189, Tryz.ntmps189
  go_wp2_with fail
  refine C1.out.mono ?_
  rintro e w' ⟨rfl, hk⟩
  have HK := hide hk
  clear hk
  go_wp2
  go_ret
  refine ⟨?_, HK.out⟩
  show Ending.returned (.bool (t.chars.toList == [0])) = _
  unfold isNulS eqS
  rw [ByteArray.toList_eq ⟨#[0]⟩]
theorem blank_in (c : UInt8) : decide (0 ≤ Lib.indexByte [32, 9, 10, 12] c) = isBlankS ⟨#[c]⟩ := by
  unfold isBlankS hasS eqS
  simp only [ByteArray.toList_eq, List.any_cons, List.any_nil, Bool.or_false]
  by_cases h1 : c = 32
  · subst h1; rfl
  by_cases h2 : c = 9
  · subst h2; rfl
  by_cases h3 : c = 10
  · subst h3; rfl
  by_cases h4 : c = 12
  · subst h4; rfl
  simp [Lib.indexByte, h1, h2, h3, h4, List.findIdx_cons, Ne.symm]
set_option maxHeartbeats 1000000 in
theorem isBlank_ok (s : ByteArray) (w : World) :
    Calls Tryz.prog 297 #[.string s] w fun e w' => e = .returned (.bool (isBlankS s)) ∧ Kept [] w w' := by
  by_cases h1 : s.size = 1
  · obtain ⟨c, rfl⟩ : ∃ c, s = ⟨#[c]⟩ := by
      obtain ⟨d⟩ := s
      have hd : d.size = 1 := h1
      obtain ⟨c, hc⟩ := Array.size_eq_one_iff.1 hd
      exact ⟨c, by rw [hc]⟩
    have C1 := hide (fun w => Tryz.strings_Contains_one ⟨#[32, 9, 10, 12]⟩ c w)
    have C2 := hide (blank_in c)
    go_enter Tryz.func297, Tryz.ntmps297
    go_wp2_with fail
    refine (C1.out _).mono ?_
    rintro e w' ⟨rfl, rfl⟩
    go_wp2
    go_ret
    exact ⟨by rw [← C2.out]; rfl, Kept.refl _ _⟩
  · have hz : isBlankS s = false := by
      unfold isBlankS hasS
      simp only [List.any_cons, List.any_nil, Bool.or_false]
      have hn : ∀ c : UInt8, eqS s ⟨#[c]⟩ = false := by
        intro c
        rw [Bool.eq_false_iff]
        intro h
        rw [eqS_iff] at h
        subst h
        exact h1 rfl
      simp [hn]
    rw [hz]
    have hs : ((s.size : Int) == 1) = false := by rw [beq_eq_false_iff_ne]; omega
    clear hz
    go_enter Tryz.func297, Tryz.ntmps297
    go_wp2
    go_ret
    exact ⟨rfl, Kept.refl _ _⟩
end Go.Proofs.YtlhhgenpcjjajaaGreatDoor
namespace Go.Proofs.YtlhhgenpcjjajaaGreatDoor
open Go.RowKit
def isFn (v : Value) : Prop := v = .nilFunc ∨ ∃ k a l, v = .func k a l
def firstV : List Value → Value
  | [] => .func (.func 97) #[] #[]
  | .nilFunc :: r => firstV r
  | v :: _ => v
set_option maxRecDepth 100000 in
set_option maxHeartbeats 1000000 in
theorem firstOf_any (g cap : Nat) (vs : List Value) (w : World) (hg : w.heap[g]? = some (.cells vs.toArray 168 (0, 0))) (hv : ∀ v ∈ vs, isFn v) (hn : vs.length ≤ 4096) :
    Calls Tryz.prog 316 #[.slice (some ⟨g, 0, none⟩) vs.length cap] w fun e w' => e = .returned (firstV vs) ∧ w' = w := by
  obtain ⟨m, hm⟩ : ∃ m, m = firstV vs := ⟨_, rfl⟩
  rw [← hm]
  have hm0 : firstV (vs.drop 0) = m := by rw [hm]; rfl
  have HM := hide hm0
  have HV := hide hv
  have HG := hide hg
  obtain ⟨n, hnn⟩ : ∃ n, n = vs.length := ⟨_, rfl⟩
  rw [← hnn] at hn ⊢
  have HN := hide hnn
  clear hm hm0 hv hg hnn
  go_enter Tryz.func316, Tryz.ntmps316
  go_wp2_with fail
  go_loopw [7] (fun v wr => ∃ k : Nat, v = .int .i64 k ∧ k ≤ n ∧ firstV (vs.drop k) = m ∧ wr = w) (fun v _ => n - (intOf v).toNat)
  case atStart => exact ⟨0, rfl, Nat.zero_le _, HM.out, rfl⟩
  case round =>
    obtain ⟨k, rfl, hk, hf, rfl⟩ := hrel
    have HF := hide hf
    by_cases hlt : k < n
    · have hlt' : k < vs.length := by rw [← HN.out]; exact hlt
      have hd := List.drop_eq_getElem_cons hlt'
      have hc : wr.cell? ⟨g, k, none⟩ = some vs[k] := by rw [cell_at HG.out]; simp [hlt']
      have hi := HV.out vs[k] (List.getElem_mem hlt')
      rw [hd] at hf
      generalize vs[k] = u at hf hc hi
      clear hd hlt'
      rcases hi with rfl | ⟨f, a, l, rfl⟩
      · have H2 := hide hf
        clear hf HF
        go_wp2_with fail
        rename_i K hK
        refine hK _ _ ?_
        simp only [Bool.not_true]
        go_wp2
        go_roundw
        case rel => exact ⟨k + 1, by go_num, by omega, H2.out, trivial⟩
        case measure => simp [intOf]; omega
      · have H2 := hide hf
        clear hf HF
        go_wp2_with fail
        rename_i K hK
        refine hK _ _ ?_
        simp only [Bool.not_false]
        go_wp2
        go_ret
        exact ⟨by rw [← H2.out]; rfl, rfl⟩
    · have he : vs.drop k = [] := List.drop_eq_nil_of_le (by rw [← HN.out]; omega)
      rw [he] at hf
      have H2 := hide hf
      clear hf HF he
      go_wp2
      go_ret
      exact ⟨by rw [← H2.out]; rfl, rfl⟩
def firstR : List Ru → Ru
  | [] => .nothing
  | .nil :: r => firstR r
  | x :: _ => x
def lookO : Option (List (List ByteArray × Ru)) → ByteArray → Ru
  | none, _ => .nil
  | some R, k => (lookR R k).getD .nil
def ruleOf (sp : RSpec) (t : ATok) : Ru := match t.k with
  | .char s => if isBlankS s then firstR [sp.blank, sp.char, sp.others] else firstR [sp.char, sp.others]
  | .comment _ => firstR [sp.comment, sp.others]
  | .doctype _ _ => firstR [sp.doctype, sp.others]
  | .start n => firstR [lookO sp.start n, sp.otherStart, sp.others]
  | .stop n => firstR [lookO sp.stop n, sp.otherEnd, sp.others]
  | .lost => firstR [sp.textEnd, sp.others]
  | .textEnd => firstR [sp.textEnd, sp.others]
theorem IsRu.isF {bm bB bD : Nat} {r : Ru} {v : Value} {w : World} (h : IsRu bm bB bD r v w) : (r = .nil ∧ v = .nilFunc) ∨ (r ≠ .nil ∧ ∃ k a l, v = .func k a l) := by
  cases r with
  | nil => exact .inl ⟨rfl, h⟩
  | nothing => exact .inr ⟨by simp, _, _, _, h⟩
  | meth f => exact .inr ⟨by simp, _, _, _, h⟩
  | asIn m => obtain ⟨b1, b2, e, _⟩ := h; exact .inr ⟨by simp, _, _, _, e⟩
  | comment pf own => obtain ⟨b1, e, _⟩ := h; exact .inr ⟨by simp, _, _, _, e⟩
  | ahead f => obtain ⟨b1, b2, e, _⟩ := h; exact .inr ⟨by simp, _, _, _, e⟩
  | ends f => obtain ⟨b1, e, _⟩ := h; exact .inr ⟨by simp, _, _, _, e⟩
  | ifT r => obtain ⟨b1, b2, u, e, _⟩ := h; exact .inr ⟨by simp, _, _, _, e⟩
  | starts ks m => obtain ⟨b1, b2, b3, u, e, _⟩ := h; exact .inr ⟨by simp, _, _, _, e⟩
  | implies ks n m => obtain ⟨b1, b2, b3, b4, u, e, _⟩ := h; exact .inr ⟨by simp, _, _, _, e⟩
  | item ks => obtain ⟨b1, b2, b3, u1, u2, e, _⟩ := h; exact .inr ⟨by simp, _, _, _, e⟩
theorem IsRu.fv {bm bB bD : Nat} {r : Ru} {v : Value} {w : World} (h : IsRu bm bB bD r v w) : isFn v := by
  rcases h.isF with ⟨_, e⟩ | ⟨_, e⟩
  · exact .inl e
  · exact .inr e
inductive AllRu (bm bB bD : Nat) (w : World) : List Ru → List Value → Prop
  | nil : AllRu bm bB bD w [] []
  | cons {r : Ru} {v : Value} {rs : List Ru} {vs : List Value} (h : IsRu bm bB bD r v w) (t : AllRu bm bB bD w rs vs) : AllRu bm bB bD w (r :: rs) (v :: vs)
theorem AllRu.first {bm bB bD : Nat} {w : World} {rs : List Ru} {vs : List Value} (h : AllRu bm bB bD w rs vs) : IsRu bm bB bD (firstR rs) (firstV vs) w := by
  induction h with
  | nil => rfl
  | @cons r v rs vs h t ih =>
    rcases h.isF with ⟨rfl, rfl⟩ | ⟨hr, k, a, l, rfl⟩
    · exact ih
    · have : firstR (r :: rs) = r := by cases r <;> first | rfl | exact absurd rfl hr
      rw [this]; exact h
theorem AllRu.isF {bm bB bD : Nat} {w : World} {rs : List Ru} {vs : List Value} (h : AllRu bm bB bD w rs vs) : ∀ v ∈ vs, isFn v := by
  induction h with
  | nil => intro v hv; simp at hv
  | cons h t ih => intro v hv; rcases List.mem_cons.1 hv with rfl | hv; exact h.fv; exact ih v hv
end Go.Proofs.YtlhhgenpcjjajaaGreatDoor
namespace Go.Proofs.YtlhhgenpcjjajaaGreatDoor
open Go.RowKit
theorem cells1 {v : Value} (h : v.oneCell' = true) : v.cells = #[v] := by
  cases v <;> first | rfl | (simp [Value.oneCell'] at h)
theorem two_at (w : World) (o o2 : Obj) : ((w.alloc o).alloc o2).heap[w.heap.size]? = some o := (Below.heap_alloc _ _ _ (by simp)).trans (heap_alloc_at w _)
set_option maxRecDepth 100000 in
set_option maxHeartbeats 4000000 in
theorem of_char (E : Env) (bB bD a b : Nat) (s : ByteArray) (ats : List (ByteArray × ByteArray)) (sp : RSpec) (v0 v1 v2 v3 v4 v5 v6 v7 v8 v9 : Value) (w : World) (h : IsRules E.bm bB bD sp v0 v1 v2 v3 v4 v5 v6 v7 v8 v9 w) :
    Calls Tryz.prog 264 #[.agg #[v0, v1, v2, v3, v4, v5, v6, v7, v8, v9], tokV E ⟨a, b, .char s, ats⟩] w fun e w' => ∃ v, e = .returned v ∧ IsRu E.bm bB bD (ruleOf sp ⟨a, b, .char s, ats⟩) v w ∧ Kept [] w w' := by
  have hone := h.one
  have k0 := cells1 (hone v0 (by simp))
  have k1 := cells1 (hone v1 (by simp))
  have k2 := cells1 (hone v2 (by simp))
  have k3 := cells1 (hone v3 (by simp))
  have k4 := cells1 (hone v4 (by simp))
  have k5 := cells1 (hone v5 (by simp))
  have k6 := cells1 (hone v6 (by simp))
  have k7 := cells1 (hone v7 (by simp))
  have k8 := cells1 (hone v8 (by simp))
  have k9 := cells1 (hone v9 (by simp))
  clear hone
  have HI := hide h
  clear h
  have HG := hide (fun o => two_at w (.cells #[v0, v1, v2, v3, v4, v5, v6, v7, v8, v9] 172 (0, 0)) o)
  have HG1 := hide (heap_alloc_at w (.cells #[v0, v1, v2, v3, v4, v5, v6, v7, v8, v9] 172 (0, 0)))
  have HK0 := hide (fun o => ((Kept.refl [] w).alloc (.cells #[v0, v1, v2, v3, v4, v5, v6, v7, v8, v9] 172 (0, 0))).alloc o)
  have HK1 := hide ((Kept.refl [] w).alloc (.cells #[v0, v1, v2, v3, v4, v5, v6, v7, v8, v9] 172 (0, 0)))
  simp only [tokV]
  have q_Char := fun (v : Value) (xT : TypeId) (w : World) => ta_yes Tryz.underlying188 v xT w
  have HB := hide (fun W => isBlank_ok s W)
  go_enter Tryz.func264, Tryz.ntmps264
  go_wp2_with fail
  refine (HB.out _).mono ?_
  rintro e w1 ⟨rfl, hk1⟩
  have gB := hk1.at (HG.out _) (by simp)
  have HK := hide ((HK0.out _).trans hk1)
  have q0 : w1.cell? ⟨w.heap.size, 0, none⟩ = some v0 := by rw [cell_at gB]; rfl
  have q1 : w1.cell? ⟨w.heap.size, 1, none⟩ = some v1 := by rw [cell_at gB]; rfl
  have q9 : w1.cell? ⟨w.heap.size, 9, none⟩ = some v9 := by rw [cell_at gB]; rfl
  clear gB hk1 HG HG1 HK0 HK1 HB
  have f0 := HI.out.blank.fv
  have f1 := HI.out.char.fv
  have f9 := HI.out.others.fv
  cases hb : isBlankS s with
  | true =>
    have hr : ruleOf sp ⟨a, b, .char s, ats⟩ = firstR [sp.blank, sp.char, sp.others] := by simp [ruleOf, hb]
    have HAll : Hid (AllRu E.bm bB bD w _ [v0, v1, v9]) := hide (.cons HI.out.blank (.cons HI.out.char (.cons HI.out.others (.nil))))
    have HR := hide hr
    clear hr hb
    have HC : Hid (Calls Tryz.prog 316 #[.slice (some ⟨w1.heap.size, 0, none⟩) 3 3] ((w1).alloc (.cells #[v0, v1, v9] 168 (0, 0))) fun e w3 => e = .returned (firstV [v0, v1, v9]) ∧ w3 = (w1).alloc (.cells #[v0, v1, v9] 168 (0, 0))) := by
      have := firstOf_any ((w1).heap.size) 3 [v0, v1, v9] ((w1).alloc (.cells #[v0, v1, v9] 168 (0, 0))) (heap_alloc_at _ _) HAll.out.isF (by simp)
      try rw [World.size_alloc] at this
      exact hide this
    rcases f0 with rfl | ⟨k0, a0, l0, rfl⟩
    all_goals rcases f1 with rfl | ⟨k1, a1, l1, rfl⟩
    all_goals rcases f9 with rfl | ⟨k9, a9, l9, rfl⟩
    all_goals go_wp2_with fail
    all_goals refine HC.out.mono ?_
    all_goals rintro e w3 ⟨rfl, rfl⟩
    all_goals have HFF := hide HAll.out.first
    all_goals simp only [firstV] at HFF ⊢
    all_goals go_wp2
    all_goals go_ret
    all_goals exact ⟨_, rfl, HR.out ▸ HFF.out, HK.out.alloc _⟩
  | false =>
    have hr : ruleOf sp ⟨a, b, .char s, ats⟩ = firstR [sp.char, sp.others] := by simp [ruleOf, hb]
    have HAll : Hid (AllRu E.bm bB bD w _ [v1, v9]) := hide (.cons HI.out.char (.cons HI.out.others (.nil)))
    have HR := hide hr
    clear hr hb
    have HC : Hid (Calls Tryz.prog 316 #[.slice (some ⟨w1.heap.size, 0, none⟩) 2 2] ((w1).alloc (.cells #[v1, v9] 168 (0, 0))) fun e w3 => e = .returned (firstV [v1, v9]) ∧ w3 = (w1).alloc (.cells #[v1, v9] 168 (0, 0))) := by
      have := firstOf_any ((w1).heap.size) 2 [v1, v9] ((w1).alloc (.cells #[v1, v9] 168 (0, 0))) (heap_alloc_at _ _) HAll.out.isF (by simp)
      try rw [World.size_alloc] at this
      exact hide this
    rcases f1 with rfl | ⟨k1, a1, l1, rfl⟩
    all_goals rcases f9 with rfl | ⟨k9, a9, l9, rfl⟩
    all_goals go_wp2_with fail
    all_goals refine HC.out.mono ?_
    all_goals rintro e w3 ⟨rfl, rfl⟩
    all_goals have HFF := hide HAll.out.first
    all_goals simp only [firstV] at HFF ⊢
    all_goals go_wp2
    all_goals go_ret
    all_goals exact ⟨_, rfl, HR.out ▸ HFF.out, HK.out.alloc _⟩
set_option maxRecDepth 100000 in
set_option maxHeartbeats 4000000 in
theorem of_textEnd (E : Env) (bB bD a b : Nat) (ats : List (ByteArray × ByteArray)) (sp : RSpec) (v0 v1 v2 v3 v4 v5 v6 v7 v8 v9 : Value) (w : World) (h : IsRules E.bm bB bD sp v0 v1 v2 v3 v4 v5 v6 v7 v8 v9 w) :
    Calls Tryz.prog 264 #[.agg #[v0, v1, v2, v3, v4, v5, v6, v7, v8, v9], tokV E ⟨a, b, .textEnd, ats⟩] w fun e w' => ∃ v, e = .returned v ∧ IsRu E.bm bB bD (ruleOf sp ⟨a, b, .textEnd, ats⟩) v w ∧ Kept [] w w' := by
  have hone := h.one
  have k0 := cells1 (hone v0 (by simp))
  have k1 := cells1 (hone v1 (by simp))
  have k2 := cells1 (hone v2 (by simp))
  have k3 := cells1 (hone v3 (by simp))
  have k4 := cells1 (hone v4 (by simp))
  have k5 := cells1 (hone v5 (by simp))
  have k6 := cells1 (hone v6 (by simp))
  have k7 := cells1 (hone v7 (by simp))
  have k8 := cells1 (hone v8 (by simp))
  have k9 := cells1 (hone v9 (by simp))
  clear hone
  have HI := hide h
  clear h
  have HG := hide (fun o => two_at w (.cells #[v0, v1, v2, v3, v4, v5, v6, v7, v8, v9] 172 (0, 0)) o)
  have HG1 := hide (heap_alloc_at w (.cells #[v0, v1, v2, v3, v4, v5, v6, v7, v8, v9] 172 (0, 0)))
  have HK0 := hide (fun o => ((Kept.refl [] w).alloc (.cells #[v0, v1, v2, v3, v4, v5, v6, v7, v8, v9] 172 (0, 0))).alloc o)
  have HK1 := hide ((Kept.refl [] w).alloc (.cells #[v0, v1, v2, v3, v4, v5, v6, v7, v8, v9] 172 (0, 0)))
  simp only [tokV]
  have q_Char := fun (v : Value) (xT : TypeId) (w : World) => ta_no (T := 186) (z := .agg #[.int .i64 0, .int .i64 0, .string ⟨#[]⟩]) Tryz.underlying188 (by kernel_rfl) (by decide) v xT w
  have q_Comment := fun (v : Value) (xT : TypeId) (w : World) => ta_no (T := 186) (z := .agg #[.int .i64 0, .int .i64 0, .string ⟨#[]⟩]) Tryz.underlying198 (by kernel_rfl) (by decide) v xT w
  have q_Doctype := fun (v : Value) (xT : TypeId) (w : World) => ta_no (T := 186) (z := .agg #[.int .i64 0, .int .i64 0, .string ⟨#[]⟩, .bool false]) Tryz.underlying200 (by kernel_rfl) (by decide) v xT w
  have q_StartTag := fun (v : Value) (xT : TypeId) (w : World) => ta_no (T := 186) (z := .agg #[.int .i64 0, .int .i64 0, .string ⟨#[]⟩, .slice none 0 0]) Tryz.underlying196 (by kernel_rfl) (by decide) v xT w
  have q_EndTag := fun (v : Value) (xT : TypeId) (w : World) => ta_no (T := 186) (z := .agg #[.int .i64 0, .int .i64 0, .string ⟨#[]⟩, .slice none 0 0]) Tryz.underlying197 (by kernel_rfl) (by decide) v xT w
  have q4 : (w.alloc (.cells #[v0, v1, v2, v3, v4, v5, v6, v7, v8, v9] 172 (0, 0))).cell? ⟨w.heap.size, 4, none⟩ = some v4 := by rw [cell_at HG1.out]; rfl
  have q9 : (w.alloc (.cells #[v0, v1, v2, v3, v4, v5, v6, v7, v8, v9] 172 (0, 0))).cell? ⟨w.heap.size, 9, none⟩ = some v9 := by rw [cell_at HG1.out]; rfl
  clear HG HG1 HK0
  have HAll : Hid (AllRu E.bm bB bD w _ [v4, v9]) := hide (.cons HI.out.textEnd (.cons HI.out.others (.nil)))
  have HC : Hid (Calls Tryz.prog 316 #[.slice (some ⟨w.heap.size + 1, 0, none⟩) 2 2] ((w.alloc (.cells #[v0, v1, v2, v3, v4, v5, v6, v7, v8, v9] 172 (0, 0))).alloc (.cells #[v4, v9] 168 (0, 0))) fun e w3 => e = .returned (firstV [v4, v9]) ∧ w3 = (w.alloc (.cells #[v0, v1, v2, v3, v4, v5, v6, v7, v8, v9] 172 (0, 0))).alloc (.cells #[v4, v9] 168 (0, 0))) := by
    have := firstOf_any ((w.alloc (.cells #[v0, v1, v2, v3, v4, v5, v6, v7, v8, v9] 172 (0, 0))).heap.size) 2 [v4, v9] ((w.alloc (.cells #[v0, v1, v2, v3, v4, v5, v6, v7, v8, v9] 172 (0, 0))).alloc (.cells #[v4, v9] 168 (0, 0))) (heap_alloc_at _ _) HAll.out.isF (by simp)
    try rw [World.size_alloc] at this
    exact hide this
  have f4 := HI.out.textEnd.fv
  have f9 := HI.out.others.fv
  go_enter Tryz.func264, Tryz.ntmps264
  rcases f4 with rfl | ⟨k4, a4, l4, rfl⟩
  all_goals rcases f9 with rfl | ⟨k9, a9, l9, rfl⟩
  all_goals go_wp2_with fail
  all_goals refine HC.out.mono ?_
  all_goals rintro e w3 ⟨rfl, rfl⟩
  all_goals have HFF := hide HAll.out.first
  all_goals simp only [firstV] at HFF ⊢
  all_goals go_wp2
  all_goals go_ret
  all_goals exact ⟨_, rfl, HFF.out, HK1.out.alloc _⟩
end Go.Proofs.YtlhhgenpcjjajaaGreatDoor
