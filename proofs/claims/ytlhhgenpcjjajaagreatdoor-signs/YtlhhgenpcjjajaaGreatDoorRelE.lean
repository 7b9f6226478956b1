import Derived.Test.YtlhhgenpcjjajaaGreatDoorRelC
import Derived.Deep.QuietTactic
import Derived.BigQuiet
import Derived.Deep.CutRange
set_option linter.unusedSimpArgs false
set_option linter.unusedVariables false
namespace Go.Proofs.YtlhhgenpcjjajaaGreatDoor
open Go.RowKit
theorem Rel.with' {E : Env} {L L' : Loc} {σ σ' : Ab} {w w' : World} (h : Rel E L σ w) (kt : KT E.bs [140, 142, 284] w w') (hE : Ext σ.nodes.length L L') (e1 : L'.ov = L.ov) (e2 : L'.cv = L.cv) (e3 : L'.wv = L.wv)
    (nds : ∀ i nd, σ'.nodes[i]? = some nd → NodeAt E.bs L' w' i nd) (inj : ∀ i j, L'.at' i = L'.at' j → i = j)
    (kne : ∀ i j g, i < σ'.nodes.length → j < σ'.nodes.length → i ≠ j → (L'.kv i).ownBlock = some g → (L'.kv j).ownBlock ≠ some g)
    (kel : ∀ i, i < σ'.nodes.length → σ'.el? i = none → (L'.kv i).ownBlock = none)
    (uq : ∀ i j e g, σ'.el? i = some e → givable e.name = true → j < σ'.nodes.length → i ≠ j → (L'.av i).ownBlock = some g → (L'.av j).ownBlock ≠ some g)
    (ael : ∀ i, i < σ'.nodes.length → σ'.el? i = none → (L'.av i).ownBlock = none)
    (wf : Wf σ') (frs : σ'.fresh = true → ∀ i g, i < σ'.nodes.length → E.tv.ownBlock = some g → (L'.av i).ownBlock ≠ some g)
    (sl : σ'.nodes.length ≤ σ.nodes.length := by first | exact Nat.le_refl _ | simp [Ab.setEl, Ab.setTx])
    (s0 : σ'.opn = σ.opn := by rfl) (s9 : σ'.act = σ.act := by rfl) (s1 : σ'.head = σ.head := by rfl) (s2 : σ'.form = σ.form := by rfl) (s3 : σ'.mode = σ.mode := by rfl) (s4 : σ'.kept = σ.kept := by rfl) (s5 : σ'.fostering = σ.fostering := by rfl) (s6 : σ'.quirks = σ.quirks := by rfl) (s7 : σ'.at' = σ.at' := by rfl) (s8 : σ'.behind = σ.behind := by rfl) (sw : σ'.waiting = σ.waiting := by rfl) (so : σ'.ofT = σ.ofT := by rfl) (sp : σ'.plainT = σ.plainT := by rfl) (d1 : σ'.dep = σ.dep := by rfl) (d2 : σ'.frm = σ.frm := by rfl) (d3 : σ'.atl = σ.atl := by rfl) : Rel E L' σ' w' := by
  obtain ⟨C, hb, hC⟩ := h.blk
  have hdoc := Ab.isEl_lt (σ := σ) (i := 0) h.wf.doc
  exact {
    fr := h.fr.trans (kt.fr (by decide))
    env := by rw [hE 0 hdoc]; exact h.env
    lim := by rw [d1, d2, d3]; exact h.lim
    nds := nds, inj := inj, kne := kne, kel := kel, uq := uq, ael := ael, wf := wf
    blk := ⟨C, kt.at hb (by decide), hC.ext hE h.wf e1 e2 e3 s1 s2 s3 s4 s5 s6 s7 s8⟩
    orow := by rw [s0, e1, hE.list fun x hx => Ab.isEl_of (h.wf.opn x hx)]; exact kt.row h.orow (by decide)
    crow := by rw [s9, e2, hE.list h.wf.act]; exact kt.row h.crow (by decide)
    ocn := by rw [e1, e2]; exact h.ocn
    ole := by rw [s0]; exact h.ole
    cle := by rw [s9]; exact h.cle
    wrow := by rw [sw, e3]; exact kt.row h.wrow (by decide)
    wle := by rw [sw]; exact h.wle
    rd := by rw [so, sp]; exact kt.at h.rd (by decide)
    rsz := h.rsz
    tok := kt.row h.tok (by decide)
    tle := h.tle
    bz := h.bz
    bB := h.bB
    bR := h.bR
    bN := fun i hi => by rw [hE i (Nat.lt_of_lt_of_le hi sl)]; exact h.bN i (Nat.lt_of_lt_of_le hi sl)
    frs := frs }
theorem Rel.kv_typ {E : Env} {L : Loc} {σ : Ab} {w : World} (h : Rel E L σ w) {j g : Nat} (hj : j < σ.nodes.length) (hg : (L.kv j).ownBlock = some g) : ∃ c m, w.heap[g]? = some (.cells c 142 m) := by
  cases he : σ.el? j with
  | none => rw [h.kel j hj he] at hg; cases hg
  | some e => exact row_typ (h.nds j _ (Ab.node_of_el he)).1.row hg
theorem Rel.av_typ {E : Env} {L : Loc} {σ : Ab} {w : World} (h : Rel E L σ w) {j g : Nat} (hj : j < σ.nodes.length) (hg : (L.av j).ownBlock = some g) : ∃ c m, w.heap[g]? = some (.cells c 299 m) := by
  cases he : σ.el? j with
  | none => rw [h.ael j hj he] at hg; cases hg
  | some e => exact row_typ (h.nds j _ (Ab.node_of_el he)).2.1 hg
theorem Rel.at_typ {E : Env} {L : Loc} {σ : Ab} {w : World} (h : Rel E L σ w) {j : Nat} (hj : j < σ.nodes.length) : ∃ c t, w.heap[L.at' j]? = some (.cells c t (0, 0)) ∧ t ≠ 142 ∧ t ≠ 299 := by
  obtain ⟨c, hc⟩ := (h.nds j σ.nodes[j] (List.getElem?_eq_getElem hj)).typ
  refine ⟨c, _, hc, ?_⟩
  cases σ.nodes[j] <;> (constructor <;> simp [ANd.typ])
theorem typ_ne {w : World} {a : Nat} {c c' : Array Value} {t t' : TypeId} {m m' : Nat × Nat} (h : w.heap[a]? = some (.cells c t m)) (h' : w.heap[a]? = some (.cells c' t' m')) : t = t' := by
  rw [h] at h'; simp at h'; exact h'.2.1
theorem Rel.others {E : Env} {L : Loc} {σ : Ab} {w w' : World} (h : Rel E L σ w) (J : List Nat) (hJ : ∀ j ∈ J, j < σ.nodes.length) {S : List Nat} (hS : ∀ s ∈ S, ∃ j ∈ J, s = L.at' j ∨ (L.kv j).ownBlock = some s) (hk : Kept S w w') {i : Nat} {nd : ANd} (hi : σ.nodes[i]? = some nd) (hiJ : i ∉ J) : NodeAt E.bs L w' i nd := by
  have hil : i < σ.nodes.length := (List.getElem?_eq_some_iff.1 hi).1
  refine (h.nds i nd hi).kept hk ?_ ?_ ?_
  · intro hm
    obtain ⟨j, hj, e | e⟩ := hS _ hm
    · exact hiJ (by rw [h.inj i j e]; exact hj)
    · obtain ⟨c, m, h1⟩ := h.kv_typ (hJ j hj) e
      obtain ⟨c', t, h2, h3, _⟩ := h.at_typ hil
      exact h3 (typ_ne h2 h1)
  · intro g hg hm
    obtain ⟨j, hj, e | e⟩ := hS _ hm
    · obtain ⟨c, m, h1⟩ := h.kv_typ hil hg
      obtain ⟨c', t, h2, h3, _⟩ := h.at_typ (hJ j hj)
      rw [e] at h1
      exact h3 (typ_ne h2 h1)
    · exact h.kne i j g hil (hJ j hj) (fun e' => hiJ (by rw [e']; exact hj)) hg e
  · intro g hg hm
    obtain ⟨c, m, h1⟩ := h.av_typ hil hg
    obtain ⟨j, hj, e | e⟩ := hS _ hm
    · obtain ⟨c', t, h2, _, h3⟩ := h.at_typ (hJ j hj)
      rw [e] at h1
      exact h3 (typ_ne h2 h1)
    · obtain ⟨c', m', h2⟩ := h.kv_typ (hJ j hj) e
      have := typ_ne h1 h2
      revert this; decide
theorem Rel.ktJ {E : Env} {L : Loc} {σ : Ab} {w w' : World} (h : Rel E L σ w) (J : List Nat) (hJ : ∀ j ∈ J, (σ.el? j).isSome = true) {S : List Nat} (hS : ∀ s ∈ S, ∃ j ∈ J, s = L.at' j ∨ (L.kv j).ownBlock = some s) (hk : Kept S w w') : KT E.bs [140, 142, 284] w w' := by
  refine .of_kept hk fun s hs _ => ?_
  obtain ⟨j, hj, e | e⟩ := hS s hs
  · obtain ⟨e', he⟩ := Option.isSome_iff_exists.1 (hJ j hj)
    rw [e]
    exact ⟨⟨_, _, _, (h.nds j _ (Ab.node_of_el he)).1.blk, by simp⟩, h.bN j (Ab.lt_of_el he)⟩
  · obtain ⟨e', he⟩ := Option.isSome_iff_exists.1 (hJ j hj)
    obtain ⟨c, m, h1⟩ := h.kv_typ (Ab.lt_of_el he) e
    exact ⟨⟨_, _, _, h1, by simp⟩, ((h.nds j _ (Ab.node_of_el he)).1.row.lt _ e).1⟩
theorem Ab.setEl_len (σ : Ab) (i : Nat) (e : AEl) : (σ.setEl i e).nodes.length = σ.nodes.length := by simp [Ab.setEl]
theorem Ab.el_setS {σ : Ab} {i : Nat} {e : AEl} (hi : i < σ.nodes.length) : (σ.setEl i e).el? i = some e := by
  simp [Ab.el?, Ab.setEl, hi]
theorem Ab.el_set {σ : Ab} {i j : Nat} {e : AEl} (hij : j ≠ i) : (σ.setEl i e).el? j = σ.el? j := by
  simp [Ab.el?, Ab.setEl, Ne.symm hij]
theorem Ab.node_set {σ : Ab} {i j : Nat} {e : AEl} {nd : ANd} (h : (σ.setEl i e).nodes[j]? = some nd) : (j = i ∧ nd = .el e) ∨ (j ≠ i ∧ σ.nodes[j]? = some nd) := by
  by_cases hij : i = j
  · subst hij
    have hl : i < σ.nodes.length := by have := (List.getElem?_eq_some_iff.1 h).1; simpa [Ab.setEl] using this
    simp [Ab.setEl, hl] at h
    exact .inl ⟨rfl, h.symm⟩
  · simp [Ab.setEl, hij] at h
    exact .inr ⟨Ne.symm hij, by simp [h]⟩
theorem Ab.isEl_set {σ : Ab} {i : Nat} {e : AEl} (hi : (σ.el? i).isSome = true) (x : Option Nat) : (σ.setEl i e).isEl x = σ.isEl x := by
  cases x with
  | none => rfl
  | some j =>
    show ((σ.setEl i e).el? j).isSome = (σ.el? j).isSome
    by_cases hj : j = i
    · subst hj
      rw [Ab.el_setS (Ab.isEl_lt (σ := σ) (i := j) hi), hi]; rfl
    · rw [Ab.el_set hj]
theorem Ab.isElS_set {σ : Ab} {i : Nat} {e : AEl} (hi : (σ.el? i).isSome = true) (x : Option Nat) : (σ.setEl i e).isElS x = σ.isElS x := by
  cases x with
  | none => rfl
  | some j => exact Ab.isEl_set hi (some j)
theorem Ab.isKid_set {σ : Ab} {i : Nat} {e : AEl} (hi : (σ.el? i).isSome = true) (k : Nd) : (σ.setEl i e).isKid k = σ.isKid k := by
  have hno : ∀ j, j ≠ i → (σ.setEl i e).nodes[j]? = σ.nodes[j]? := fun j hj => by simp [Ab.setEl, Ne.symm hj]
  obtain ⟨e0, he0⟩ := Option.isSome_iff_exists.1 hi
  have h0 := Ab.node_of_el he0
  have h1 : (σ.setEl i e).nodes[i]? = some (.el e) := by simp [Ab.setEl, Ab.lt_of_el he0]
  cases k with
  | el j => exact Ab.isEl_set hi (some j)
  | tx j => by_cases hj : j = i
            · subst hj; simp only [Ab.isKid, h0, h1]
            · simp only [Ab.isKid, hno j hj]
  | cm j => by_cases hj : j = i
            · subst hj; simp only [Ab.isKid, h0, h1]
            · simp only [Ab.isKid, hno j hj]
  | dt j => by_cases hj : j = i
            · subst hj; simp only [Ab.isKid, h0, h1]
            · simp only [Ab.isKid, hno j hj]
theorem Wf.setEl {σ : Ab} (h : Wf σ) {i : Nat} {e : AEl} (hi : (σ.el? i).isSome = true) (hp : σ.isEl e.par = true) (hk : ∀ k ∈ e.kids, σ.isKid k = true) : Wf (σ.setEl i e) := by
  refine ⟨fun x hx => by rw [Ab.isElS_set hi]; exact h.opn x hx, fun x hx => by rw [Ab.isEl_set hi]; exact h.act x hx, by rw [Ab.isEl_set hi]; exact h.head, by rw [Ab.isEl_set hi]; exact h.form, ?_, ?_, ?_⟩
  · intro j e' hj
    rw [Ab.isEl_set hi]
    by_cases hji : j = i
    · subst hji; rw [Ab.el_setS (Ab.isEl_lt (σ := σ) (i := j) hi)] at hj; cases hj; exact hp
    · rw [Ab.el_set hji] at hj; exact h.par j e' hj
  · intro j e' hj k hkk
    rw [Ab.isKid_set hi]
    by_cases hji : j = i
    · subst hji; rw [Ab.el_setS (Ab.isEl_lt (σ := σ) (i := j) hi)] at hj; cases hj; exact hk k hkk
    · rw [Ab.el_set hji] at hj; exact h.kids j e' hj k hkk
  · have := Ab.isEl_set (e := e) hi (some 0)
    exact this.trans h.doc
theorem Rel.setK {E : Env} {L : Loc} {σ σ' : Ab} {w w' : World} (h : Rel E L σ w) (i : Nat) (kv' : Value) (hi : (σ.el? i).isSome = true) (kt : KT E.bs [140, 142, 284] w w') (hsz : kv'.ownBlock = (L.kv i).ownBlock ∨ ∀ g, kv'.ownBlock = some g → w.heap.size ≤ g)
    (hlen : σ'.nodes.length = σ.nodes.length) (hnm : ∀ j e', σ'.el? j = some e' → ∃ e, σ.el? j = some e ∧ e'.name = e.name) (hno : ∀ j, σ'.el? j = none → σ.el? j = none)
    (nds : ∀ j nd, σ'.nodes[j]? = some nd → NodeAt E.bs { L with kv := fun x => if x = i then kv' else L.kv x } w' j nd) (wf : Wf σ')
    (s0 : σ'.opn = σ.opn := by rfl) (s9 : σ'.act = σ.act := by rfl) (s1 : σ'.head = σ.head := by rfl) (s2 : σ'.form = σ.form := by rfl) (s3 : σ'.mode = σ.mode := by rfl) (s4 : σ'.kept = σ.kept := by rfl) (s5 : σ'.fostering = σ.fostering := by rfl) (s6 : σ'.quirks = σ.quirks := by rfl) (s7 : σ'.at' = σ.at' := by rfl) (s8 : σ'.behind = σ.behind := by rfl) (sw : σ'.waiting = σ.waiting := by rfl) (so : σ'.ofT = σ.ofT := by rfl) (sp : σ'.plainT = σ.plainT := by rfl) (sf : σ'.fresh = σ.fresh := by rfl) (d1 : σ'.dep = σ.dep := by rfl) (d2 : σ'.frm = σ.frm := by rfl) (d3 : σ'.atl = σ.atl := by rfl) : To E L σ' w w' := by
  have hil := Ab.isEl_lt (σ := σ) (i := i) hi
  have hnew : ∀ j g, j < σ.nodes.length → j ≠ i → kv'.ownBlock = some g → (L.kv j).ownBlock ≠ some g := by
    intro j g hj hji hg hg2
    rcases hsz with e | e
    · rw [e] at hg; exact h.kne i j g hil hj (Ne.symm hji) hg hg2
    · obtain ⟨c, m, hc⟩ := h.kv_typ hj hg2
      have := e g hg
      have := lt_of_block hc
      omega
  refine ⟨{ L with kv := fun x => if x = i then kv' else L.kv x }, rfl, h.with' (L' := { L with kv := fun x => if x = i then kv' else L.kv x }) kt (fun _ _ => rfl) rfl rfl rfl nds h.inj ?_ ?_ ?_ ?_ wf ?_ (Nat.le_of_eq hlen) s0 s9 s1 s2 s3 s4 s5 s6 s7 s8 sw so sp d1 d2 d3, kt.fr (by decide)⟩
  · intro a b g ha hb hab hg
    rw [hlen] at ha hb
    by_cases h1 : a = i
    · subst h1
      have h2 : b ≠ a := Ne.symm hab
      simp only [if_true] at hg
      simp only [if_neg h2]
      exact hnew b g hb h2 hg
    · simp only [if_neg h1] at hg
      by_cases h2 : b = i
      · subst h2
        simp only [if_true]
        exact fun hh => hnew a g ha h1 hh hg
      · simp only [if_neg h2]; exact h.kne a b g ha hb hab hg
  · intro j hj hn
    rw [hlen] at hj
    have hn' := hno j hn
    have hji : j ≠ i := by rintro rfl; rw [hn'] at hi; cases hi
    simp only [if_neg hji]
    exact h.kel j hj hn'
  · intro a b e g ha hgv hb hab hg
    rw [hlen] at hb
    obtain ⟨e0, h0, hnm'⟩ := hnm a e ha
    exact h.uq a b e0 g h0 (by rw [← hnm']; exact hgv) hb hab hg
  · intro j hj hn
    rw [hlen] at hj
    exact h.ael j hj (hno j hn)
  · rw [hlen, sf]; exact h.frs
end Go.Proofs.YtlhhgenpcjjajaaGreatDoor
namespace Go.Proofs.YtlhhgenpcjjajaaGreatDoor
open Go.RowKit
theorem Rel.elAt {E : Env} {L : Loc} {σ : Ab} {w : World} (h : Rel E L σ w) {i : Nat} {e : AEl} (hi : σ.el? i = some e) : El E.bs w (L.at' i) e.name (L.av i) (omap L.at' e.par) (L.kv i) (e.kids.map (Nd.map L.at')) := (h.nds i _ (Ab.node_of_el hi)).1
theorem Rel.atrAt {E : Env} {L : Loc} {σ : Ab} {w : World} (h : Rel E L σ w) {i : Nat} {e : AEl} (hi : σ.el? i = some e) : Atr w (L.av i) e.attrs := (h.nds i _ (Ab.node_of_el hi)).2.1
theorem Rel.ale {E : Env} {L : Loc} {σ : Ab} {w : World} (h : Rel E L σ w) {i : Nat} {e : AEl} (hi : σ.el? i = some e) : e.attrs.length ≤ 4096 := (h.nds i _ (Ab.node_of_el hi)).2.2
theorem Rel.isNd {E : Env} {L : Loc} {σ : Ab} {w : World} (h : Rel E L σ w) {k : Nd} (hk : σ.isKid k = true) : IsNd w (Nd.map L.at' k) := by
  cases k with
  | el i =>
    obtain ⟨e, he⟩ := Option.isSome_iff_exists.1 (show (σ.el? i).isSome = true from hk)
    exact ⟨_, (h.elAt he).blk⟩
  | tx i =>
    simp only [Ab.isKid] at hk
    split at hk
    · rename_i s hs; exact ⟨_, h.nds i _ hs⟩
    · cases hk
  | cm i =>
    simp only [Ab.isKid] at hk
    split at hk
    · rename_i s hs; exact ⟨_, h.nds i _ hs⟩
    · cases hk
  | dt i =>
    simp only [Ab.isKid] at hk
    split at hk
    · rename_i s hs; exact ⟨_, h.nds i _ hs⟩
    · cases hk
theorem isEl_map {f : Nat → Nat} (hf : ∀ i j, f i = f j → i = j) (j : Nat) (k : Nd) : (Nd.map f k).isEl (f j) = k.isEl j := by
  cases k with
  | el i =>
    simp only [Nd.map, Nd.isEl]
    by_cases h : i = j
    · subst h; simp
    · have : f i ≠ f j := fun e => h (hf _ _ e)
      rw [beq_eq_false_iff_ne.2 this, beq_eq_false_iff_ne.2 h]
  | tx i => rfl
  | cm i => rfl
  | dt i => rfl
theorem posN_map {f : Nat → Nat} (hf : ∀ i j, f i = f j → i = j) (ks : List Nd) (j : Nat) : posN (ks.map (Nd.map f)) (Nd.isEl (f j)) = posN ks (Nd.isEl j) := by
  have : (ks.map (Nd.map f)).findIdx (Nd.isEl (f j)) = ks.findIdx (Nd.isEl j) := by
    rw [List.findIdx_map]
    congr 1
    funext k
    exact isEl_map hf j k
  unfold posN
  rw [this, List.length_map]
theorem t_end {E : Env} {L : Loc} {σ : Ab} {w : World} (h : Rel E L σ w) {i : Nat} {e : AEl} (hi : σ.el? i = some e) :
    Calls Tryz.prog 99 #[.pointer (some ⟨L.at' i, 0, none⟩)] w fun e' w' => e' = .returned (place (L.at' i) e.kids.length) ∧ Rel E L σ w' ∧ Kept [] w w' := by
  refine (end_ok E.bs _ _ _ _ _ _ w (h.elAt hi)).mono ?_
  rintro e' w' ⟨rfl, hk⟩
  exact ⟨by rw [List.length_map], h.kept0 hk, hk⟩
theorem t_front_no {E : Env} {L : Loc} {σ : Ab} {w : World} (h : Rel E L σ w) {i : Nat} {e : AEl} (hi : σ.el? i = some e) (hp : e.par = none) :
    Calls Tryz.prog 321 #[.pointer (some ⟨L.at' i, 0, none⟩)] w fun e' w' => e' = .returned (.tuple #[.agg #[.pointer none, .int .i64 0], .bool false]) ∧ Rel E L σ w' ∧ Kept [] w w' := by
  have hE := h.elAt hi
  rw [hp] at hE
  refine (front_no E.bs _ _ _ _ _ w hE).mono ?_
  rintro e' w' ⟨rfl, hk⟩
  exact ⟨rfl, h.kept0 hk, hk⟩
theorem t_front_yes {E : Env} {L : Loc} {σ : Ab} {w : World} (h : Rel E L σ w) {i p : Nat} {e ep : AEl} (hi : σ.el? i = some e) (hp : e.par = some p) (hep : σ.el? p = some ep) :
    Calls Tryz.prog 321 #[.pointer (some ⟨L.at' i, 0, none⟩)] w fun e' w' => e' = .returned (.tuple #[.agg #[.pointer (some ⟨L.at' p, 0, none⟩), .int .i64 (posN ep.kids (Nd.isEl i))], .bool true]) ∧ Rel E L σ w' ∧ Kept [] w w' := by
  have hE := h.elAt hi
  rw [hp] at hE
  refine (front_yes E.bs _ _ _ _ _ _ _ _ _ _ _ w hE (h.elAt hep) ?_).mono ?_
  · intro x hx
    obtain ⟨k, hk, rfl⟩ := List.mem_map.1 hx
    exact h.isNd (h.wf.kids p ep hep k hk)
  rintro e' w' ⟨rfl, hk⟩
  exact ⟨by rw [posN_map h.inj], h.kept0 hk, hk⟩
theorem t_another {E : Env} {L : Loc} {σ : Ab} {w : World} (h : Rel E L σ w) {i : Nat} {e : AEl} (hi : σ.el? i = some e) (hg : givable e.name = false) :
    Calls Tryz.prog 275 #[.pointer (some ⟨L.at' i, 0, none⟩)] w fun e' w' => ∃ L', Ext σ.nodes.length L L' ∧ e' = .returned (.pointer (some ⟨L'.at' σ.nodes.length, 0, none⟩)) ∧ Rel E L' (σ.add (.el { name := e.name, attrs := e.attrs, par := none, kids := [] })) w' ∧ Fr E.bs w w' := by
  have aI := h.atrAt hi
  have lI := h.ale hi
  refine (another_ok E.bs _ _ _ _ _ _ w (h.elAt hi)).mono ?_
  rintro e' w' ⟨rfl, hE, hk⟩
  have hil := Ab.lt_of_el hi
  refine ⟨L.new σ.nodes.length w.heap.size (L.av i) (.slice none 0 0), fun j hj => Loc.new_lt hj, by rw [Loc.new_self], ?_, .of_kept0 hk⟩
  refine h.add (.el { name := e.name, attrs := e.attrs, par := none, kids := [] }) w.heap.size (L.av i) (.slice none 0 0) σ.fresh hk (Nat.le_refl _) ?_ rfl (fun e' he' => by cases he'; exact ⟨rfl, rfl⟩) ?_ ?_ (fun hne => absurd rfl (hne _)) ?_
  · show El E.bs w' _ _ _ _ _ _ ∧ Atr w' _ _ ∧ _
    rw [Loc.new_self, Loc.new_avS, Loc.new_kvS]
    exact ⟨hE, hk.ownsRow aI (by simp), lI⟩
  · intro j e2 g hj hgv h1 h2
    by_cases hji : j = i
    · subst hji; rw [hi] at hj; cases hj; rw [hg] at hgv; cases hgv
    · exact h.uq j i e2 g hj hgv hil hji h2 h1
  · intro e2 g j he2 hgv
    cases he2
    rw [hg] at hgv; cases hgv
  · intro hf
    exact ⟨hf, fun g hgt => h.frs hf i g hil hgt⟩
def ins (ks : List Nd) (n : Nat) (k : Nd) : List Nd := ks.take n ++ [k] ++ ks.drop n
theorem ins_map (f : Nat → Nat) (ks : List Nd) (n : Nat) (k : Nd) : (ins ks n k).map (Nd.map f) = (ks.map (Nd.map f)).take n ++ [Nd.map f k] ++ (ks.map (Nd.map f)).drop n := by
  simp [ins, List.map_take, List.map_drop]
theorem ins_sub {ks : List Nd} {n : Nat} {k x : Nd} (h : x ∈ ins ks n k) : x ∈ ks ∨ x = k := by
  rcases List.mem_append.1 h with h | h
  · rcases List.mem_append.1 h with h | h
    · exact .inl (List.mem_of_mem_take h)
    · exact .inr (List.mem_singleton.1 h)
  · exact .inl (List.mem_of_mem_drop h)
theorem t_put_el {E : Env} {L : Loc} {σ : Ab} {w : World} (h : Rel E L σ w) {i j n : Nat} {ei ej : AEl} (hi : σ.el? i = some ei) (hj : σ.el? j = some ej) (hji : j ≠ i) (hn : n ≤ ei.kids.length) (hl : ei.kids.length < 1048576) :
    Calls Tryz.prog 175 #[place (L.at' i) n, (Nd.el (L.at' j)).val] w fun e w' => e = .returned (.tuple #[]) ∧ To E L ((σ.setEl i { ei with kids := ins ei.kids n (.el j) }).setEl j { ej with par := some i }) w w' := by
  have hil := Ab.lt_of_el hi
  have hjl := Ab.lt_of_el hj
  have hii : (σ.el? i).isSome = true := by rw [hi]; rfl
  have hjj : (σ.el? j).isSome = true := by rw [hj]; rfl
  have aI := h.atrAt hi
  have lI := h.ale hi
  have aJ := h.atrAt hj
  have lJ := h.ale hj
  refine (put_el E.bs _ n _ _ _ _ _ _ _ _ _ _ _ w (h.elAt hi) (h.elAt hj) (fun e => hji (h.inj _ _ e)) (fun g hg => h.kne j i g hjl hil hji hg) (by simpa using hn) (by simpa using hl) h.bw).mono ?_
  rintro e w' ⟨rfl, ⟨kv', E1, f1⟩, E2, hk⟩
  have hS : ∀ s ∈ L.at' j :: L.at' i :: (L.kv i).ownBlock.toList, ∃ x ∈ [j, i], s = L.at' x ∨ (L.kv x).ownBlock = some s := by
    intro s hs
    rcases List.mem_cons.1 hs with rfl | hs
    · exact ⟨j, by simp, .inl rfl⟩
    rcases List.mem_cons.1 hs with rfl | hs
    · exact ⟨i, by simp, .inl rfl⟩
    · exact ⟨i, by simp, .inr (by simpa using hs)⟩
  have kt := h.ktJ [j, i] (by intro x hx; simp at hx; rcases hx with rfl | rfl <;> assumption) hS hk
  have hj1 : ((σ.setEl i { ei with kids := ins ei.kids n (.el j) }).el? j).isSome = true := by rw [Ab.el_set hji]; exact hjj
  have hatr : ∀ x e, x < σ.nodes.length → Atr w (L.av x) e → Atr w' (L.av x) e := fun x e _ ha => kt.row ha (by decide)
  refine ⟨rfl, h.setK i kv' hii kt f1 (by rw [Ab.setEl_len, Ab.setEl_len]) ?_ ?_ ?_ ?_⟩
  · intro x e' hx
    by_cases hxj : x = j
    · subst hxj
      rw [Ab.el_setS (by rw [Ab.setEl_len]; exact hjl)] at hx; cases hx
      exact ⟨ej, hj, rfl⟩
    · rw [Ab.el_set hxj] at hx
      by_cases hxi : x = i
      · subst hxi
        rw [Ab.el_setS hil] at hx; cases hx
        exact ⟨ei, hi, rfl⟩
      · rw [Ab.el_set hxi] at hx; exact ⟨e', hx, rfl⟩
  · intro x hx
    by_cases hxj : x = j
    · subst hxj; rw [Ab.el_setS (by rw [Ab.setEl_len]; exact hjl)] at hx; cases hx
    · rw [Ab.el_set hxj] at hx
      by_cases hxi : x = i
      · subst hxi; rw [Ab.el_setS hil] at hx; cases hx
      · rw [Ab.el_set hxi] at hx; exact hx
  · intro x nd hx
    rcases Ab.node_set hx with ⟨rfl, rfl⟩ | ⟨hxj, hx⟩
    · show El E.bs w' _ _ _ _ (if x = i then kv' else L.kv x) _ ∧ _
      rw [if_neg hji]
      exact ⟨E2, hatr x _ hjl aJ, lJ⟩
    · rcases Ab.node_set hx with ⟨rfl, rfl⟩ | ⟨hxi, hx⟩
      · show El E.bs w' _ _ _ _ (if x = x then kv' else L.kv x) _ ∧ _
        rw [if_pos rfl]
        refine ⟨?_, hatr x _ hil aI, lI⟩
        show El E.bs w' (L.at' x) ei.name (L.av x) (omap L.at' ei.par) kv' ((ins ei.kids n (.el j)).map (Nd.map L.at'))
        rw [ins_map]
        exact E1
      · have hN := h.others [j, i] (by intro y hy; simp at hy; rcases hy with rfl | rfl <;> assumption) hS hk hx (by simp [hxj, hxi])
        have hxl : x < σ.nodes.length := (List.getElem?_eq_some_iff.1 hx).1
        exact hN.ext (σ := σ) (Ext.refl _ _) hxl rfl (if_neg hxi) (h.wfn hx)
  · refine (h.wf.setEl (e := { ei with kids := ins ei.kids n (.el j) }) hii (h.wf.par i ei hi) ?_).setEl hj1 ?_ ?_
    · intro k hk'
      rcases ins_sub hk' with hk' | rfl
      · exact h.wf.kids i ei hi k hk'
      · exact hjj
    · rw [Ab.isEl_set hii]; exact hii
    · intro k hk'
      rw [Ab.isKid_set hii]; exact h.wf.kids j ej hj k hk'
theorem t_put_nd {E : Env} {L : Loc} {σ : Ab} {w : World} (h : Rel E L σ w) {i n : Nat} {ei : AEl} {k : Nd} (hi : σ.el? i = some ei) (hk : σ.isKid k = true) (hne : ∀ j, k ≠ .el j) (hn : n ≤ ei.kids.length) (hl : ei.kids.length < 1048576) :
    Calls Tryz.prog 175 #[place (L.at' i) n, (Nd.map L.at' k).val] w fun e w' => e = .returned (.tuple #[]) ∧ To E L (σ.setEl i { ei with kids := ins ei.kids n k }) w w' := by
  have hil := Ab.lt_of_el hi
  have hii : (σ.el? i).isSome = true := by rw [hi]; rfl
  have aI := h.atrAt hi
  have lI := h.ale hi
  refine (put_ok E.bs _ n _ _ _ _ _ (Nd.map L.at' k) w (h.elAt hi) (by simpa using hn) (by simpa using hl) h.bw (fun j e => by cases k <;> simp [Nd.map] at e; exact hne _ rfl)).mono ?_
  rintro e w' ⟨rfl, ⟨kv', E1, f1⟩, hkp⟩
  have hS : ∀ s ∈ L.at' i :: (L.kv i).ownBlock.toList, ∃ x ∈ [i], s = L.at' x ∨ (L.kv x).ownBlock = some s := by
    intro s hs
    rcases List.mem_cons.1 hs with rfl | hs
    · exact ⟨i, by simp, .inl rfl⟩
    · exact ⟨i, by simp, .inr (by simpa using hs)⟩
  have kt := h.ktJ [i] (by intro x hx; simp at hx; subst hx; assumption) hS hkp
  refine ⟨rfl, h.setK i kv' hii kt f1 (by rw [Ab.setEl_len]) ?_ ?_ ?_ ?_⟩
  · intro x e' hx
    by_cases hxi : x = i
    · subst hxi
      rw [Ab.el_setS hil] at hx; cases hx
      exact ⟨ei, hi, rfl⟩
    · rw [Ab.el_set hxi] at hx; exact ⟨e', hx, rfl⟩
  · intro x hx
    by_cases hxi : x = i
    · subst hxi; rw [Ab.el_setS hil] at hx; cases hx
    · rw [Ab.el_set hxi] at hx; exact hx
  · intro x nd hx
    rcases Ab.node_set hx with ⟨rfl, rfl⟩ | ⟨hxi, hx⟩
    · show El E.bs w' _ _ _ _ (if x = x then kv' else L.kv x) _ ∧ _
      rw [if_pos rfl]
      refine ⟨?_, kt.row aI (by decide), lI⟩
      show El E.bs w' (L.at' x) ei.name (L.av x) (omap L.at' ei.par) kv' ((ins ei.kids n k).map (Nd.map L.at'))
      rw [ins_map]
      exact E1
    · have hN := h.others [i] (by intro y hy; simp at hy; subst hy; assumption) hS hkp hx (by simp [hxi])
      have hxl : x < σ.nodes.length := (List.getElem?_eq_some_iff.1 hx).1
      exact hN.ext (σ := σ) (Ext.refl _ _) hxl rfl (if_neg hxi) (h.wfn hx)
  · refine h.wf.setEl hii (h.wf.par i ei hi) ?_
    intro x hx
    rcases ins_sub hx with hx | rfl
    · exact h.wf.kids i ei hi x hx
    · exact hk
end Go.Proofs.YtlhhgenpcjjajaaGreatDoor
namespace Go.Proofs.YtlhhgenpcjjajaaGreatDoor
open Go.RowKit
theorem Rel.newEl {E : Env} {L : Loc} {σ : Ab} {w : World} (h : Rel E L σ w) (name : ByteArray) : Rel E (L.new σ.nodes.length w.heap.size (.slice none 0 0) (.slice none 0 0)) (σ.add (.el { name := name, attrs := [], par := none, kids := [] })) (w.alloc (.cells #[.string name, .slice none 0 0, .pointer none, .slice none 0 0] 140 (0, 0))) := by
  have hk : Kept [] w (w.alloc (.cells #[.string name, .slice none 0 0, .pointer none, .slice none 0 0] 140 (0, 0))) := (Kept.refl _ _).alloc _
  refine h.add (.el { name := name, attrs := [], par := none, kids := [] }) w.heap.size (.slice none 0 0) (.slice none 0 0) σ.fresh hk (Nat.le_refl _) ?_ rfl (fun e he => by cases he; exact ⟨rfl, rfl⟩) (fun _ _ _ _ _ h1 => by cases h1) (fun _ _ _ _ _ _ h1 => by cases h1) (fun _ => rfl) (fun hf => ⟨hf, fun _ _ => by simp [Value.ownBlock]⟩)
  show El E.bs _ _ _ _ _ _ _ ∧ Atr _ _ _ ∧ _
  rw [Loc.new_self, Loc.new_avS, Loc.new_kvS]
  exact ⟨⟨heap_alloc_at w _, World.ownsRow_nil _ _ _ _, by simp, ⟨_, _, _, rfl⟩⟩, World.ownsRow_nil _ _ _ _, by simp⟩
theorem Rel.newTagEl {E : Env} {L : Loc} {σ : Ab} {w : World} (h : Rel E L σ w) (hf : σ.fresh = true) (name : ByteArray) : Rel E (L.new σ.nodes.length w.heap.size E.tv (.slice none 0 0)) (σ.addF (.el { name := name, attrs := E.ta, par := none, kids := [] }) false) (w.alloc (.cells #[.string name, E.tv, .pointer none, .slice none 0 0] 140 (0, 0))) := by
  have hk : Kept [] w (w.alloc (.cells #[.string name, E.tv, .pointer none, .slice none 0 0] 140 (0, 0))) := (Kept.refl _ _).alloc _
  refine h.add (.el { name := name, attrs := E.ta, par := none, kids := [] }) w.heap.size E.tv (.slice none 0 0) false hk (Nat.le_refl _) ?_ rfl (fun e he => by cases he; exact ⟨rfl, rfl⟩) (fun i e g hi _ h1 => h.frs hf i g (Ab.lt_of_el hi) h1) (fun e g j _ _ hj h1 => h.frs hf j g hj h1) (fun hne => absurd rfl (hne _)) (fun hf => by cases hf)
  show El E.bs _ _ _ _ _ _ _ ∧ Atr _ _ _ ∧ _
  rw [Loc.new_self, Loc.new_avS, Loc.new_kvS]
  obtain ⟨ao, cap, hv⟩ := owns_shape h.tok
  exact ⟨⟨heap_alloc_at w _, World.ownsRow_nil _ _ _ _, by simp, ⟨_, _, _, hv⟩⟩, hk.ownsRow h.tok (by simp), h.tle⟩
theorem Rel.newNd {E : Env} {L : Loc} {σ : Ab} {w : World} (h : Rel E L σ w) (nd : ANd) (s : ByteArray) (hnd : nd = .tx s ∨ nd = .cm s ∨ nd = .dt s) : Rel E (L.new σ.nodes.length w.heap.size (.slice none 0 0) (.slice none 0 0)) (σ.add nd) (w.alloc (.cells #[.string s] nd.typ (0, 0))) := by
  have hk : Kept [] w (w.alloc (.cells #[.string s] nd.typ (0, 0))) := (Kept.refl _ _).alloc _
  have hne : ∀ e, nd ≠ .el e := by rintro e rfl; rcases hnd with h | h | h <;> cases h
  refine h.add nd w.heap.size (.slice none 0 0) (.slice none 0 0) σ.fresh hk (Nat.le_refl _) ?_ rfl (fun e he => absurd he (hne e)) (fun _ _ _ _ _ h1 => by cases h1) (fun _ _ _ _ _ _ h1 => by cases h1) (fun _ => rfl) (fun hf => ⟨hf, fun _ _ => by simp [Value.ownBlock]⟩)
  rcases hnd with rfl | rfl | rfl
  · show _ = _; rw [Loc.new_self]; exact heap_alloc_at w _
  · show _ = _; rw [Loc.new_self]; exact heap_alloc_at w _
  · show _ = _; rw [Loc.new_self]; exact heap_alloc_at w _
def Too (E : Env) (L : Loc) (n : Nat) (σ' : Ab) (w w' : World) : Prop := ∃ L', Ext n L L' ∧ Rel E L' σ' w' ∧ Fr E.bs w w'
def Ab.setTx (σ : Ab) (t : Nat) (s : ByteArray) : Ab := { σ with nodes := σ.nodes.set t (.tx s) }
theorem Ab.setTx_el {σ : Ab} {t : Nat} {s old : ByteArray} (ht : σ.nodes[t]? = some (.tx old)) (i : Nat) : (σ.setTx t s).el? i = σ.el? i := by
  by_cases h : t = i
  · subst h
    have hl := (List.getElem?_eq_some_iff.1 ht).1
    have hs : (σ.setTx t s).nodes[t]? = some (.tx s) := by simp [Ab.setTx, hl]
    unfold Ab.el?
    rw [hs, ht]
  · simp [Ab.el?, Ab.setTx, h]
theorem Ab.setTx_isEl {σ : Ab} {t : Nat} {s old : ByteArray} (ht : σ.nodes[t]? = some (.tx old)) (x : Option Nat) : (σ.setTx t s).isEl x = σ.isEl x := by
  cases x with
  | none => rfl
  | some i => show ((σ.setTx t s).el? i).isSome = (σ.el? i).isSome; rw [Ab.setTx_el ht]
theorem Ab.setTx_isElS {σ : Ab} {t : Nat} {s old : ByteArray} (ht : σ.nodes[t]? = some (.tx old)) (x : Option Nat) : (σ.setTx t s).isElS x = σ.isElS x := by
  cases x with
  | none => rfl
  | some i => exact Ab.setTx_isEl ht (some i)
theorem Ab.setTx_isKid {σ : Ab} {t : Nat} {s old : ByteArray} (ht : σ.nodes[t]? = some (.tx old)) (k : Nd) : (σ.setTx t s).isKid k = σ.isKid k := by
  have hl := (List.getElem?_eq_some_iff.1 ht).1
  have hs : (σ.setTx t s).nodes[t]? = some (.tx s) := by simp [Ab.setTx, hl]
  have hn : ∀ j, j ≠ t → (σ.setTx t s).nodes[j]? = σ.nodes[j]? := fun j hj => by simp [Ab.setTx, Ne.symm hj]
  cases k with
  | el j => exact Ab.setTx_isEl ht (some j)
  | tx j => by_cases hj : j = t
            · subst hj; simp only [Ab.isKid, hs, ht]
            · simp only [Ab.isKid, hn j hj]
  | cm j => by_cases hj : j = t
            · subst hj; simp only [Ab.isKid, hs, ht]
            · simp only [Ab.isKid, hn j hj]
  | dt j => by_cases hj : j = t
            · subst hj; simp only [Ab.isKid, hs, ht]
            · simp only [Ab.isKid, hn j hj]
theorem t_putChars_join {E : Env} {L : Loc} {σ : Ab} {w : World} (h : Rel E L σ w) {i m t : Nat} {ei : AEl} {old s : ByteArray} (hi : σ.el? i = some ei) (hm : m < ei.kids.length) (hx : ei.kids[m] = .tx t) (ht : σ.nodes[t]? = some (.tx old)) (hsz : old.size + s.size ≤ 1048576) :
    Calls Tryz.prog 182 #[place (L.at' i) (m + 1), .string s] w fun e w' => e = .returned (.tuple #[]) ∧ To E L (σ.setTx t (old ++ s)) w w' := by
  refine (putChars_join E.bs _ m (L.at' t) _ old s _ _ _ _ w (h.elAt hi) (by simpa using hm) (by simp [hx, Nd.map]) (h.nds t _ ht) hsz).mono ?_
  rintro e w' ⟨rfl, hb, hk⟩
  have htl := (List.getElem?_eq_some_iff.1 ht).1
  have hT := h.nds t _ ht
  have kt : KT E.bs [140, 142, 284] w w' := .of_kept hk (fun x hx _ => by simp at hx; subst hx; exact ⟨⟨_, _, _, hT, by simp⟩, h.bN t (List.getElem?_eq_some_iff.1 ht).1⟩)
  refine ⟨rfl, L, rfl, h.with' (σ' := σ.setTx t (old ++ s)) kt (fun _ _ => rfl) rfl rfl rfl ?_ h.inj ?_ ?_ ?_ ?_ ?_ ?_, kt.fr (by decide)⟩
  · intro x nd hx'
    by_cases hxt : t = x
    · subst hxt
      simp [Ab.setTx, htl] at hx'
      rw [← hx']; exact hb
    · have hx2 : σ.nodes[x]? = some nd := by simpa [Ab.setTx, hxt] using hx'
      have hxl := (List.getElem?_eq_some_iff.1 hx2).1
      refine (h.nds x nd hx2).kept hk ?_ ?_ ?_
      · simp; exact fun e => hxt (h.inj _ _ e.symm)
      · intro g hg hm'
        simp at hm'
        obtain ⟨c, m', h1⟩ := h.kv_typ hxl hg
        rw [hm'] at h1
        exact absurd (typ_ne hT h1) (by decide)
      · intro g hg hm'
        simp at hm'
        obtain ⟨c, m', h1⟩ := h.av_typ hxl hg
        rw [hm'] at h1
        exact absurd (typ_ne hT h1) (by decide)
  · simpa [Ab.setTx] using h.kne
  · intro x hxl hx'
    rw [Ab.setTx_el ht] at hx'
    exact h.kel x (by simpa [Ab.setTx] using hxl) hx'
  · intro a b e g ha hgv hb' hab hg
    rw [Ab.setTx_el ht] at ha
    exact h.uq a b e g ha hgv (by simpa [Ab.setTx] using hb') hab hg
  · intro x hxl hx'
    rw [Ab.setTx_el ht] at hx'
    exact h.ael x (by simpa [Ab.setTx] using hxl) hx'
  · refine ⟨fun x hx => by rw [Ab.setTx_isElS ht]; exact h.wf.opn x hx, fun x hx => by rw [Ab.setTx_isEl ht]; exact h.wf.act x hx, by rw [Ab.setTx_isEl ht]; exact h.wf.head, by rw [Ab.setTx_isEl ht]; exact h.wf.form, fun i e hi => by rw [Ab.setTx_el ht] at hi; rw [Ab.setTx_isEl ht]; exact h.wf.par i e hi, fun i e hi k hk => by rw [Ab.setTx_el ht] at hi; rw [Ab.setTx_isKid ht]; exact h.wf.kids i e hi k hk, by rw [Ab.setTx_el ht]; exact h.wf.doc⟩
  · intro hf x g hxl
    exact h.frs hf x g (by simpa [Ab.setTx] using hxl)
theorem t_putChars_new {E : Env} {L : Loc} {σ : Ab} {w : World} (h : Rel E L σ w) {i n : Nat} {ei : AEl} {s : ByteArray} (hi : σ.el? i = some ei) (hn : n ≤ ei.kids.length) (hl : ei.kids.length < 1048576) (hx : ∀ m, (hm : m < ei.kids.length) → n = m + 1 → ∀ t, ei.kids[m] ≠ .tx t) :
    Calls Tryz.prog 182 #[place (L.at' i) n, .string s] w fun e w' => e = .returned (.tuple #[]) ∧ Too E L σ.nodes.length ((σ.add (.tx s)).setEl i { ei with kids := ins ei.kids n (.tx σ.nodes.length) }) w w' := by
  have hil := Ab.lt_of_el hi
  refine putChars_new E.bs _ n _ s _ _ _ _ w (h.elAt hi) (by simpa using hn) _ ?_ ?_
  · intro w1 hk
    have h1 := (h.kept0 hk).newNd (.tx s) s (.inl rfl)
    have hE : Ext σ.nodes.length L (L.new σ.nodes.length w1.heap.size (.slice none 0 0) (.slice none 0 0)) := fun j hj => Loc.new_lt hj
    have hi1 : (σ.add (.tx s)).el? i = some ei := by rw [Ab.el_add hil]; exact hi
    have hkid : (σ.add (.tx s)).isKid (.tx σ.nodes.length) = true := by simp [Ab.isKid, Ab.add]
    have := t_put_nd h1 (n := n) (k := .tx σ.nodes.length) hi1 hkid (fun j e => by cases e) hn hl
    rw [hE i hil] at this
    simp only [Nd.map, Loc.new_self] at this
    refine this.mono ?_
    rintro e w' ⟨rfl, L2, e2, hR, hf⟩
    exact ⟨rfl, L2, fun j hj => by rw [e2]; exact hE j hj, hR, (Fr.of_kept0 (hk.alloc _)).trans hf⟩
  · intro m hm hnm t ht
    have hm' : m < ei.kids.length := by simpa using hm
    rw [List.getElem_map] at ht
    cases hq : ei.kids[m] with
    | tx t' => exact hx m hm' hnm t' hq
    | el _ => rw [hq] at ht; cases ht
    | cm _ => rw [hq] at ht; cases ht
    | dt _ => rw [hq] at ht; cases ht
end Go.Proofs.YtlhhgenpcjjajaaGreatDoor
namespace Go.Proofs.YtlhhgenpcjjajaaGreatDoor
open Go.RowKit
inductive TK
  | char (s : ByteArray)
  | start (name : ByteArray)
  | stop (name : ByteArray)
  | comment (s : ByteArray)
  | doctype (name : ByteArray) (q : Bool)
  | lost
  | textEnd
structure ATok where
  a : Nat
  b : Nat
  k : TK
  attrs : List (ByteArray × ByteArray) := []
def ATok.name (t : ATok) : ByteArray := match t.k with
  | .start n => n
  | .stop n => n
  | _ => ⟨#[]⟩
def ATok.tagAttrs (t : ATok) : List (ByteArray × ByteArray) := match t.k with
  | .start _ => t.attrs
  | .stop _ => t.attrs
  | _ => []
def ATok.chars (t : ATok) : ByteArray := match t.k with
  | .char s => s
  | _ => ⟨#[]⟩
def isNulS (s : ByteArray) : Bool := eqS s ⟨#[0]⟩
def isBlankS (s : ByteArray) : Bool := hasS [⟨#[32]⟩, ⟨#[9]⟩, ⟨#[10]⟩, ⟨#[12]⟩] s
namespace Ab
def nm (σ : Ab) (i : Nat) : ByteArray := match σ.el? i with
  | some e => e.name
  | none => ⟨#[]⟩
def nmO (σ : Ab) : Option Nat → ByteArray
  | some i => σ.nm i
  | none => ⟨#[]⟩
def last (σ : Ab) : Option Nat := getAt σ.opn ((σ.opn.length : Int) - 1)
def pop (σ : Ab) : Ab := { σ with opn := σ.opn.dropLast }
end Ab
def tableP : ByteArray → Bool := hasS [(⟨#[116, 97, 98, 108, 101]⟩ : ByteArray), (⟨#[116, 98, 111, 100, 121]⟩ : ByteArray), (⟨#[116, 102, 111, 111, 116]⟩ : ByteArray), (⟨#[116, 104, 101, 97, 100]⟩ : ByteArray), (⟨#[116, 114]⟩ : ByteArray)]
def endOf (i : Nat) : M (Nat × Nat) := fun σ => match σ.el? i with
  | some e => .ok (i, e.kids.length) σ
  | none => .stuck
def fosterL (σ : Ab) : List (Option Nat) → Option (Option Nat)
  | [] => none
  | x :: r => if !eqS (σ.nmO x) (⟨#[116, 97, 98, 108, 101]⟩ : ByteArray) || x = getAt σ.opn 0 then fosterL σ r else some x
def Res.isOk {α : Type} : Res α → Bool
  | .ok _ _ => true
  | _ => false
def fosterAt (i : Nat) : M (Nat × Nat) := fun σ => match σ.el? i with
  | some e => match e.par with
    | some p => match σ.el? p with
      | some ep => if 0 ≤ posN ep.kids (Nd.isEl i) then .ok (p, (posN ep.kids (Nd.isEl i)).toNat) σ else .stuck
      | none => .stuck
    | none => match getAt σ.opn (posOf σ.opn (some i) - 1) with
      | some q => endOf q σ
      | none => .stuck
  | none => .stuck
def Ab.tablesOk (σ : Ab) : Bool := σ.opn.all fun x => match x with
  | some i => !eqS (σ.nm i) (⟨#[116, 97, 98, 108, 101]⟩ : ByteArray) || decide (some i = getAt σ.opn 0) || (fosterAt i σ).isOk
  | none => false
def fosterPlace : M (Nat × Nat) := fun σ => if σ.tablesOk then (match fosterL σ σ.opn.reverse with
  | some (some i) => fosterAt i σ
  | some none => .stuck
  | none => match getAt σ.opn 0 with
    | some q => endOf q σ
    | none => .stuck) else .stuck
theorem endOf_same {i : Nat} {σ σ1 : Ab} {pl : Nat × Nat} (h : endOf i σ = .ok pl σ1) : σ1 = σ := by
  unfold endOf at h
  split at h
  · cases h; rfl
  · cases h
theorem fosterAt_same {i : Nat} {σ σ1 : Ab} {pl : Nat × Nat} (h : fosterAt i σ = .ok pl σ1) : σ1 = σ := by
  unfold fosterAt at h
  split at h
  · split at h
    · split at h
      · split at h
        · cases h; rfl
        · cases h
      · cases h
    · split at h
      · exact endOf_same h
      · cases h
  · cases h
theorem fosterPlace_same {σ σ1 : Ab} {pl : Nat × Nat} (h : fosterPlace σ = .ok pl σ1) : σ1 = σ := by
  unfold fosterPlace at h
  split at h
  · split at h
    · exact fosterAt_same h
    · cases h
    · split at h
      · exact endOf_same h
      · cases h
  · cases h
def placeFor (i : Nat) : M (Nat × Nat) := fun σ => if σ.fostering && tableP (σ.nm i) then fosterPlace σ else endOf i σ
def placeM : M (Nat × Nat) := fun σ => match σ.last with
  | some i => placeFor i σ
  | none => .stuck
def putEl (pl : Nat × Nat) (j : Nat) : M Unit := fun σ => match σ.el? pl.1, σ.el? j with
  | some ei, some ej => if j ≠ pl.1 ∧ pl.2 ≤ ei.kids.length ∧ ei.kids.length < 1048576 then .ok () ((σ.setEl pl.1 { ei with kids := ins ei.kids pl.2 (.el j) }).setEl j { ej with par := some pl.1 }) else .stuck
  | _, _ => .stuck
def putChars (pl : Nat × Nat) (s : ByteArray) : M Unit := fun σ => match σ.el? pl.1 with
  | some ei => if pl.2 ≤ ei.kids.length ∧ ei.kids.length < 1048576 then
      match (if pl.2 = 0 then none else ei.kids[pl.2 - 1]?) with
      | some (.tx t) => match σ.nodes[t]? with
        | some (.tx old) => if old.size + s.size ≤ 1048576 then .ok () (σ.setTx t (old ++ s)) else .stuck
        | _ => .stuck
      | _ => .ok () ((σ.add (.tx s)).setEl pl.1 { ei with kids := ins ei.kids pl.2 (.tx σ.nodes.length) })
    else .stuck
  | none => .stuck
def pushM (x : Option Nat) : M Unit := fun σ => if σ.dep ≤ σ.opn.length then .stop 5 σ.at' else if σ.isElS x then .ok () { σ with opn := σ.opn ++ [x] } else .stuck
def insertM (j : Nat) : M Unit := do
  let pl ← placeM
  putEl pl j
  pushM (some j)
  return ()
def newEl (name : ByteArray) : M Nat := fun σ => .ok σ.nodes.length (σ.add (.el { name := name, attrs := [], par := none, kids := [] }))
def ATok.isTag (t : ATok) : Bool := match t.k with
  | .start _ => true
  | .stop _ => true
  | _ => false
def newTagEl (t : ATok) : M Nat := fun σ => if σ.fresh && t.isTag then .ok σ.nodes.length (σ.addF (.el { name := t.name, attrs := t.tagAttrs, par := none, kids := [] }) false) else .stuck
def insertNamed (name : ByteArray) : M Unit := do
  let j ← newEl name
  insertM j
  return ()
def insertTag (t : ATok) : M Unit := do
  let j ← newTagEl t
  insertM j
  return ()
def pop' : M (Option Nat) := fun σ => .ok σ.last σ.pop
def insertChar (t : ATok) : M Unit := do
  let pl ← placeM
  putChars pl t.chars
  return ()
end Go.Proofs.YtlhhgenpcjjajaaGreatDoor
namespace Go.Proofs.YtlhhgenpcjjajaaGreatDoor
open Go.RowKit
theorem Rel.drewN {E : Env} {L : Loc} {σ : Ab} {w : World} (h : Rel E L σ w) (q : Nat) : Rel E L σ (w.drewN q) := h.kept0 ((Kept.refl _ _).drewN q)
theorem Fr.drewN {bs : Nat} (w : World) (q : Nat) : Fr bs w (w.drewN q) := .of_kept0 ((Kept.refl _ _).drewN q)
def StopAt (w : World) (k c p : Nat) : Prop := w.heap[k]? = some (.cells #[.int .i64 (c : Int), .int .i64 (p : Int)] 83 (0, 0))
abbrev stopV (k : Nat) : Ending := .panicked [{ v := .iface 78 (.pointer (some ⟨k, 0, none⟩)), recovered := false }]
def Ends {α : Type} (E : Env) (L : Loc) (n : Nat) (w : World) (m : Res α) (val : Loc → α → Value) (e : Ending) (w' : World) : Prop := match m with
  | .ok a σ' => ∃ L', Ext n L L' ∧ n ≤ σ'.nodes.length ∧ e = .returned (val L' a) ∧ Rel E L' σ' w' ∧ Fr E.bs w w'
  | .stop c p => ∃ k, e = stopV k ∧ StopAt w' k c p ∧ Fr E.bs w w'
  | .stuck => False
theorem Ends.before {α : Type} {E : Env} {L L1 : Loc} {n m : Nat} {w w1 w' : World} {r : Res α} {val : Loc → α → Value} {e : Ending} (h : Ends E L1 m w1 r val e w') (hE : Ext n L L1) (hnm : n ≤ m) (hf : Fr E.bs w w1) : Ends E L n w r val e w' := by
  cases r with
  | ok a σ' => obtain ⟨L', h1, h2, h3, h4, h5⟩ := h; exact ⟨L', hE.trans h1 hnm, Nat.le_trans hnm h2, h3, h4, hf.trans h5⟩
  | stop c p => obtain ⟨k, h1, h2, h3⟩ := h; exact ⟨k, h1, h2, hf.trans h3⟩
  | stuck => exact h
abbrev Bp (E : Env) : Value := .pointer (some ⟨E.bB, 0, none⟩)
set_option maxHeartbeats 1000000 in
theorem stop_ok {E : Env} {L : Loc} {σ : Ab} {w : World} (h : Rel E L σ w) (c : Nat) :
    Calls Tryz.prog 270 #[Bp E, .int .i64 (c : Int)] w fun e w' => ∃ k, e = stopV k ∧ StopAt w' k c σ.at' ∧ Fr E.bs w w' := by
  have c1 := h.c197
  have hlt := h.lt
  have HK := hide (Fr.of_kept0 (bs := E.bs) ((Kept.refl [] w).alloc (.cells #[.int .i64 (c : Int), .int .i64 (σ.at' : Int)] 83 (0, 0))))
  have HG := hide (heap_alloc_at w (.cells #[.int .i64 (c : Int), .int .i64 (σ.at' : Int)] 83 (0, 0)))
  clear h
  go_enter Tryz.func270, Tryz.ntmps270
  go_wp2
  exact ⟨rfl, _, rfl, HG.out, HK.out⟩
end Go.Proofs.YtlhhgenpcjjajaaGreatDoor
namespace Go.Proofs.YtlhhgenpcjjajaaGreatDoor
open Go.RowKit
theorem Rel.opn_some {E : Env} {L : Loc} {σ : Ab} {w : World} (h : Rel E L σ w) {x : Option Nat} (hx : x ∈ σ.opn) : ∃ i e, x = some i ∧ σ.el? i = some e := by
  have := h.wf.opn x hx
  cases x with
  | none => cases this
  | some i =>
    obtain ⟨e, he⟩ := Option.isSome_iff_exists.1 (show (σ.el? i).isSome = true from this)
    exact ⟨i, e, rfl, he⟩
theorem Rel.nameAt {E : Env} {L : Loc} {σ : Ab} {w : World} (h : Rel E L σ w) {i : Nat} {e : AEl} (hi : σ.el? i = some e) : w.cell? ⟨L.at' i, 0, none⟩ = some (.string (σ.nm i)) := by
  have : σ.nm i = e.name := by unfold Ab.nm; rw [hi]
  rw [this, cell_at (h.elAt hi).blk]; rfl
end Go.Proofs.YtlhhgenpcjjajaaGreatDoor
namespace Go.Proofs.YtlhhgenpcjjajaaGreatDoor
open Go.RowKit
theorem is_at (bm : Nat) (ss : List ByteArray) (w : World) (hle : ss.length ≤ 4096) :
    Calls Tryz.prog 225 #[.slice (some ⟨w.heap.size, 0, none⟩) ss.length ss.length] (w.alloc (.cells (ss.map Value.string).toArray 9 (0, 0))) fun e w' => ∃ f a l, e = .returned (.func f a l) ∧ Ask bm (.func f a l) (hasS ss) w' ∧ Kept [] w w' := by
  refine (is_Ask bm w.heap.size ss.length ss _ (heap_alloc_at w _) hle).mono ?_
  rintro e w' ⟨⟨v, rfl, ha⟩, hk⟩
  obtain ⟨k, lb, rfl, _, _⟩ := ha.call
  exact ⟨_, _, _, rfl, ha, (((Kept.refl [] w).alloc _).trans hk)⟩
theorem Ask.k0 {bm : Nat} {v : Value} {p : ByteArray → Bool} {w w' : World} (h : Ask bm v p w) (hk : Kept [] w w') : Ask bm v p w' := h.fr (.of_kept0 hk)
end Go.Proofs.YtlhhgenpcjjajaaGreatDoor
