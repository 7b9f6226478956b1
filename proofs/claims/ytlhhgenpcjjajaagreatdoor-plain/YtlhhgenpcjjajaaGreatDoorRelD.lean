import Derived.Test.YtlhhgenpcjjajaaGreatDoorRelC
set_option linter.unusedSimpArgs false
set_option linter.unusedVariables false
namespace Go.Proofs.YtlhhgenpcjjajaaGreatDoor
open Go.RowKit
def Loc.new (L : Loc) (n k : Nat) (av kv : Value) : Loc := { L with at' := fun i => if i < n then L.at' i else k + (i - n), av := fun i => if i = n then av else L.av i, kv := fun i => if i = n then kv else L.kv i }
theorem Loc.new_lt {L : Loc} {n k : Nat} {av kv : Value} {i : Nat} (h : i < n) : (L.new n k av kv).at' i = L.at' i := if_pos h
theorem Loc.new_self {L : Loc} {n k : Nat} {av kv : Value} : (L.new n k av kv).at' n = k := by show (if n < n then _ else _) = _; rw [if_neg (by omega)]; omega
theorem Loc.new_av {L : Loc} {n k : Nat} {av kv : Value} {i : Nat} (h : i < n) : (L.new n k av kv).av i = L.av i := if_neg (by omega)
theorem Loc.new_kv {L : Loc} {n k : Nat} {av kv : Value} {i : Nat} (h : i < n) : (L.new n k av kv).kv i = L.kv i := if_neg (by omega)
theorem Loc.new_avS {L : Loc} {n k : Nat} {av kv : Value} : (L.new n k av kv).av n = av := if_pos rfl
theorem Loc.new_kvS {L : Loc} {n k : Nat} {av kv : Value} : (L.new n k av kv).kv n = kv := if_pos rfl
def Ext (n : Nat) (L L' : Loc) : Prop := ∀ i, i < n → L'.at' i = L.at' i
theorem Ext.refl (n : Nat) (L : Loc) : Ext n L L := fun _ _ => rfl
theorem Ext.trans {n m : Nat} {A B C : Loc} (h : Ext n A B) (k : Ext m B C) (hnm : n ≤ m) : Ext n A C := fun i hi => (k i (by omega)).trans (h i hi)
theorem Ext.of_eq {n : Nat} {L L' : Loc} (h : L'.at' = L.at') : Ext n L L' := fun _ _ => by rw [h]
theorem Ab.isEl_lt {σ : Ab} {i : Nat} (h : σ.isEl (some i) = true) : i < σ.nodes.length := by
  obtain ⟨e, he⟩ := Option.isSome_iff_exists.1 h
  exact Ab.lt_of_el he
theorem Ab.isKid_lt {σ : Ab} {k : Nd} (h : σ.isKid k = true) : k.blk < σ.nodes.length := by
  by_cases hi : k.blk < σ.nodes.length
  · exact hi
  · exfalso
    have hn : σ.nodes[k.blk]? = none := List.getElem?_eq_none (by omega)
    cases k with
    | el i => simp only [Nd.blk] at hn; simp [Ab.isKid, Ab.el?, hn] at h
    | tx i => simp only [Nd.blk] at hn; simp [Ab.isKid, hn] at h
    | cm i => simp only [Nd.blk] at hn; simp [Ab.isKid, hn] at h
    | dt i => simp only [Nd.blk] at hn; simp [Ab.isKid, hn] at h
theorem Ext.om {σ : Ab} {L L' : Loc} (h : Ext σ.nodes.length L L') {x : Option Nat} (hx : σ.isEl x = true) : omap L'.at' x = omap L.at' x := by
  cases x with
  | none => rfl
  | some i => show some _ = some _; rw [h i (Ab.isEl_lt hx)]
theorem Ext.kid {σ : Ab} {L L' : Loc} (h : Ext σ.nodes.length L L') {k : Nd} (hk : σ.isKid k = true) : Nd.map L'.at' k = Nd.map L.at' k := by
  have := h _ (Ab.isKid_lt hk)
  cases k <;> (simp only [Nd.map, Nd.blk] at this ⊢; rw [this])
theorem Ext.list {σ : Ab} {L L' : Loc} (h : Ext σ.nodes.length L L') {xs : List (Option Nat)} (hx : ∀ x ∈ xs, σ.isEl x = true) : (xs.map fun x => enc (omap L'.at' x)) = xs.map fun x => enc (omap L.at' x) :=
  List.map_congr_left fun x hm => by rw [h.om (hx x hm)]
theorem Ext.kids {σ : Ab} {L L' : Loc} (h : Ext σ.nodes.length L L') {ks : List Nd} (hx : ∀ x ∈ ks, σ.isKid x = true) : ks.map (Nd.map L'.at') = ks.map (Nd.map L.at') :=
  List.map_congr_left fun x hm => h.kid (hx x hm)
theorem Ab.el_add {σ : Ab} {nd : ANd} {i : Nat} (hi : i < σ.nodes.length) : (σ.add nd).el? i = σ.el? i := by
  show (match (σ.nodes ++ [nd])[i]? with | some (.el e) => some e | _ => none) = _
  rw [List.getElem?_append_left hi]; rfl
theorem Ab.el_addS {σ : Ab} {nd : ANd} : (σ.add nd).el? σ.nodes.length = (match nd with | .el e => some e | _ => none) := by
  show (match (σ.nodes ++ [nd])[σ.nodes.length]? with | some (.el e) => some e | _ => none) = _
  simp
  cases nd <;> rfl
theorem Ab.isEl_add {σ : Ab} {nd : ANd} {x : Option Nat} (h : σ.isEl x = true) : (σ.add nd).isEl x = true := by
  cases x with
  | none => rfl
  | some i => show ((σ.add nd).el? i).isSome = true; rw [Ab.el_add (Ab.isEl_lt h)]; exact h
theorem Ab.isElS_add {σ : Ab} {nd : ANd} {x : Option Nat} (h : σ.isElS x = true) : (σ.add nd).isElS x = true := by
  cases x with
  | none => exact h
  | some i => show ((σ.add nd).el? i).isSome = true; rw [Ab.el_add (Ab.isEl_lt h)]; exact h
theorem Ab.isKid_add {σ : Ab} {nd : ANd} {k : Nd} (h : σ.isKid k = true) : (σ.add nd).isKid k = true := by
  have hl := Ab.isKid_lt h
  have e : (σ.nodes ++ [nd])[k.blk]? = σ.nodes[k.blk]? := List.getElem?_append_left hl
  cases k with
  | el i => show ((σ.add nd).el? i).isSome = true; rw [Ab.el_add (i := i) hl]; exact h
  | tx i => simp only [Nd.blk] at e; simp only [Ab.isKid, Ab.add, e] at h ⊢; exact h
  | cm i => simp only [Nd.blk] at e; simp only [Ab.isKid, Ab.add, e] at h ⊢; exact h
  | dt i => simp only [Nd.blk] at e; simp only [Ab.isKid, Ab.add, e] at h ⊢; exact h
theorem Ab.el_new {σ : Ab} {nd : ANd} {i : Nat} {e : AEl} (h : (σ.add nd).el? i = some e) : (i < σ.nodes.length ∧ σ.el? i = some e) ∨ (i = σ.nodes.length ∧ nd = .el e) := by
  have hl := Ab.lt_of_el h
  have hl' : i < σ.nodes.length + 1 := by simpa [Ab.add] using hl
  by_cases hi : i < σ.nodes.length
  · exact .inl ⟨hi, by rw [← Ab.el_add hi]; exact h⟩
  · have e1 : i = σ.nodes.length := by omega
    subst e1
    rw [Ab.el_addS] at h
    refine .inr ⟨rfl, ?_⟩
    cases nd <;> simp_all
theorem NodeAt.ext {bs : Nat} {σ : Ab} {L L' : Loc} {w : World} {i : Nat} {nd : ANd} (h : NodeAt bs L w i nd) (hE : Ext σ.nodes.length L L') (hi : i < σ.nodes.length) (ha : L'.av i = L.av i) (hk : L'.kv i = L.kv i) (hp : ∀ e, nd = .el e → σ.isEl e.par = true ∧ ∀ k ∈ e.kids, σ.isKid k = true) : NodeAt bs L' w i nd := by
  cases nd with
  | el e =>
    obtain ⟨h1, h2⟩ := hp e rfl
    show El bs w (L'.at' i) e.name (L'.av i) (omap L'.at' e.par) (L'.kv i) (e.kids.map (Nd.map L'.at')) ∧ Atr w (L'.av i) e.attrs ∧ e.attrs.length ≤ 4096
    rw [hE i hi, ha, hk, hE.om h1, hE.kids h2]
    exact h
  | tx s => show w.heap[L'.at' i]? = _; rw [hE i hi]; exact h
  | cm s => show w.heap[L'.at' i]? = _; rw [hE i hi]; exact h
  | dt s => show w.heap[L'.at' i]? = _; rw [hE i hi]; exact h
theorem Rel.at_lt {E : Env} {L : Loc} {σ : Ab} {w : World} (h : Rel E L σ w) {i : Nat} (hi : i < σ.nodes.length) : L.at' i < w.heap.size := by
  obtain ⟨c, hc⟩ := (h.nds i σ.nodes[i] (List.getElem?_eq_getElem hi)).typ
  exact lt_of_block hc
theorem Rel.wfn {E : Env} {L : Loc} {σ : Ab} {w : World} (h : Rel E L σ w) {i : Nat} {nd : ANd} (hi : σ.nodes[i]? = some nd) : ∀ e, nd = .el e → σ.isEl e.par = true ∧ ∀ k ∈ e.kids, σ.isKid k = true := by
  rintro e rfl
  have he := Ab.el_of_node hi
  exact ⟨h.wf.par i e he, h.wf.kids i e he⟩
theorem BCells.ext {E : Env} {L L' : Loc} {σ σ' : Ab} {C : Array Value} (h : BCells E L σ C) (hE : Ext σ.nodes.length L L') (hwf : Wf σ) (e1 : L'.ov = L.ov) (e2 : L'.cv = L.cv) (e3 : L'.wv = L.wv) (s1 : σ'.head = σ.head) (s2 : σ'.form = σ.form) (s3 : σ'.mode = σ.mode) (s4 : σ'.kept = σ.kept) (s5 : σ'.fostering = σ.fostering) (s6 : σ'.quirks = σ.quirks) (s7 : σ'.at' = σ.at') (s8 : σ'.behind = σ.behind) : BCells E L' σ' C :=
  ⟨h.size, h.low, by rw [e1]; exact h.opn, by rw [e2]; exact h.act, by rw [s1, hE.om hwf.head]; exact h.head, by rw [s2, hE.om hwf.form]; exact h.form, by rw [s3]; exact h.mode, by rw [s4]; exact h.kept, by rw [e3]; exact h.wait, by rw [s5]; exact h.fost, by rw [s6]; exact h.quirks, by rw [s7]; exact h.at', by rw [s8]; exact h.behind⟩
theorem Rel.add {E : Env} {L : Loc} {σ : Ab} {w w' : World} (h : Rel E L σ w) (nd : ANd) (k : Nat) (av kv : Value) (fr : Bool) (hk : Kept [] w w') (hsz : w.heap.size ≤ k)
    (hnd : NodeAt E.bs (L.new σ.nodes.length k av kv) w' σ.nodes.length nd) (hkv : kv.ownBlock = none) (hnew : ∀ e, nd = .el e → e.par = none ∧ e.kids = [])
    (hav1 : ∀ i e g, σ.el? i = some e → givable e.name = true → av.ownBlock = some g → (L.av i).ownBlock ≠ some g)
    (hav2 : ∀ e g j, nd = .el e → givable e.name = true → j < σ.nodes.length → av.ownBlock = some g → (L.av j).ownBlock ≠ some g)
    (hael : (∀ e, nd ≠ .el e) → av.ownBlock = none)
    (hfr : fr = true → σ.fresh = true ∧ ∀ g, E.tv.ownBlock = some g → av.ownBlock ≠ some g) :
    Rel E (L.new σ.nodes.length k av kv) (σ.addF nd fr) w' := by
  have h1 := h.kept0 hk
  have hE : Ext σ.nodes.length L (L.new σ.nodes.length k av kv) := fun i hi => Loc.new_lt hi
  have hdoc := Ab.isEl_lt (σ := σ) (i := 0) h.wf.doc
  have hlen : (σ.addF nd fr).nodes.length = σ.nodes.length + 1 := by simp [Ab.addF]
  have hel : ∀ i, (σ.addF nd fr).el? i = (σ.add nd).el? i := fun i => rfl
  obtain ⟨C, hb, hC⟩ := h1.blk
  refine ⟨h1.fr, by rw [Loc.new_lt hdoc]; exact h1.env, h1.lim, ?_, ?_, ?_, ?_, ?_, ?_, ?_, ⟨C, hb, hC.ext hE h.wf rfl rfl rfl rfl rfl rfl rfl rfl rfl rfl rfl⟩, ?_, ?_, h1.ocn, h1.ole, h1.cle, h1.wrow, h1.wle, h1.rd, h1.rsz, h1.tok, h1.tle, h1.bz, h1.bB, h1.bR, ?_, ?_⟩
  · intro i nd' hi
    have hi' : (σ.nodes ++ [nd])[i]? = some nd' := hi
    by_cases hl : i < σ.nodes.length
    · rw [List.getElem?_append_left hl] at hi'
      exact (h1.nds i nd' hi').ext hE hl (Loc.new_av hl) (Loc.new_kv hl) (h.wfn hi')
    · have hlt : i < σ.nodes.length + 1 := by
        have := (List.getElem?_eq_some_iff.1 hi').1; simpa using this
      have e1 : i = σ.nodes.length := by omega
      subst e1
      simp at hi'
      rw [← hi']; exact hnd
  · intro i j hij
    have hlt : ∀ i, i < σ.nodes.length → L.at' i < k := fun i hi => Nat.lt_of_lt_of_le (h.at_lt hi) hsz
    have hij' : (if i < σ.nodes.length then L.at' i else k + (i - σ.nodes.length)) = (if j < σ.nodes.length then L.at' j else k + (j - σ.nodes.length)) := hij
    by_cases hi : i < σ.nodes.length
    · by_cases hj : j < σ.nodes.length
      · rw [if_pos hi, if_pos hj] at hij'; exact h.inj i j hij'
      · rw [if_pos hi, if_neg hj] at hij'; have := hlt i hi; omega
    · by_cases hj : j < σ.nodes.length
      · rw [if_neg hi, if_pos hj] at hij'; have := hlt j hj; omega
      · rw [if_neg hi, if_neg hj] at hij'; omega
  · intro i j g hi hj hij hg
    rw [hlen] at hi hj
    by_cases hi' : i < σ.nodes.length
    · rw [Loc.new_kv hi'] at hg
      by_cases hj' : j < σ.nodes.length
      · rw [Loc.new_kv hj']; exact h.kne i j g hi' hj' hij hg
      · have e1 : j = σ.nodes.length := by omega
        subst e1; rw [Loc.new_kvS, hkv]; simp
    · have e1 : i = σ.nodes.length := by omega
      subst e1; rw [Loc.new_kvS, hkv] at hg; cases hg
  · intro i hi he
    rw [hlen] at hi
    by_cases hi' : i < σ.nodes.length
    · rw [Loc.new_kv hi']; exact h.kel i hi' (by rw [← Ab.el_add hi']; exact he)
    · have e1 : i = σ.nodes.length := by omega
      subst e1; rw [Loc.new_kvS]; exact hkv
  · intro i j e g hi hgv hj hij hg
    rw [hlen] at hj
    rcases Ab.el_new (nd := nd) hi with ⟨hi', he⟩ | ⟨rfl, rfl⟩
    · rw [Loc.new_av hi'] at hg
      by_cases hj' : j < σ.nodes.length
      · rw [Loc.new_av hj']; exact h.uq i j e g he hgv hj' hij hg
      · have e1 : j = σ.nodes.length := by omega
        subst e1; rw [Loc.new_avS]
        exact fun hh => hav1 i e g he hgv hh hg
    · rw [Loc.new_avS] at hg
      have hj' : j < σ.nodes.length := by omega
      rw [Loc.new_av hj']
      exact hav2 e g j rfl hgv hj' hg
  · intro i hi he
    rw [hlen] at hi
    by_cases hi' : i < σ.nodes.length
    · rw [Loc.new_av hi']; exact h.ael i hi' (by rw [← Ab.el_add hi']; exact he)
    · have e1 : i = σ.nodes.length := by omega
      subst e1
      rw [Loc.new_avS]
      refine hael fun e hnd' => ?_
      rw [hel, Ab.el_addS, hnd'] at he
      cases he
  · refine ⟨fun x hx => Ab.isElS_add (h.wf.opn x hx), fun x hx => Ab.isEl_add (h.wf.act x hx), Ab.isEl_add h.wf.head, Ab.isEl_add h.wf.form, ?_, ?_, ?_⟩
    · intro i e hi
      rcases Ab.el_new (nd := nd) hi with ⟨hi', he⟩ | ⟨rfl, hn⟩
      · exact Ab.isEl_add (h.wf.par i e he)
      · rw [(hnew e hn).1]; rfl
    · intro i e hi x hx
      rcases Ab.el_new (nd := nd) hi with ⟨hi', he⟩ | ⟨rfl, hn⟩
      · exact Ab.isKid_add (h.wf.kids i e he x hx)
      · rw [(hnew e hn).2] at hx; cases hx
    · rw [hel, Ab.el_add hdoc]; exact h.wf.doc
  · show w'.ownsRow E.bs _ 1 L.ov σ.opn.length (σ.opn.map fun x => enc (omap (L.new σ.nodes.length k av kv).at' x))
    rw [hE.list fun x hx => Ab.isEl_of (h.wf.opn x hx)]; exact h1.orow
  · show w'.ownsRow E.bs _ 1 L.cv σ.act.length (σ.act.map fun x => enc (omap (L.new σ.nodes.length k av kv).at' x))
    rw [hE.list h.wf.act]; exact h1.crow
  · intro i hi
    rw [hlen] at hi
    by_cases hi' : i < σ.nodes.length
    · rw [Loc.new_lt hi']; exact h.bN i hi'
    · have e1 : i = σ.nodes.length := by omega
      subst e1; rw [Loc.new_self]; exact Nat.le_trans h.bw hsz
  · intro hf i g hi hg
    rw [hlen] at hi
    obtain ⟨f1, f2⟩ := hfr hf
    by_cases hi' : i < σ.nodes.length
    · rw [Loc.new_av hi']; exact h.frs f1 i g hi' hg
    · have e1 : i = σ.nodes.length := by omega
      subst e1; rw [Loc.new_avS]; exact f2 g hg
end Go.Proofs.YtlhhgenpcjjajaaGreatDoor
namespace Go.Proofs.YtlhhgenpcjjajaaGreatDoor
open Go.RowKit
theorem Rel.with' {E : Env} {L L' : Loc} {σ σ' : Ab} {w w' : World} (h : Rel E L σ w) (kt : KT E.bs [140, 142, 284] w w') (hE : Ext σ.nodes.length L L') (e1 : L'.ov = L.ov) (e2 : L'.cv = L.cv) (e3 : L'.wv = L.wv)
    (nds : ∀ i nd, σ'.nodes[i]? = some nd → NodeAt E.bs L' w' i nd) (inj : ∀ i j, L'.at' i = L'.at' j → i = j)
    (kne : ∀ i j g, i < σ'.nodes.length → j < σ'.nodes.length → i ≠ j → (L'.kv i).ownBlock = some g → (L'.kv j).ownBlock ≠ some g)
    (kel : ∀ i, i < σ'.nodes.length → σ'.el? i = none → (L'.kv i).ownBlock = none)
    (uq : ∀ i j e g, σ'.el? i = some e → givable e.name = true → j < σ'.nodes.length → i ≠ j → (L'.av i).ownBlock = some g → (L'.av j).ownBlock ≠ some g)
    (ael : ∀ i, i < σ'.nodes.length → σ'.el? i = none → (L'.av i).ownBlock = none)
    (wf : Wf σ') (frs : σ'.fresh = true → ∀ i g, i < σ'.nodes.length → E.tv.ownBlock = some g → (L'.av i).ownBlock ≠ some g)
    (sl : σ'.nodes.length ≤ σ.nodes.length := by first | exact Nat.le_refl _ | simp [Ab.setEl, Ab.setTx])
    (s0 : σ'.opn = σ.opn := by rfl) (s9 : σ'.act = σ.act := by rfl) (s1 : σ'.head = σ.head := by rfl) (s2 : σ'.form = σ.form := by rfl) (s3 : σ'.mode = σ.mode := by rfl) (s4 : σ'.kept = σ.kept := by rfl) (s5 : σ'.fostering = σ.fostering := by rfl) (s6 : σ'.quirks = σ.quirks := by rfl) (s7 : σ'.at' = σ.at' := by rfl) (s8 : σ'.behind = σ.behind := by rfl) (sw : σ'.waiting = σ.waiting := by rfl) (so : σ'.ofT = σ.ofT := by rfl) (sp : σ'.plainT = σ.plainT := by rfl) (d1 : σ'.dep = σ.dep := by rfl) (d2 : σ'.frm = σ.frm := by rfl) (d3 : σ'.atl = σ.atl := by rfl) : Rel E L' σ' w' := by
  obtain ⟨C, hb, hC⟩ := h.blk
  have hdoc := Ab.isEl_lt (σ := σ) (i := 0) h.wf.doc
  exact {
    fr := h.fr.trans (kt.fr (by decide))
    env := by rw [hE 0 hdoc]; exact h.env
    lim := by rw [d1, d2, d3]; exact h.lim
    nds := nds, inj := inj, kne := kne, kel := kel, uq := uq, ael := ael, wf := wf
    blk := ⟨C, kt.at hb (by decide), hC.ext hE h.wf e1 e2 e3 s1 s2 s3 s4 s5 s6 s7 s8⟩
    orow := by rw [s0, e1, hE.list fun x hx => Ab.isEl_of (h.wf.opn x hx)]; exact kt.row h.orow (by decide)
    crow := by rw [s9, e2, hE.list h.wf.act]; exact kt.row h.crow (by decide)
    ocn := by rw [e1, e2]; exact h.ocn
    ole := by rw [s0]; exact h.ole
    cle := by rw [s9]; exact h.cle
    wrow := by rw [sw, e3]; exact kt.row h.wrow (by decide)
    wle := by rw [sw]; exact h.wle
    rd := by rw [so, sp]; exact kt.at h.rd (by decide)
    rsz := h.rsz
    tok := kt.row h.tok (by decide)
    tle := h.tle
    bz := h.bz
    bB := h.bB
    bR := h.bR
    bN := fun i hi => by rw [hE i (Nat.lt_of_lt_of_le hi sl)]; exact h.bN i (Nat.lt_of_lt_of_le hi sl)
    frs := frs }
theorem Rel.kv_typ {E : Env} {L : Loc} {σ : Ab} {w : World} (h : Rel E L σ w) {j g : Nat} (hj : j < σ.nodes.length) (hg : (L.kv j).ownBlock = some g) : ∃ c m, w.heap[g]? = some (.cells c 142 m) := by
  cases he : σ.el? j with
  | none => rw [h.kel j hj he] at hg; cases hg
  | some e => exact row_typ (h.nds j _ (Ab.node_of_el he)).1.row hg
theorem Rel.av_typ {E : Env} {L : Loc} {σ : Ab} {w : World} (h : Rel E L σ w) {j g : Nat} (hj : j < σ.nodes.length) (hg : (L.av j).ownBlock = some g) : ∃ c m, w.heap[g]? = some (.cells c 299 m) := by
  cases he : σ.el? j with
  | none => rw [h.ael j hj he] at hg; cases hg
  | some e => exact row_typ (h.nds j _ (Ab.node_of_el he)).2.1 hg
theorem Rel.at_typ {E : Env} {L : Loc} {σ : Ab} {w : World} (h : Rel E L σ w) {j : Nat} (hj : j < σ.nodes.length) : ∃ c t, w.heap[L.at' j]? = some (.cells c t (0, 0)) ∧ t ≠ 142 ∧ t ≠ 299 := by
  obtain ⟨c, hc⟩ := (h.nds j σ.nodes[j] (List.getElem?_eq_getElem hj)).typ
  refine ⟨c, _, hc, ?_⟩
  cases σ.nodes[j] <;> (constructor <;> simp [ANd.typ])
theorem typ_ne {w : World} {a : Nat} {c c' : Array Value} {t t' : TypeId} {m m' : Nat × Nat} (h : w.heap[a]? = some (.cells c t m)) (h' : w.heap[a]? = some (.cells c' t' m')) : t = t' := by
  rw [h] at h'; simp at h'; exact h'.2.1
theorem Rel.others {E : Env} {L : Loc} {σ : Ab} {w w' : World} (h : Rel E L σ w) (J : List Nat) (hJ : ∀ j ∈ J, j < σ.nodes.length) {S : List Nat} (hS : ∀ s ∈ S, ∃ j ∈ J, s = L.at' j ∨ (L.kv j).ownBlock = some s) (hk : Kept S w w') {i : Nat} {nd : ANd} (hi : σ.nodes[i]? = some nd) (hiJ : i ∉ J) : NodeAt E.bs L w' i nd := by
  have hil : i < σ.nodes.length := (List.getElem?_eq_some_iff.1 hi).1
  refine (h.nds i nd hi).kept hk ?_ ?_ ?_
  · intro hm
    obtain ⟨j, hj, e | e⟩ := hS _ hm
    · exact hiJ (by rw [h.inj i j e]; exact hj)
    · obtain ⟨c, m, h1⟩ := h.kv_typ (hJ j hj) e
      obtain ⟨c', t, h2, h3, _⟩ := h.at_typ hil
      exact h3 (typ_ne h2 h1)
  · intro g hg hm
    obtain ⟨j, hj, e | e⟩ := hS _ hm
    · obtain ⟨c, m, h1⟩ := h.kv_typ hil hg
      obtain ⟨c', t, h2, h3, _⟩ := h.at_typ (hJ j hj)
      rw [e] at h1
      exact h3 (typ_ne h2 h1)
    · exact h.kne i j g hil (hJ j hj) (fun e' => hiJ (by rw [e']; exact hj)) hg e
  · intro g hg hm
    obtain ⟨c, m, h1⟩ := h.av_typ hil hg
    obtain ⟨j, hj, e | e⟩ := hS _ hm
    · obtain ⟨c', t, h2, _, h3⟩ := h.at_typ (hJ j hj)
      rw [e] at h1
      exact h3 (typ_ne h2 h1)
    · obtain ⟨c', m', h2⟩ := h.kv_typ (hJ j hj) e
      have := typ_ne h1 h2
      revert this; decide
theorem Rel.ktJ {E : Env} {L : Loc} {σ : Ab} {w w' : World} (h : Rel E L σ w) (J : List Nat) (hJ : ∀ j ∈ J, (σ.el? j).isSome = true) {S : List Nat} (hS : ∀ s ∈ S, ∃ j ∈ J, s = L.at' j ∨ (L.kv j).ownBlock = some s) (hk : Kept S w w') : KT E.bs [140, 142, 284] w w' := by
  refine .of_kept hk fun s hs _ => ?_
  obtain ⟨j, hj, e | e⟩ := hS s hs
  · obtain ⟨e', he⟩ := Option.isSome_iff_exists.1 (hJ j hj)
    rw [e]
    exact ⟨⟨_, _, _, (h.nds j _ (Ab.node_of_el he)).1.blk, by simp⟩, h.bN j (Ab.lt_of_el he)⟩
  · obtain ⟨e', he⟩ := Option.isSome_iff_exists.1 (hJ j hj)
    obtain ⟨c, m, h1⟩ := h.kv_typ (Ab.lt_of_el he) e
    exact ⟨⟨_, _, _, h1, by simp⟩, ((h.nds j _ (Ab.node_of_el he)).1.row.lt _ e).1⟩
theorem Ab.setEl_len (σ : Ab) (i : Nat) (e : AEl) : (σ.setEl i e).nodes.length = σ.nodes.length := by simp [Ab.setEl]
theorem Ab.el_setS {σ : Ab} {i : Nat} {e : AEl} (hi : i < σ.nodes.length) : (σ.setEl i e).el? i = some e := by
  simp [Ab.el?, Ab.setEl, hi]
theorem Ab.el_set {σ : Ab} {i j : Nat} {e : AEl} (hij : j ≠ i) : (σ.setEl i e).el? j = σ.el? j := by
  simp [Ab.el?, Ab.setEl, Ne.symm hij]
theorem Ab.node_set {σ : Ab} {i j : Nat} {e : AEl} {nd : ANd} (h : (σ.setEl i e).nodes[j]? = some nd) : (j = i ∧ nd = .el e) ∨ (j ≠ i ∧ σ.nodes[j]? = some nd) := by
  by_cases hij : i = j
  · subst hij
    have hl : i < σ.nodes.length := by have := (List.getElem?_eq_some_iff.1 h).1; simpa [Ab.setEl] using this
    simp [Ab.setEl, hl] at h
    exact .inl ⟨rfl, h.symm⟩
  · simp [Ab.setEl, hij] at h
    exact .inr ⟨Ne.symm hij, by simp [h]⟩
theorem Ab.isEl_set {σ : Ab} {i : Nat} {e : AEl} (hi : (σ.el? i).isSome = true) (x : Option Nat) : (σ.setEl i e).isEl x = σ.isEl x := by
  cases x with
  | none => rfl
  | some j =>
    show ((σ.setEl i e).el? j).isSome = (σ.el? j).isSome
    by_cases hj : j = i
    · subst hj
      rw [Ab.el_setS (Ab.isEl_lt (σ := σ) (i := j) hi), hi]; rfl
    · rw [Ab.el_set hj]
theorem Ab.isElS_set {σ : Ab} {i : Nat} {e : AEl} (hi : (σ.el? i).isSome = true) (x : Option Nat) : (σ.setEl i e).isElS x = σ.isElS x := by
  cases x with
  | none => rfl
  | some j => exact Ab.isEl_set hi (some j)
theorem Ab.isKid_set {σ : Ab} {i : Nat} {e : AEl} (hi : (σ.el? i).isSome = true) (k : Nd) : (σ.setEl i e).isKid k = σ.isKid k := by
  have hno : ∀ j, j ≠ i → (σ.setEl i e).nodes[j]? = σ.nodes[j]? := fun j hj => by simp [Ab.setEl, Ne.symm hj]
  obtain ⟨e0, he0⟩ := Option.isSome_iff_exists.1 hi
  have h0 := Ab.node_of_el he0
  have h1 : (σ.setEl i e).nodes[i]? = some (.el e) := by simp [Ab.setEl, Ab.lt_of_el he0]
  cases k with
  | el j => exact Ab.isEl_set hi (some j)
  | tx j => by_cases hj : j = i
            · subst hj; simp only [Ab.isKid, h0, h1]
            · simp only [Ab.isKid, hno j hj]
  | cm j => by_cases hj : j = i
            · subst hj; simp only [Ab.isKid, h0, h1]
            · simp only [Ab.isKid, hno j hj]
  | dt j => by_cases hj : j = i
            · subst hj; simp only [Ab.isKid, h0, h1]
            · simp only [Ab.isKid, hno j hj]
theorem Wf.setEl {σ : Ab} (h : Wf σ) {i : Nat} {e : AEl} (hi : (σ.el? i).isSome = true) (hp : σ.isEl e.par = true) (hk : ∀ k ∈ e.kids, σ.isKid k = true) : Wf (σ.setEl i e) := by
  refine ⟨fun x hx => by rw [Ab.isElS_set hi]; exact h.opn x hx, fun x hx => by rw [Ab.isEl_set hi]; exact h.act x hx, by rw [Ab.isEl_set hi]; exact h.head, by rw [Ab.isEl_set hi]; exact h.form, ?_, ?_, ?_⟩
  · intro j e' hj
    rw [Ab.isEl_set hi]
    by_cases hji : j = i
    · subst hji; rw [Ab.el_setS (Ab.isEl_lt (σ := σ) (i := j) hi)] at hj; cases hj; exact hp
    · rw [Ab.el_set hji] at hj; exact h.par j e' hj
  · intro j e' hj k hkk
    rw [Ab.isKid_set hi]
    by_cases hji : j = i
    · subst hji; rw [Ab.el_setS (Ab.isEl_lt (σ := σ) (i := j) hi)] at hj; cases hj; exact hk k hkk
    · rw [Ab.el_set hji] at hj; exact h.kids j e' hj k hkk
  · have := Ab.isEl_set (e := e) hi (some 0)
    exact this.trans h.doc
theorem Rel.setK {E : Env} {L : Loc} {σ σ' : Ab} {w w' : World} (h : Rel E L σ w) (i : Nat) (kv' : Value) (hi : (σ.el? i).isSome = true) (kt : KT E.bs [140, 142, 284] w w') (hsz : kv'.ownBlock = (L.kv i).ownBlock ∨ ∀ g, kv'.ownBlock = some g → w.heap.size ≤ g)
    (hlen : σ'.nodes.length = σ.nodes.length) (hnm : ∀ j e', σ'.el? j = some e' → ∃ e, σ.el? j = some e ∧ e'.name = e.name) (hno : ∀ j, σ'.el? j = none → σ.el? j = none)
    (nds : ∀ j nd, σ'.nodes[j]? = some nd → NodeAt E.bs { L with kv := fun x => if x = i then kv' else L.kv x } w' j nd) (wf : Wf σ')
    (s0 : σ'.opn = σ.opn := by rfl) (s9 : σ'.act = σ.act := by rfl) (s1 : σ'.head = σ.head := by rfl) (s2 : σ'.form = σ.form := by rfl) (s3 : σ'.mode = σ.mode := by rfl) (s4 : σ'.kept = σ.kept := by rfl) (s5 : σ'.fostering = σ.fostering := by rfl) (s6 : σ'.quirks = σ.quirks := by rfl) (s7 : σ'.at' = σ.at' := by rfl) (s8 : σ'.behind = σ.behind := by rfl) (sw : σ'.waiting = σ.waiting := by rfl) (so : σ'.ofT = σ.ofT := by rfl) (sp : σ'.plainT = σ.plainT := by rfl) (sf : σ'.fresh = σ.fresh := by rfl) (d1 : σ'.dep = σ.dep := by rfl) (d2 : σ'.frm = σ.frm := by rfl) (d3 : σ'.atl = σ.atl := by rfl) : To E L σ' w w' := by
  have hil := Ab.isEl_lt (σ := σ) (i := i) hi
  have hnew : ∀ j g, j < σ.nodes.length → j ≠ i → kv'.ownBlock = some g → (L.kv j).ownBlock ≠ some g := by
    intro j g hj hji hg hg2
    rcases hsz with e | e
    · rw [e] at hg; exact h.kne i j g hil hj (Ne.symm hji) hg hg2
    · obtain ⟨c, m, hc⟩ := h.kv_typ hj hg2
      have := e g hg
      have := lt_of_block hc
      omega
  refine ⟨{ L with kv := fun x => if x = i then kv' else L.kv x }, rfl, h.with' (L' := { L with kv := fun x => if x = i then kv' else L.kv x }) kt (fun _ _ => rfl) rfl rfl rfl nds h.inj ?_ ?_ ?_ ?_ wf ?_ (Nat.le_of_eq hlen) s0 s9 s1 s2 s3 s4 s5 s6 s7 s8 sw so sp d1 d2 d3, kt.fr (by decide)⟩
  · intro a b g ha hb hab hg
    rw [hlen] at ha hb
    by_cases h1 : a = i
    · subst h1
      have h2 : b ≠ a := Ne.symm hab
      simp only [if_true] at hg
      simp only [if_neg h2]
      exact hnew b g hb h2 hg
    · simp only [if_neg h1] at hg
      by_cases h2 : b = i
      · subst h2
        simp only [if_true]
        exact fun hh => hnew a g ha h1 hh hg
      · simp only [if_neg h2]; exact h.kne a b g ha hb hab hg
  · intro j hj hn
    rw [hlen] at hj
    have hn' := hno j hn
    have hji : j ≠ i := by rintro rfl; rw [hn'] at hi; cases hi
    simp only [if_neg hji]
    exact h.kel j hj hn'
  · intro a b e g ha hgv hb hab hg
    rw [hlen] at hb
    obtain ⟨e0, h0, hnm'⟩ := hnm a e ha
    exact h.uq a b e0 g h0 (by rw [← hnm']; exact hgv) hb hab hg
  · intro j hj hn
    rw [hlen] at hj
    exact h.ael j hj (hno j hn)
  · rw [hlen, sf]; exact h.frs
end Go.Proofs.YtlhhgenpcjjajaaGreatDoor
namespace Go.Proofs.YtlhhgenpcjjajaaGreatDoor
open Go.RowKit
theorem Rel.elAt {E : Env} {L : Loc} {σ : Ab} {w : World} (h : Rel E L σ w) {i : Nat} {e : AEl} (hi : σ.el? i = some e) : El E.bs w (L.at' i) e.name (L.av i) (omap L.at' e.par) (L.kv i) (e.kids.map (Nd.map L.at')) := (h.nds i _ (Ab.node_of_el hi)).1
theorem Rel.atrAt {E : Env} {L : Loc} {σ : Ab} {w : World} (h : Rel E L σ w) {i : Nat} {e : AEl} (hi : σ.el? i = some e) : Atr w (L.av i) e.attrs := (h.nds i _ (Ab.node_of_el hi)).2.1
theorem Rel.ale {E : Env} {L : Loc} {σ : Ab} {w : World} (h : Rel E L σ w) {i : Nat} {e : AEl} (hi : σ.el? i = some e) : e.attrs.length ≤ 4096 := (h.nds i _ (Ab.node_of_el hi)).2.2
theorem Rel.isNd {E : Env} {L : Loc} {σ : Ab} {w : World} (h : Rel E L σ w) {k : Nd} (hk : σ.isKid k = true) : IsNd w (Nd.map L.at' k) := by
  cases k with
  | el i =>
    obtain ⟨e, he⟩ := Option.isSome_iff_exists.1 (show (σ.el? i).isSome = true from hk)
    exact ⟨_, (h.elAt he).blk⟩
  | tx i =>
    simp only [Ab.isKid] at hk
    split at hk
    · rename_i s hs; exact ⟨_, h.nds i _ hs⟩
    · cases hk
  | cm i =>
    simp only [Ab.isKid] at hk
    split at hk
    · rename_i s hs; exact ⟨_, h.nds i _ hs⟩
    · cases hk
  | dt i =>
    simp only [Ab.isKid] at hk
    split at hk
    · rename_i s hs; exact ⟨_, h.nds i _ hs⟩
    · cases hk
theorem isEl_map {f : Nat → Nat} (hf : ∀ i j, f i = f j → i = j) (j : Nat) (k : Nd) : (Nd.map f k).isEl (f j) = k.isEl j := by
  cases k with
  | el i =>
    simp only [Nd.map, Nd.isEl]
    by_cases h : i = j
    · subst h; simp
    · have : f i ≠ f j := fun e => h (hf _ _ e)
      rw [beq_eq_false_iff_ne.2 this, beq_eq_false_iff_ne.2 h]
  | tx i => rfl
  | cm i => rfl
  | dt i => rfl
theorem posN_map {f : Nat → Nat} (hf : ∀ i j, f i = f j → i = j) (ks : List Nd) (j : Nat) : posN (ks.map (Nd.map f)) (Nd.isEl (f j)) = posN ks (Nd.isEl j) := by
  have : (ks.map (Nd.map f)).findIdx (Nd.isEl (f j)) = ks.findIdx (Nd.isEl j) := by
    rw [List.findIdx_map]
    congr 1
    funext k
    exact isEl_map hf j k
  unfold posN
  rw [this, List.length_map]
theorem t_end {E : Env} {L : Loc} {σ : Ab} {w : World} (h : Rel E L σ w) {i : Nat} {e : AEl} (hi : σ.el? i = some e) :
    Calls Tryz.prog 99 #[.pointer (some ⟨L.at' i, 0, none⟩)] w fun e' w' => e' = .returned (place (L.at' i) e.kids.length) ∧ Rel E L σ w' ∧ Kept [] w w' := by
  refine (end_ok E.bs _ _ _ _ _ _ w (h.elAt hi)).mono ?_
  rintro e' w' ⟨rfl, hk⟩
  exact ⟨by rw [List.length_map], h.kept0 hk, hk⟩
theorem t_front_no {E : Env} {L : Loc} {σ : Ab} {w : World} (h : Rel E L σ w) {i : Nat} {e : AEl} (hi : σ.el? i = some e) (hp : e.par = none) :
    Calls Tryz.prog 321 #[.pointer (some ⟨L.at' i, 0, none⟩)] w fun e' w' => e' = .returned (.tuple #[.agg #[.pointer none, .int .i64 0], .bool false]) ∧ Rel E L σ w' ∧ Kept [] w w' := by
  have hE := h.elAt hi
  rw [hp] at hE
  refine (front_no E.bs _ _ _ _ _ w hE).mono ?_
  rintro e' w' ⟨rfl, hk⟩
  exact ⟨rfl, h.kept0 hk, hk⟩
theorem t_front_yes {E : Env} {L : Loc} {σ : Ab} {w : World} (h : Rel E L σ w) {i p : Nat} {e ep : AEl} (hi : σ.el? i = some e) (hp : e.par = some p) (hep : σ.el? p = some ep) :
    Calls Tryz.prog 321 #[.pointer (some ⟨L.at' i, 0, none⟩)] w fun e' w' => e' = .returned (.tuple #[.agg #[.pointer (some ⟨L.at' p, 0, none⟩), .int .i64 (posN ep.kids (Nd.isEl i))], .bool true]) ∧ Rel E L σ w' ∧ Kept [] w w' := by
  have hE := h.elAt hi
  rw [hp] at hE
  refine (front_yes E.bs _ _ _ _ _ _ _ _ _ _ _ w hE (h.elAt hep) ?_).mono ?_
  · intro x hx
    obtain ⟨k, hk, rfl⟩ := List.mem_map.1 hx
    exact h.isNd (h.wf.kids p ep hep k hk)
  rintro e' w' ⟨rfl, hk⟩
  exact ⟨by rw [posN_map h.inj], h.kept0 hk, hk⟩
theorem t_another {E : Env} {L : Loc} {σ : Ab} {w : World} (h : Rel E L σ w) {i : Nat} {e : AEl} (hi : σ.el? i = some e) (hg : givable e.name = false) :
    Calls Tryz.prog 275 #[.pointer (some ⟨L.at' i, 0, none⟩)] w fun e' w' => ∃ L', Ext σ.nodes.length L L' ∧ e' = .returned (.pointer (some ⟨L'.at' σ.nodes.length, 0, none⟩)) ∧ Rel E L' (σ.add (.el { name := e.name, attrs := e.attrs, par := none, kids := [] })) w' ∧ Fr E.bs w w' := by
  have aI := h.atrAt hi
  have lI := h.ale hi
  refine (another_ok E.bs _ _ _ _ _ _ w (h.elAt hi)).mono ?_
  rintro e' w' ⟨rfl, hE, hk⟩
  have hil := Ab.lt_of_el hi
  refine ⟨L.new σ.nodes.length w.heap.size (L.av i) (.slice none 0 0), fun j hj => Loc.new_lt hj, by rw [Loc.new_self], ?_, .of_kept0 hk⟩
  refine h.add (.el { name := e.name, attrs := e.attrs, par := none, kids := [] }) w.heap.size (L.av i) (.slice none 0 0) σ.fresh hk (Nat.le_refl _) ?_ rfl (fun e' he' => by cases he'; exact ⟨rfl, rfl⟩) ?_ ?_ (fun hne => absurd rfl (hne _)) ?_
  · show El E.bs w' _ _ _ _ _ _ ∧ Atr w' _ _ ∧ _
    rw [Loc.new_self, Loc.new_avS, Loc.new_kvS]
    exact ⟨hE, hk.ownsRow aI (by simp), lI⟩
  · intro j e2 g hj hgv h1 h2
    by_cases hji : j = i
    · subst hji; rw [hi] at hj; cases hj; rw [hg] at hgv; cases hgv
    · exact h.uq j i e2 g hj hgv hil hji h2 h1
  · intro e2 g j he2 hgv
    cases he2
    rw [hg] at hgv; cases hgv
  · intro hf
    exact ⟨hf, fun g hgt => h.frs hf i g hil hgt⟩
theorem map_eraseIdx (f : Nd → Nd) : ∀ (ks : List Nd) (n : Nat), (ks.eraseIdx n).map f = (ks.map f).eraseIdx n
  | [], _ => by simp
  | _ :: _, 0 => by simp
  | k :: ks, n + 1 => by simp [map_eraseIdx f ks n]
def ins (ks : List Nd) (n : Nat) (k : Nd) : List Nd := ks.take n ++ [k] ++ ks.drop n
theorem ins_map (f : Nat → Nat) (ks : List Nd) (n : Nat) (k : Nd) : (ins ks n k).map (Nd.map f) = (ks.map (Nd.map f)).take n ++ [Nd.map f k] ++ (ks.map (Nd.map f)).drop n := by
  simp [ins, List.map_take, List.map_drop]
theorem ins_sub {ks : List Nd} {n : Nat} {k x : Nd} (h : x ∈ ins ks n k) : x ∈ ks ∨ x = k := by
  rcases List.mem_append.1 h with h | h
  · rcases List.mem_append.1 h with h | h
    · exact .inl (List.mem_of_mem_take h)
    · exact .inr (List.mem_singleton.1 h)
  · exact .inl (List.mem_of_mem_drop h)
theorem t_put_el {E : Env} {L : Loc} {σ : Ab} {w : World} (h : Rel E L σ w) {i j n : Nat} {ei ej : AEl} (hi : σ.el? i = some ei) (hj : σ.el? j = some ej) (hji : j ≠ i) (hn : n ≤ ei.kids.length) (hl : ei.kids.length < 1048576) :
    Calls Tryz.prog 175 #[place (L.at' i) n, (Nd.el (L.at' j)).val] w fun e w' => e = .returned (.tuple #[]) ∧ To E L ((σ.setEl i { ei with kids := ins ei.kids n (.el j) }).setEl j { ej with par := some i }) w w' := by
  have hil := Ab.lt_of_el hi
  have hjl := Ab.lt_of_el hj
  have hii : (σ.el? i).isSome = true := by rw [hi]; rfl
  have hjj : (σ.el? j).isSome = true := by rw [hj]; rfl
  have aI := h.atrAt hi
  have lI := h.ale hi
  have aJ := h.atrAt hj
  have lJ := h.ale hj
  refine (put_el E.bs _ n _ _ _ _ _ _ _ _ _ _ _ w (h.elAt hi) (h.elAt hj) (fun e => hji (h.inj _ _ e)) (fun g hg => h.kne j i g hjl hil hji hg) (by simpa using hn) (by simpa using hl) h.bw).mono ?_
  rintro e w' ⟨rfl, ⟨kv', E1, f1⟩, E2, hk⟩
  have hS : ∀ s ∈ L.at' j :: L.at' i :: (L.kv i).ownBlock.toList, ∃ x ∈ [j, i], s = L.at' x ∨ (L.kv x).ownBlock = some s := by
    intro s hs
    rcases List.mem_cons.1 hs with rfl | hs
    · exact ⟨j, by simp, .inl rfl⟩
    rcases List.mem_cons.1 hs with rfl | hs
    · exact ⟨i, by simp, .inl rfl⟩
    · exact ⟨i, by simp, .inr (by simpa using hs)⟩
  have kt := h.ktJ [j, i] (by intro x hx; simp at hx; rcases hx with rfl | rfl <;> assumption) hS hk
  have hj1 : ((σ.setEl i { ei with kids := ins ei.kids n (.el j) }).el? j).isSome = true := by rw [Ab.el_set hji]; exact hjj
  have hatr : ∀ x e, x < σ.nodes.length → Atr w (L.av x) e → Atr w' (L.av x) e := fun x e _ ha => kt.row ha (by decide)
  refine ⟨rfl, h.setK i kv' hii kt f1 (by rw [Ab.setEl_len, Ab.setEl_len]) ?_ ?_ ?_ ?_⟩
  · intro x e' hx
    by_cases hxj : x = j
    · subst hxj
      rw [Ab.el_setS (by rw [Ab.setEl_len]; exact hjl)] at hx; cases hx
      exact ⟨ej, hj, rfl⟩
    · rw [Ab.el_set hxj] at hx
      by_cases hxi : x = i
      · subst hxi
        rw [Ab.el_setS hil] at hx; cases hx
        exact ⟨ei, hi, rfl⟩
      · rw [Ab.el_set hxi] at hx; exact ⟨e', hx, rfl⟩
  · intro x hx
    by_cases hxj : x = j
    · subst hxj; rw [Ab.el_setS (by rw [Ab.setEl_len]; exact hjl)] at hx; cases hx
    · rw [Ab.el_set hxj] at hx
      by_cases hxi : x = i
      · subst hxi; rw [Ab.el_setS hil] at hx; cases hx
      · rw [Ab.el_set hxi] at hx; exact hx
  · intro x nd hx
    rcases Ab.node_set hx with ⟨rfl, rfl⟩ | ⟨hxj, hx⟩
    · show El E.bs w' _ _ _ _ (if x = i then kv' else L.kv x) _ ∧ _
      rw [if_neg hji]
      exact ⟨E2, hatr x _ hjl aJ, lJ⟩
    · rcases Ab.node_set hx with ⟨rfl, rfl⟩ | ⟨hxi, hx⟩
      · show El E.bs w' _ _ _ _ (if x = x then kv' else L.kv x) _ ∧ _
        rw [if_pos rfl]
        refine ⟨?_, hatr x _ hil aI, lI⟩
        show El E.bs w' (L.at' x) ei.name (L.av x) (omap L.at' ei.par) kv' ((ins ei.kids n (.el j)).map (Nd.map L.at'))
        rw [ins_map]
        exact E1
      · have hN := h.others [j, i] (by intro y hy; simp at hy; rcases hy with rfl | rfl <;> assumption) hS hk hx (by simp [hxj, hxi])
        have hxl : x < σ.nodes.length := (List.getElem?_eq_some_iff.1 hx).1
        exact hN.ext (σ := σ) (Ext.refl _ _) hxl rfl (if_neg hxi) (h.wfn hx)
  · refine (h.wf.setEl (e := { ei with kids := ins ei.kids n (.el j) }) hii (h.wf.par i ei hi) ?_).setEl hj1 ?_ ?_
    · intro k hk'
      rcases ins_sub hk' with hk' | rfl
      · exact h.wf.kids i ei hi k hk'
      · exact hjj
    · rw [Ab.isEl_set hii]; exact hii
    · intro k hk'
      rw [Ab.isKid_set hii]; exact h.wf.kids j ej hj k hk'
theorem t_put_nd {E : Env} {L : Loc} {σ : Ab} {w : World} (h : Rel E L σ w) {i n : Nat} {ei : AEl} {k : Nd} (hi : σ.el? i = some ei) (hk : σ.isKid k = true) (hne : ∀ j, k ≠ .el j) (hn : n ≤ ei.kids.length) (hl : ei.kids.length < 1048576) :
    Calls Tryz.prog 175 #[place (L.at' i) n, (Nd.map L.at' k).val] w fun e w' => e = .returned (.tuple #[]) ∧ To E L (σ.setEl i { ei with kids := ins ei.kids n k }) w w' := by
  have hil := Ab.lt_of_el hi
  have hii : (σ.el? i).isSome = true := by rw [hi]; rfl
  have aI := h.atrAt hi
  have lI := h.ale hi
  refine (put_ok E.bs _ n _ _ _ _ _ (Nd.map L.at' k) w (h.elAt hi) (by simpa using hn) (by simpa using hl) h.bw (fun j e => by cases k <;> simp [Nd.map] at e; exact hne _ rfl)).mono ?_
  rintro e w' ⟨rfl, ⟨kv', E1, f1⟩, hkp⟩
  have hS : ∀ s ∈ L.at' i :: (L.kv i).ownBlock.toList, ∃ x ∈ [i], s = L.at' x ∨ (L.kv x).ownBlock = some s := by
    intro s hs
    rcases List.mem_cons.1 hs with rfl | hs
    · exact ⟨i, by simp, .inl rfl⟩
    · exact ⟨i, by simp, .inr (by simpa using hs)⟩
  have kt := h.ktJ [i] (by intro x hx; simp at hx; subst hx; assumption) hS hkp
  refine ⟨rfl, h.setK i kv' hii kt f1 (by rw [Ab.setEl_len]) ?_ ?_ ?_ ?_⟩
  · intro x e' hx
    by_cases hxi : x = i
    · subst hxi
      rw [Ab.el_setS hil] at hx; cases hx
      exact ⟨ei, hi, rfl⟩
    · rw [Ab.el_set hxi] at hx; exact ⟨e', hx, rfl⟩
  · intro x hx
    by_cases hxi : x = i
    · subst hxi; rw [Ab.el_setS hil] at hx; cases hx
    · rw [Ab.el_set hxi] at hx; exact hx
  · intro x nd hx
    rcases Ab.node_set hx with ⟨rfl, rfl⟩ | ⟨hxi, hx⟩
    · show El E.bs w' _ _ _ _ (if x = x then kv' else L.kv x) _ ∧ _
      rw [if_pos rfl]
      refine ⟨?_, kt.row aI (by decide), lI⟩
      show El E.bs w' (L.at' x) ei.name (L.av x) (omap L.at' ei.par) kv' ((ins ei.kids n k).map (Nd.map L.at'))
      rw [ins_map]
      exact E1
    · have hN := h.others [i] (by intro y hy; simp at hy; subst hy; assumption) hS hkp hx (by simp [hxi])
      have hxl : x < σ.nodes.length := (List.getElem?_eq_some_iff.1 hx).1
      exact hN.ext (σ := σ) (Ext.refl _ _) hxl rfl (if_neg hxi) (h.wfn hx)
  · refine h.wf.setEl hii (h.wf.par i ei hi) ?_
    intro x hx
    rcases ins_sub hx with hx | rfl
    · exact h.wf.kids i ei hi x hx
    · exact hk
theorem t_takeOut_no {E : Env} {L : Loc} {σ : Ab} {w : World} (h : Rel E L σ w) {j : Nat} {ej : AEl} (hj : σ.el? j = some ej) (hp : ej.par = none) :
    Calls Tryz.prog 374 #[.pointer (some ⟨L.at' j, 0, none⟩)] w fun e w' => e = .returned (.tuple #[]) ∧ w' = w := by
  have hE := h.elAt hj
  rw [hp] at hE
  exact takeOut_no E.bs _ _ _ _ _ w hE
theorem t_takeOut {E : Env} {L : Loc} {σ : Ab} {w : World} (h : Rel E L σ w) {j p n : Nat} {ej ep : AEl} (hj : σ.el? j = some ej) (hpar : ej.par = some p) (hp : σ.el? p = some ep) (hjp : j ≠ p) (hn : n < ep.kids.length) (hpos : posN ep.kids (Nd.isEl j) = (n : Int)) :
    Calls Tryz.prog 374 #[.pointer (some ⟨L.at' j, 0, none⟩)] w fun e w' => e = .returned (.tuple #[]) ∧ To E L ((σ.setEl p { ep with kids := ep.kids.eraseIdx n }).setEl j { ej with par := none }) w w' := by
  have hpl := Ab.lt_of_el hp
  have hjl := Ab.lt_of_el hj
  have hpp : (σ.el? p).isSome = true := by rw [hp]; rfl
  have hjj : (σ.el? j).isSome = true := by rw [hj]; rfl
  have hE := h.elAt hj
  rw [hpar] at hE
  have aP := h.atrAt hp
  have lP := h.ale hp
  have aJ := h.atrAt hj
  have lJ := h.ale hj
  refine (takeOut_yes E.bs _ _ n _ _ _ _ _ _ _ _ _ w hE (h.elAt hp) ?_ (fun e => hjp (h.inj _ _ e)) (fun g hg => h.kne j p g hjl hpl hjp hg) (by simpa using hn) (by rw [posN_map h.inj]; exact hpos)).mono ?_
  · intro x hx
    obtain ⟨k, hk, rfl⟩ := List.mem_map.1 hx
    exact h.isNd (h.wf.kids p ep hp k hk)
  rintro e w' ⟨rfl, ⟨kv', E1, f1⟩, E2, hk⟩
  have hS : ∀ s ∈ L.at' j :: L.at' p :: (L.kv p).ownBlock.toList, ∃ x ∈ [j, p], s = L.at' x ∨ (L.kv x).ownBlock = some s := by
    intro s hs
    rcases List.mem_cons.1 hs with rfl | hs
    · exact ⟨j, by simp, .inl rfl⟩
    rcases List.mem_cons.1 hs with rfl | hs
    · exact ⟨p, by simp, .inl rfl⟩
    · exact ⟨p, by simp, .inr (by simpa using hs)⟩
  have kt := h.ktJ [j, p] (by intro x hx; simp at hx; rcases hx with rfl | rfl <;> assumption) hS hk
  have hj1 : ((σ.setEl p { ep with kids := ep.kids.eraseIdx n }).el? j).isSome = true := by rw [Ab.el_set hjp]; exact hjj
  refine ⟨rfl, h.setK p kv' hpp kt (.inl f1) (by rw [Ab.setEl_len, Ab.setEl_len]) ?_ ?_ ?_ ?_⟩
  · intro x e' hx
    by_cases hxj : x = j
    · subst hxj
      rw [Ab.el_setS (by rw [Ab.setEl_len]; exact hjl)] at hx; cases hx
      exact ⟨ej, hj, rfl⟩
    · rw [Ab.el_set hxj] at hx
      by_cases hxi : x = p
      · subst hxi
        rw [Ab.el_setS hpl] at hx; cases hx
        exact ⟨ep, hp, rfl⟩
      · rw [Ab.el_set hxi] at hx; exact ⟨e', hx, rfl⟩
  · intro x hx
    by_cases hxj : x = j
    · subst hxj; rw [Ab.el_setS (by rw [Ab.setEl_len]; exact hjl)] at hx; cases hx
    · rw [Ab.el_set hxj] at hx
      by_cases hxi : x = p
      · subst hxi; rw [Ab.el_setS hpl] at hx; cases hx
      · rw [Ab.el_set hxi] at hx; exact hx
  · intro x nd hx
    rcases Ab.node_set hx with ⟨rfl, rfl⟩ | ⟨hxj, hx⟩
    · show El E.bs w' _ _ _ _ (if x = p then kv' else L.kv x) _ ∧ _
      rw [if_neg hjp]
      exact ⟨E2, kt.row aJ (by decide), lJ⟩
    · rcases Ab.node_set hx with ⟨rfl, rfl⟩ | ⟨hxi, hx⟩
      · show El E.bs w' _ _ _ _ (if x = x then kv' else L.kv x) _ ∧ _
        rw [if_pos rfl]
        refine ⟨?_, kt.row aP (by decide), lP⟩
        show El E.bs w' (L.at' x) ep.name (L.av x) (omap L.at' ep.par) kv' ((ep.kids.eraseIdx n).map (Nd.map L.at'))
        rw [map_eraseIdx]
        exact E1
      · have hN := h.others [j, p] (by intro y hy; simp at hy; rcases hy with rfl | rfl <;> assumption) hS hk hx (by simp [hxj, hxi])
        have hxl : x < σ.nodes.length := (List.getElem?_eq_some_iff.1 hx).1
        exact hN.ext (σ := σ) (Ext.refl _ _) hxl rfl (if_neg hxi) (h.wfn hx)
  · refine (h.wf.setEl (e := { ep with kids := ep.kids.eraseIdx n }) hpp (h.wf.par p ep hp) ?_).setEl hj1 rfl ?_
    · intro k hk'
      exact h.wf.kids p ep hp k (List.mem_of_mem_eraseIdx hk')
    · intro k hk'
      rw [Ab.isKid_set hpp]; exact h.wf.kids j ej hj k hk'
end Go.Proofs.YtlhhgenpcjjajaaGreatDoor
