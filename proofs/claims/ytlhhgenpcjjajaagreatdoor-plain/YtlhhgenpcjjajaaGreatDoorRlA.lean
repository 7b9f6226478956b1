import Derived.Test.YtlhhgenpcjjajaaGreatDoorPlB
import Derived.Test.YtlhhgenpcjjajaaGreatDoorRdE
import Derived.Maps.RangeRun
set_option linter.unusedSimpArgs false
set_option linter.unusedVariables false
namespace Go.Proofs.YtlhhgenpcjjajaaGreatDoor
open Go.RowKit
theorem putList_out (c : Array Value) (o i : Nat) (vs : List Value) (h : o + vs.length ≤ c.size) (hi : i < o ∨ o + vs.length ≤ i) : (putList c o vs)[i]? = c[i]? := by
  rw [← Array.getElem?_toList, putList_toList _ _ _ h, ← Array.getElem?_toList]
  have hz : c.toList.length = c.size := Array.length_toList
  rcases hi with hi | hi
  · rw [List.append_assoc, List.getElem?_append_left (by simp; omega), List.getElem?_take_of_lt hi]
  · rw [List.getElem?_append_right (by simp; omega), List.getElem?_drop]
    congr 1
    simp
    omega
theorem putList_in (c : Array Value) (o k : Nat) (vs : List Value) (h : o + vs.length ≤ c.size) (hk : k < vs.length) : (putList c o vs)[o + k]? = vs[k]? := by
  rw [← Array.getElem?_toList, putList_toList _ _ _ h]
  have hz : c.toList.length = c.size := Array.length_toList
  rw [List.append_assoc, List.getElem?_append_right (by simp; omega), List.getElem?_append_left (by simp; omega)]
  congr 1
  simp
  omega
theorem z188 : Tryz.zeroCells180[188]? = some (.slice none 0 0) := by kernel_rfl
theorem z189 : Tryz.zeroCells180[189]? = some (.slice none 0 0) := by kernel_rfl
theorem z190 : Tryz.zeroCells180[190]? = some (.pointer none) := by kernel_rfl
theorem z191 : Tryz.zeroCells180[191]? = some (.pointer none) := by kernel_rfl
theorem z192 : Tryz.zeroCells180[192]? = some (.int .i64 0) := by kernel_rfl
theorem z193 : Tryz.zeroCells180[193]? = some (.int .i64 0) := by kernel_rfl
theorem z194 : Tryz.zeroCells180[194]? = some (.slice none 0 0) := by kernel_rfl
theorem z195 : Tryz.zeroCells180[195]? = some (.bool false) := by kernel_rfl
theorem z196 : Tryz.zeroCells180[196]? = some (.bool false) := by kernel_rfl
theorem z197 : Tryz.zeroCells180[197]? = some (.int .i64 0) := by kernel_rfl
theorem z198 : Tryz.zeroCells180[198]? = some (.bool false) := by kernel_rfl
def envOf (bs bm bB r : Nat) (C : Array Value) (R : RC) (bg ps : Nat) (w0 : World) : Env := { bm := bm, bB := bB, bR := r, C0 := C, R0 := rcells R bg ps, iOf := 7, w0 := w0, tv := .slice none 0 0, ta := [], bs := bs }
theorem rcells_same (R : RC) (bg ps : Nat) (s : ByteArray) (b : Bool) (hs : s = R.ofT) (hb : b = R.plT) : ((rcells R bg ps).setIfInBounds 7 (.string s)).setIfInBounds 8 (.bool b) = rcells R bg ps := by
  subst hs hb
  rfl
theorem S0_el {d f a x i : Nat} {e : AEl} (h : (S0 d f a x).el? i = some e) : e = ⟨⟨#[]⟩, [], none, []⟩ := by
  have := Ab.node_of_el h
  match i, this with
  | 0, this =>
    have h2 : some (ANd.el ⟨⟨#[]⟩, [], none, []⟩) = some (.el e) := this
    have h3 := Option.some.inj h2
    injection h3 with h3
    exact h3.symm
  | i + 1, this => simp [S0] at this
theorem S0_wf (d f a x : Nat) : Wf (S0 d f a x) where
  opn := fun x hx => by cases hx
  act := fun x hx => by cases hx
  head := rfl
  form := rfl
  par := fun i e h => by rw [S0_el h]; rfl
  kids := fun i e h k hk => by rw [S0_el h] at hk; cases hk
  doc := rfl
set_option maxHeartbeats 1000000 in
theorem new_rf (bs bm bB bD r : Nat) (d f a : Nat) (w W : World) (R : RC) (hN : NewB bm bB bD d f a (.func (.func 55) #[.pointer (some ⟨r, 0, none⟩)] #[]) w W) (hR : Rd W r R 0 0) (ho : R.ofT = ⟨#[]⟩) (hp : R.plT = false) (hd : d ≤ 64) (hf : f ≤ 32) (ha : a ≤ 16) (hbs : bs ≤ w.heap.size) (hbr : bs ≤ r) :
    ∃ C fl, fl 0 = bD ∧ RF (envOf bs bm bB r C R 0 0 W) fl (S0 d f a 0) W := by
  obtain ⟨c6, cs, v1, v2, v3, hb, hc6, hru, h1, h2, h3⟩ := hN.blk
  have hlen := hru.1
  have hsz : c6.size = 199 := by rw [hc6]; simp [newCells_size, zc_size]
  have hin : 4 + cs.length ≤ c6.size := by rw [hlen, hsz]; decide
  have hout : ∀ i, i < 4 ∨ 184 ≤ i → (putList c6 4 cs)[i]? = c6[i]? := fun i hi => putList_out c6 4 i cs hin (by rw [hlen]; omega)
  have hz : ∀ i, 188 ≤ i → (putList c6 4 cs)[i]? = Tryz.zeroCells180[i]? := fun i hi => by
    rw [hout i (.inr (by omega)), hc6]
    simp only [Array.getElem?_setIfInBounds]
    rw [if_neg (by omega), if_neg (by omega), if_neg (by omega), newCells_at _ _ _ _ _ _ _ (by omega) (by omega)]
  have hdl : bD < W.heap.size := lt_of_block hN.doc
  refine ⟨putList c6 4 cs, fun i => if i = 0 then bD else W.heap.size + i, rfl, ⟨⟨_, fun _ => .slice none 0 0, fun _ => .slice none 0 0, .slice none 0 0, .slice none 0 0, .slice none 0 0⟩, rfl, ?_⟩⟩
  have low : ∀ i v, i < 4 → c6[i]? = some v → (putList c6 4 cs)[i]? = some v := fun i v hi h => (hout i (.inl hi)).trans h
  have c0 : c6[0]? = some (.int .i64 (d : Int)) := by
    rw [hc6]; simp [newCells, Array.getElem?_setIfInBounds, zc_size]
  have c1 : c6[1]? = some (.int .i64 (f : Int)) := by
    rw [hc6]; simp [newCells, Array.getElem?_setIfInBounds, zc_size]
  have c2 : c6[2]? = some (.int .i64 (a : Int)) := by
    rw [hc6]; simp [newCells, Array.getElem?_setIfInBounds, zc_size]
  have c3 : c6[3]? = some (.func (.func 55) #[.pointer (some ⟨r, 0, none⟩)] #[]) := by
    rw [hc6]; simp [newCells, Array.getElem?_setIfInBounds, zc_size]
  have c184 : (putList c6 4 cs)[184]? = some v1 := by
    rw [hout _ (.inr (by omega)), hc6]; simp [newCells, Array.getElem?_setIfInBounds, zc_size]
  have c185 : (putList c6 4 cs)[185]? = some v2 := by
    rw [hout _ (.inr (by omega)), hc6]; simp [newCells, Array.getElem?_setIfInBounds, zc_size]
  have c186 : (putList c6 4 cs)[186]? = some v3 := by
    rw [hout _ (.inr (by omega)), hc6]; simp [newCells, Array.getElem?_setIfInBounds, zc_size]
  have c187 : (putList c6 4 cs)[187]? = some (ptrv bD) := by
    rw [hout _ (.inr (by omega)), hc6]; simp [newCells, Array.getElem?_setIfInBounds, zc_size]
  exact
    { fr := Fr.refl _
      env := { rules := ⟨cs, fun k hk => putList_in c6 4 k cs hin (by rw [hlen]; exact hk), hru⟩
               txt := low 3 _ (by decide) c3
               spec := ⟨v1, c184, h1⟩
               impl := ⟨v2, c185, h2⟩
               bnds := ⟨v3, c186, h3⟩
               doc := c187 }
      lim := ⟨low 0 _ (by decide) c0, low 1 _ (by decide) c1, low 2 _ (by decide) c2, hd, hf, ha⟩
      nds := fun i nd hi => by
        match i, hi with
        | 0, hi =>
          have e : nd = .el ⟨⟨#[]⟩, [], none, []⟩ := by
            have : some (ANd.el ⟨⟨#[]⟩, [], none, []⟩) = some nd := hi
            exact (Option.some.inj this).symm
          subst e
          exact ⟨⟨hN.doc, World.ownsRow_nil _ _ _ _, Nat.zero_le _, ⟨_, _, _, rfl⟩⟩, World.ownsRow_nil _ _ _ _, Nat.zero_le _⟩
        | i + 1, hi => simp [S0] at hi
      inj := fun i j h => by
        have h' : (if i = 0 then bD else W.heap.size + i) = (if j = 0 then bD else W.heap.size + j) := h
        by_cases hi : i = 0 <;> by_cases hj : j = 0 <;> simp only [hi, hj, ↓reduceIte] at h' ⊢ <;> omega
      kne := fun i j g hi hj hij hg => by simp [Value.ownBlock] at hg
      kel := fun i hi he => rfl
      uq := fun i j e g h1 h2 h3 h4 h5 => by simp [Value.ownBlock] at h5
      ael := fun i hi he => rfl
      wf := S0_wf d f a 0
      blk := ⟨_, hb, { size := by rw [putList_size]; exact hsz, low := fun i hi => rfl, opn := (hz 188 (by omega)).trans z188, act := (hz 189 (by omega)).trans z189, head := (hz 190 (by omega)).trans z190, form := (hz 191 (by omega)).trans z191, mode := (hz 192 (by omega)).trans z192, kept := (hz 193 (by omega)).trans z193, wait := (hz 194 (by omega)).trans z194, fost := (hz 195 (by omega)).trans z195, quirks := (hz 196 (by omega)).trans z196, at' := (hz 197 (by omega)).trans z197, behind := (hz 198 (by omega)).trans z198 }⟩
      orow := World.ownsRow_nil _ _ _ _
      crow := World.ownsRow_nil _ _ _ _
      ocn := fun g hg => by simp [Value.ownBlock] at hg
      ole := Nat.zero_le _
      cle := Nat.zero_le _
      wrow := World.ownsRow_nil _ _ _ _
      wle := Nat.zero_le _
      rd := by
        show W.heap[r]? = some (.cells (((rcells R 0 0).setIfInBounds 7 (.string ⟨#[]⟩)).setIfInBounds 8 (.bool false)) _ _)
        rw [rcells_same R 0 0 _ _ ho.symm hp.symm]
        exact hR
      rsz := by show 7 + 1 < 9; decide
      tok := World.ownsRow_nil _ _ _ _
      tle := Nat.zero_le _
      bz := Nat.le_trans hbs hN.k.size
      bB := Nat.le_trans hbs hN.new
      bR := hbr
      bN := fun i hi => by
        have hi' : i < 1 := hi
        have : i = 0 := by omega
        subst this
        exact Nat.le_trans hbs hN.newD
      frs := fun h => by simp [S0] at h }
theorem EnvOk.move {E : Env} {bD : Nat} {w w' : World} (h : EnvOk E bD) (hf : Fr E.bs E.w0 w) (hn : FrN E.bm w w') (hm : ∀ (b : Nat) (es : Array MapEntry) (ck : Nat), w.heap[b]? = some (Obj.map es ck) → w'.heap[b]? = some (Obj.map es ck)) : EnvOk { E with w0 := w' } bD := by
  have f1 : FrN E.bm E.w0 w' := (hf.n E.bm).trans hn
  have mo : ∀ {R : Option (List (List ByteArray × Ru))} {v : Value}, IsMapO E.bm E.bB bD R v E.w0 → IsMapO E.bm E.bB bD R v w' := by
    intro R v h
    cases R with
    | none => exact h
    | some R =>
      obtain ⟨b, hb⟩ := h
      obtain ⟨es, ck, hat⟩ := hb.at
      have e1 := (hf.calm (.inl hb.at)).trans hat
      exact ⟨b, hb.fr f1 ((hm b es ck e1).trans hat.symm)⟩
  obtain ⟨cs, h1, h2, h3⟩ := h.rules
  obtain ⟨v1, a1, b1⟩ := h.spec
  obtain ⟨v2, a2, b2⟩ := h.impl
  obtain ⟨v3, a3, b3⟩ := h.bnds
  exact ⟨⟨cs, h1, h2, fun m sp hs => by
    obtain ⟨v0, v1, v2, v3, v4, v5, v6, v7, v8, v9, e, hi⟩ := h3 m sp hs
    exact ⟨v0, v1, v2, v3, v4, v5, v6, v7, v8, v9, e, ⟨hi.blank.fr f1, hi.char.fr f1, hi.comment.fr f1, hi.doctype.fr f1, hi.textEnd.fr f1, mo hi.start, mo hi.stop, hi.otherStart.fr f1, hi.otherEnd.fr f1, hi.others.fr f1⟩⟩⟩, h.txt, ⟨v1, a1, b1.fr f1⟩, ⟨v2, a2, b2.fr f1⟩, ⟨v3, a3, b3.fr f1⟩, h.doc⟩
theorem RF.turn {bs bm bB r : Nat} {C : Array Value} {R : RC} {bg ps : Nat} {w0 : World} {f : Nat → Nat} {σ : Ab} {w w' : World} (h : RF (envOf bs bm bB r C R bg ps w0) f σ w) (T : List TypeId) (kt : KT bs T w w') (hT : ∀ t ∈ RelT, t ∈ T → t = 165) (hM : ∀ t ∈ T, t ∈ MutT) {bg' ps' : Nat} (hr : w'.heap[r]? = some (.cells (rcells R bg' ps') 165 (0, 0))) (ho : R.ofT = σ.ofT) (hp : R.plT = σ.plainT) :
    RF (envOf bs bm bB r C R bg' ps' w') f σ w' := by
  obtain ⟨L, e, h⟩ := h
  have hn : ∀ t ∈ RelT, t ≠ 165 → t ∉ T := fun t ht hne hm => hne (hT t ht hm)
  obtain ⟨C', hbl, hC⟩ := h.blk
  have hfr : FrN bm w w' := by
    obtain ⟨S, hk, hS⟩ := kt
    exact ⟨S, hk, fun k h1 h2 => by obtain ⟨⟨c, t, m, h3, h4⟩, _⟩ := hS k h1 h2; exact .inl ⟨c, t, m, h3, hM t h4⟩⟩
  have hmap : ∀ (b : Nat) (es : Array MapEntry) (ck : Nat), w.heap[b]? = some (Obj.map es ck) → w'.heap[b]? = some (Obj.map es ck) := by
    intro b es ck hb
    obtain ⟨S, hk, hS⟩ := kt
    have hlt : b < w.heap.size := (Array.getElem?_eq_some_iff.1 hb).1
    refine (hk.block b hlt fun hm => ?_).trans hb
    obtain ⟨⟨c, t, m, h3, _⟩, _⟩ := hS b hm hlt
    rw [hb] at h3
    cases h3
  refine ⟨L, e, ?_⟩
  have henv := EnvOk.move (w := w) (w' := w') h.env h.fr hfr hmap
  exact
    { fr := Fr.refl _
      env := ⟨henv.rules, henv.txt, henv.spec, henv.impl, henv.bnds, henv.doc⟩
      lim := h.lim
      nds := fun i nd hi => (h.nds i nd hi).kt kt (fun t ht => hn t (by revert t; decide) (by revert t; decide))
      inj := h.inj
      kne := h.kne
      kel := h.kel
      uq := h.uq
      ael := h.ael
      wf := h.wf
      blk := ⟨C', kt.at hbl (hn _ (by decide) (by decide)), ⟨hC.size, hC.low, hC.opn, hC.act, hC.head, hC.form, hC.mode, hC.kept, hC.wait, hC.fost, hC.quirks, hC.at', hC.behind⟩⟩
      orow := kt.row h.orow (hn _ (by decide) (by decide))
      crow := kt.row h.crow (hn _ (by decide) (by decide))
      ocn := h.ocn
      ole := h.ole
      cle := h.cle
      wrow := kt.row h.wrow (hn _ (by decide) (by decide))
      wle := h.wle
      rd := by
        show w'.heap[r]? = some (.cells (((rcells R bg' ps').setIfInBounds 7 (.string σ.ofT)).setIfInBounds 8 (.bool σ.plainT)) _ _)
        rw [rcells_same R bg' ps' _ _ ho.symm hp.symm]
        exact hr
      rsz := by show 7 + 1 < 9; decide
      tok := World.ownsRow_nil _ _ _ _
      tle := Nat.zero_le _
      bz := Nat.le_trans (Nat.le_trans h.bz h.fr.size) kt.size
      bB := h.bB
      bR := h.bR
      bN := h.bN
      frs := fun h i g hi hg => by simp [envOf, Value.ownBlock] at hg }
end Go.Proofs.YtlhhgenpcjjajaaGreatDoor
namespace Go.Proofs.YtlhhgenpcjjajaaGreatDoor
open Go.RowKit
def chOf (cs : ByteArray) (i : Nat) : ByteArray := cs.extract i (i + 1)
def nbFrom (cs : ByteArray) (i : Nat) : Nat := if i < cs.size then (if isBlankS (chOf cs i) then nbFrom cs (i + 1) else i) else cs.size
  termination_by cs.size - i
theorem nbFrom_le (cs : ByteArray) (i : Nat) : nbFrom cs i ≤ cs.size := by
  unfold nbFrom
  split
  · rename_i h
    split
    · exact nbFrom_le cs (i + 1)
    · omega
  · omega
  termination_by cs.size - i
theorem nbFrom_blank (cs : ByteArray) (i j : Nat) (h1 : i ≤ j) (h2 : j < nbFrom cs i) : isBlankS (chOf cs j) = true := by
  unfold nbFrom at h2
  split at h2
  · rename_i h
    split at h2
    · rename_i hb
      by_cases e : i = j
      · subst e; exact hb
      · exact nbFrom_blank cs (i + 1) j (by omega) h2
    · omega
  · exfalso
    have := nbFrom_le cs i
    omega
  termination_by cs.size - i
theorem nbFrom_not (cs : ByteArray) (i : Nat) (h : nbFrom cs i < cs.size) : isBlankS (chOf cs (nbFrom cs i)) = false := by
  by_cases hi : i < cs.size
  · by_cases hb : isBlankS (chOf cs i) = true
    · have e : nbFrom cs i = nbFrom cs (i + 1) := by rw [nbFrom, if_pos hi, if_pos hb]
      rw [e] at h ⊢
      exact nbFrom_not cs (i + 1) h
    · have e : nbFrom cs i = i := by rw [nbFrom, if_pos hi, if_neg hb]
      rw [e]
      simpa using hb
  · have e : nbFrom cs i = cs.size := by rw [nbFrom, if_neg hi]
    omega
  termination_by cs.size - i
def nb (cs : ByteArray) : Nat := nbFrom cs 0
theorem ext_app (cs : ByteArray) (i j k : Nat) (h1 : i ≤ j) (h2 : j ≤ k) : cs.extract i j ++ cs.extract j k = cs.extract i k := by
  apply ByteArray.ext
  rw [ByteArray.data_append, ByteArray.data_extract, ByteArray.data_extract, ByteArray.data_extract, Array.extract_append_extract]
  congr 1 <;> omega
def stI (d f l : Nat) (cs : ByteArray) (ps a : Nat) : Ab := if ps ≤ nb cs then S0 d f l a else SB d f l a (some (cs.extract (nb cs) ps))
theorem step_char (d f l : Nat) (cs : ByteArray) (ps a x y : Nat) (hp : ps < cs.size) (hz : isNulS (chOf cs ps) = false) (hs : cs.size ≤ 1024) : TakeM takeP ⟨x, y, .char (chOf cs ps), []⟩ (stI (d + 4) f l cs ps a) = .ok () (stI (d + 4) f l cs (ps + 1) x) := by
  unfold stI
  by_cases h1 : ps + 1 ≤ nb cs
  · rw [if_pos (by omega), if_pos h1]
    exact takeP_blank _ _ _ _ _ _ _ (nbFrom_blank cs 0 ps (Nat.zero_le _) (by unfold nb at h1; omega))
  · rw [if_neg h1]
    by_cases h2 : ps ≤ nb cs
    · have e : nb cs = ps := by omega
      rw [if_pos h2, e]
      refine takeP_first _ _ _ _ _ _ _ ?_ hz
      have := nbFrom_not cs 0 (by unfold nb at e; omega)
      unfold nb at e
      rw [e] at this
      exact this
    · rw [if_neg h2]
      refine (takeP_more _ _ _ _ _ _ _ hz (some (cs.extract (nb cs) ps)) ?_).trans ?_
      · rintro u hu
        injection hu with hu
        subst hu
        have e1 : (cs.extract (nb cs) ps).size ≤ cs.size := by simp; omega
        have e2 : (chOf cs ps).size ≤ cs.size := by unfold chOf; simp; omega
        omega
      · show Res.ok () (SB (d + 4) f l x (some (cs.extract (nb cs) ps ++ cs.extract ps (ps + 1)))) = _
        rw [ext_app cs _ _ _ (by omega) (by omega)]
def bodyT (cs : ByteArray) : Option ByteArray := if nb cs < cs.size then some (cs.extract (nb cs) cs.size) else none
theorem step_end (d f l : Nat) (cs : ByteArray) (a x y : Nat) : TakeM takeP ⟨x, y, .textEnd, []⟩ (stI (d + 4) f l cs cs.size a) = .ok () (SB (d + 4) f l x (bodyT cs)) := by
  unfold stI bodyT
  have := nbFrom_le cs 0
  by_cases h : nb cs < cs.size
  · rw [if_neg (by omega), if_pos h]
    exact takeP_end _ _ _ _ _ _ _
  · rw [if_pos (by omega), if_neg h]
    exact takeP_end0 _ _ _ _ _ _
theorem stI_of (d f l : Nat) (cs : ByteArray) (ps a : Nat) : (stI d f l cs ps a).ofT = ⟨#[]⟩ ∧ (stI d f l cs ps a).plainT = false := by
  unfold stI
  split <;> exact ⟨rfl, rfl⟩
theorem stI_pos (d f l : Nat) (cs : ByteArray) (ps a : Nat) : 0 < (stI d f l cs ps a).nodes.length := by
  unfold stI
  split
  · exact Nat.zero_lt_succ _
  · show 0 < (_ ++ txB _).length
    simp
end Go.Proofs.YtlhhgenpcjjajaaGreatDoor
namespace Go.Proofs.YtlhhgenpcjjajaaGreatDoor
open Go.RowKit Go.PlainAid
structure Lk (w : World) (b : Nat) (look : ByteArray → Option ByteArray) : Prop where
  lt : b < w.heap.size
  short : ∀ key t, look key = some t → t.size ≤ 16
  run : ∀ (key : ByteArray) (w' : World), w'.heap[b]? = w.heap[b]? → (Instr.lookup 160 (.map (some b)) (.string key) true).run Tryz.prog w' = .ok (.tuple #[.agg #[.string ((look key).getD ⟨#[]⟩)], .bool (look key).isSome]) w'
theorem Lk.kept {w w' : World} {b : Nat} {look : ByteArray → Option ByteArray} {S : List Nat} (h : Lk w b look) (hk : Kept S w w') (hb : b ∉ S) : Lk w' b look :=
  ⟨Nat.lt_of_lt_of_le h.lt hk.size, h.short, fun key w'' e => h.run key w'' (e.trans (hk.block b h.lt hb))⟩
end Go.Proofs.YtlhhgenpcjjajaaGreatDoor
namespace Go.Proofs.YtlhhgenpcjjajaaGreatDoor
open Go.RowKit Go.PlainAid
open Go.ChangeMaps (setBlock)
def kvOf (e : MapEntry) : Value × Value := (e.key, e.val)
def kv (p : ByteArray × ByteArray) : Value × Value := (.string p.1, .agg #[.string p.2])
structure Mp (w : World) (b : Nat) (L : List (ByteArray × ByteArray)) (es : Array MapEntry) (clock : Nat) : Prop where
  at_ : w.heap[b]? = some (.map es clock)
  kvs : es.toList.map kvOf = L.map kv
  nod : (es.toList.map (·.born)).Nodup
  old : ∀ x ∈ es.toList, x.born < clock
theorem Mp.kept {w w' : World} {b : Nat} {L : List (ByteArray × ByteArray)} {es : Array MapEntry} {clock : Nat} {S : List Nat} (h : Mp w b L es clock) (hk : Kept S w w') (hb : b ∉ S) : Mp w' b L es clock := ⟨hk.at h.at_ hb, h.kvs, h.nod, h.old⟩
theorem find_no (k : ByteArray) : ∀ (es : List MapEntry) (L : List (ByteArray × ByteArray)) (i : Nat), es.map kvOf = L.map kv → L.all (fun p => !(k == p.1)) = true → Instr.findNow .string (.string k) es i = some none
  | [], _, _, _, _ => rfl
  | e :: es, [], _, h, _ => by simp at h
  | e :: es, p :: L, i, h, hn => by
    simp only [List.map_cons, List.cons.injEq] at h
    simp only [List.all_cons, Bool.and_eq_true] at hn
    have hk : e.key = .string p.1 := congrArg Prod.fst h.1
    have hf : (k == p.1) = false := by simpa using hn.1
    unfold Instr.findNow
    simp only [hk, Instr.sameNow, hf]
    exact find_no k es L (i + 1) h.2 hn.2
theorem find_yes (k : ByteArray) : ∀ (es : List MapEntry) (L : List (ByteArray × ByteArray)) (i : Nat) (p : ByteArray × ByteArray), es.map kvOf = L.map kv → L.find? (fun p => k == p.1) = some p → ∃ j, Instr.findNow .string (.string k) es i = some (some (j, .agg #[.string p.2]))
  | [], [], _, _, _, h => by simp at h
  | [], _ :: _, _, _, h, _ => by simp at h
  | e :: es, [], _, _, h, _ => by simp at h
  | e :: es, q :: L, i, p, h, hp => by
    simp only [List.map_cons, List.cons.injEq] at h
    have hk : e.key = .string q.1 := congrArg Prod.fst h.1
    have hv : e.val = .agg #[.string q.2] := congrArg Prod.snd h.1
    unfold Instr.findNow
    cases hf : (k == q.1)
    · simp only [hk, Instr.sameNow, hf]
      rw [List.find?_cons, hf] at hp
      exact find_yes k es L (i + 1) p h.2 hp
    · simp only [hk, Instr.sameNow, hf]
      rw [List.find?_cons, hf] at hp
      obtain rfl := Option.some.inj hp
      exact ⟨i, by rw [hv]⟩
theorem kept_setBlock {S : List Nat} {a w : World} (h : Kept S a w) {b : Nat} (hb : b ∈ S ∨ a.heap.size ≤ b) (o : Obj) : Kept S a (setBlock w b o) :=
  ⟨h.os, h.tape, h.output, by show a.heap.size ≤ (w.heap.setIfInBounds b o).size; rw [Array.size_setIfInBounds]; exact h.size, fun k hk hs => by
    show (w.heap.setIfInBounds b o)[k]? = _
    rw [Array.getElem?_setIfInBounds_ne (by rintro rfl; rcases hb with hb | hb; exact hs hb; omega)]
    exact h.block k hk hs⟩
theorem setBlock_at {w : World} {b : Nat} (h : b < w.heap.size) (o : Obj) : (setBlock w b o).heap[b]? = some o := by
  show (w.heap.setIfInBounds b o)[b]? = _
  rw [Array.getElem?_setIfInBounds]; simp [h]
theorem run_put {w : World} {b : Nat} {L : List (ByteArray × ByteArray)} {es : Array MapEntry} {clock : Nat} (h : Mp w b L es clock) (k t : ByteArray) (hn : L.all (fun p => !(k == p.1)) = true) :
    ∃ w' es' clock', (Instr.mapUpdate 160 (.map (some b)) (.string k) (.agg #[.string t])).run Tryz.prog w = .ok () w' ∧ Mp w' b (L ++ [(k, t)]) es' clock' ∧ Kept [b] w w' ∧ w'.heap.size = w.heap.size := by
  have hl := lt_of_block h.at_
  refine ⟨setBlock w b (.map (es.push { key := .string k, val := .agg #[.string t], born := clock }) (clock + 1)), _, _, ?_, ⟨setBlock_at hl _, ?_, ?_, ?_⟩, kept_setBlock (Kept.refl _ _) (.inl (by simp)) _, ?_⟩
  · have hf := find_no k es.toList L 0 h.kvs hn
    have hu : (underlying 9).run Tryz.prog w = .ok .string w := run_underlying Tryz.underlying9 _
    have hc : (Instr.checkKey false 10000 9 (.string k)).run Tryz.prog w = .ok () w := by
      unfold Instr.checkKey
      simp [hu]
    simp [Instr.mapUpdate, run_underlying Tryz.underlying160, MapKept.run_getObj_map h.at_, hc, Instr.findKey, hu, hf, setObj, Sem.run, h.at_, setBlock, Result.andThen]
  · simp [h.kvs, kvOf, kv]
  · simp only [Array.toList_push, List.map_append, List.map_cons, List.map_nil]
    rw [List.nodup_append]
    refine ⟨h.nod, by simp, ?_⟩
    intro x hx y hy e
    obtain ⟨z, hz, rfl⟩ := List.mem_map.1 hx
    have := h.old z hz
    simp at hy
    omega
  · intro x hx
    simp only [Array.toList_push, List.mem_append, List.mem_singleton] at hx
    rcases hx with hx | rfl
    · have := h.old x hx; omega
    · exact Nat.lt_succ_self _
  · show (w.heap.setIfInBounds b _).size = _; simp
def lookL (L : List (ByteArray × ByteArray)) (k : ByteArray) : Option ByteArray := (L.find? (fun p => k == p.1)).map (·.2)
theorem zero_meaning (w : World) : (zeroValue 207).run Tryz.prog w = .ok (.agg #[.string ⟨#[]⟩]) w := by
  have h : (Tryz.prog.info? 207).bind (·.zero) = some (.agg #[.string ⟨#[]⟩]) := by kernel_rfl
  obtain ⟨i, hi, hz⟩ := Option.bind_eq_some_iff.1 h
  simp [zeroValue, typeInfo, hi, hz]
theorem Mp.lk {w : World} {b : Nat} {L : List (ByteArray × ByteArray)} {es : Array MapEntry} {clock : Nat} (h : Mp w b L es clock) (hs : L.all (fun p => decide (p.2.size ≤ 16)) = true) : Lk w b (lookL L) where
  lt := lt_of_block h.at_
  short k t ht := by
    unfold lookL at ht
    obtain ⟨p, hp, rfl⟩ := Option.map_eq_some_iff.1 ht
    have := List.all_eq_true.1 hs p (List.mem_of_find?_eq_some hp)
    simpa using this
  run k w' e := by
    have ha : w'.heap[b]? = some (.map es clock) := e.trans h.at_
    have hu : (underlying 9).run Tryz.prog w' = .ok .string w' := run_underlying Tryz.underlying9 _
    have hc : ∀ x, (Instr.checkKey x 10000 9 (.string k)).run Tryz.prog w' = .ok () w' := fun x => by
      unfold Instr.checkKey
      simp [hu]
    cases hf : L.find? (fun p => k == p.1) with
    | none =>
      have hn : L.all (fun p => !(k == p.1)) = true := by
        rw [List.all_eq_true]; intro p hp
        have := List.find?_eq_none.1 hf p hp
        simpa using this
      have h1 := find_no k es.toList L 0 h.kvs hn
      have h2 : lookL L k = none := by unfold lookL; rw [hf]; rfl
      rw [h2]
      simp [Instr.lookup, run_underlying Tryz.underlying160, MapKept.run_getObj_map ha, hc, Instr.findKey, hu, h1, zero_meaning, Result.andThen]
    | some p =>
      obtain ⟨j, h1⟩ := find_yes k es.toList L 0 p h.kvs hf
      have h2 : lookL L k = some p.2 := by unfold lookL; rw [hf]; rfl
      rw [h2]
      simp [Instr.lookup, run_underlying Tryz.underlying160, MapKept.run_getObj_map ha, hc, Instr.findKey, hu, h1, Result.andThen]
end Go.Proofs.YtlhhgenpcjjajaaGreatDoor
