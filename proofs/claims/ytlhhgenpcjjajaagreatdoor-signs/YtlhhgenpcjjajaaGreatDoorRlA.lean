import Derived.Test.YtlhhgenpcjjajaaGreatDoorBdR
import Derived.Test.YtlhhgenpcjjajaaGreatDoorRd
import Derived.Maps.RangeRun
set_option linter.unusedSimpArgs false
set_option linter.unusedVariables false
namespace Go.Proofs.YtlhhgenpcjjajaaGreatDoor
open Go.RowKit
theorem putList_out (c : Array Value) (o i : Nat) (vs : List Value) (h : o + vs.length ≤ c.size) (hi : i < o ∨ o + vs.length ≤ i) : (putList c o vs)[i]? = c[i]? := by
  rw [← Array.getElem?_toList, putList_toList _ _ _ h, ← Array.getElem?_toList]
  have hz : c.toList.length = c.size := Array.length_toList
  rcases hi with hi | hi
  · rw [List.append_assoc, List.getElem?_append_left (by simp; omega), List.getElem?_take_of_lt hi]
  · rw [List.getElem?_append_right (by simp; omega), List.getElem?_drop]
    congr 1
    simp
    omega
theorem putList_in (c : Array Value) (o k : Nat) (vs : List Value) (h : o + vs.length ≤ c.size) (hk : k < vs.length) : (putList c o vs)[o + k]? = vs[k]? := by
  rw [← Array.getElem?_toList, putList_toList _ _ _ h]
  have hz : c.toList.length = c.size := Array.length_toList
  rw [List.append_assoc, List.getElem?_append_right (by simp; omega), List.getElem?_append_left (by simp; omega)]
  congr 1
  simp
  omega
theorem z188 : Tryz.zeroCells180[188]? = some (.slice none 0 0) := by kernel_rfl
theorem z189 : Tryz.zeroCells180[189]? = some (.slice none 0 0) := by kernel_rfl
theorem z190 : Tryz.zeroCells180[190]? = some (.pointer none) := by kernel_rfl
theorem z191 : Tryz.zeroCells180[191]? = some (.pointer none) := by kernel_rfl
theorem z192 : Tryz.zeroCells180[192]? = some (.int .i64 0) := by kernel_rfl
theorem z193 : Tryz.zeroCells180[193]? = some (.int .i64 0) := by kernel_rfl
theorem z194 : Tryz.zeroCells180[194]? = some (.slice none 0 0) := by kernel_rfl
theorem z195 : Tryz.zeroCells180[195]? = some (.bool false) := by kernel_rfl
theorem z196 : Tryz.zeroCells180[196]? = some (.bool false) := by kernel_rfl
theorem z197 : Tryz.zeroCells180[197]? = some (.int .i64 0) := by kernel_rfl
theorem z198 : Tryz.zeroCells180[198]? = some (.bool false) := by kernel_rfl
def envOf (bs bm bB r : Nat) (C : Array Value) (R : RC) (bg ps : Nat) (w0 : World) : Env := { bm := bm, bB := bB, bR := r, C0 := C, R0 := rcells R bg ps, iOf := 7, w0 := w0, tv := .slice none 0 0, ta := [], bs := bs }
theorem rcells_same (R : RC) (bg ps : Nat) (s : ByteArray) (b : Bool) (hs : s = R.ofT) (hb : b = R.plT) : ((rcells R bg ps).setIfInBounds 7 (.string s)).setIfInBounds 8 (.bool b) = rcells R bg ps := by
  subst hs hb
  rfl
theorem S0_el {d f a x i : Nat} {e : AEl} (h : (S0 d f a x).el? i = some e) : e = ⟨⟨#[]⟩, [], none, []⟩ := by
  have := Ab.node_of_el h
  match i, this with
  | 0, this =>
    have h2 : some (ANd.el ⟨⟨#[]⟩, [], none, []⟩) = some (.el e) := this
    have h3 := Option.some.inj h2
    injection h3 with h3
    exact h3.symm
  | i + 1, this => simp [S0] at this
theorem S0_wf (d f a x : Nat) : Wf (S0 d f a x) where
  opn := fun x hx => by cases hx
  act := fun x hx => by cases hx
  head := rfl
  form := rfl
  par := fun i e h => by rw [S0_el h]; rfl
  kids := fun i e h k hk => by rw [S0_el h] at hk; cases hk
  doc := rfl
set_option maxHeartbeats 1000000 in
theorem new_rf (bs bm bB bD r : Nat) (d f a : Nat) (w W : World) (R : RC) (hN : NewB bm bB bD d f a (.func (.func 55) #[.pointer (some ⟨r, 0, none⟩)] #[]) w W) (hR : Rd W r R 0 0) (ho : R.ofT = ⟨#[]⟩) (hp : R.plT = false) (hd : d ≤ 64) (hf : f ≤ 32) (ha : a ≤ 16) (hbs : bs ≤ w.heap.size) (hbr : bs ≤ r) :
    ∃ C fl, fl 0 = bD ∧ RF (envOf bs bm bB r C R 0 0 W) fl (S0 d f a 0) W := by
  obtain ⟨c6, cs, v1, v2, v3, hb, hc6, hru, h1, h2, h3⟩ := hN.blk
  have hlen := hru.1
  have hsz : c6.size = 199 := by rw [hc6]; simp [newCells_size, zc_size]
  have hin : 4 + cs.length ≤ c6.size := by rw [hlen, hsz]; decide
  have hout : ∀ i, i < 4 ∨ 184 ≤ i → (putList c6 4 cs)[i]? = c6[i]? := fun i hi => putList_out c6 4 i cs hin (by rw [hlen]; omega)
  have hz : ∀ i, 188 ≤ i → (putList c6 4 cs)[i]? = Tryz.zeroCells180[i]? := fun i hi => by
    rw [hout i (.inr (by omega)), hc6]
    simp only [Array.getElem?_setIfInBounds]
    rw [if_neg (by omega), if_neg (by omega), if_neg (by omega), newCells_at _ _ _ _ _ _ _ (by omega) (by omega)]
  have hdl : bD < W.heap.size := lt_of_block hN.doc
  refine ⟨putList c6 4 cs, fun i => if i = 0 then bD else W.heap.size + i, rfl, ⟨⟨_, fun _ => .slice none 0 0, fun _ => .slice none 0 0, .slice none 0 0, .slice none 0 0, .slice none 0 0⟩, rfl, ?_⟩⟩
  have low : ∀ i v, i < 4 → c6[i]? = some v → (putList c6 4 cs)[i]? = some v := fun i v hi h => (hout i (.inl hi)).trans h
  have c0 : c6[0]? = some (.int .i64 (d : Int)) := by
    rw [hc6]; simp [newCells, Array.getElem?_setIfInBounds, zc_size]
  have c1 : c6[1]? = some (.int .i64 (f : Int)) := by
    rw [hc6]; simp [newCells, Array.getElem?_setIfInBounds, zc_size]
  have c2 : c6[2]? = some (.int .i64 (a : Int)) := by
    rw [hc6]; simp [newCells, Array.getElem?_setIfInBounds, zc_size]
  have c3 : c6[3]? = some (.func (.func 55) #[.pointer (some ⟨r, 0, none⟩)] #[]) := by
    rw [hc6]; simp [newCells, Array.getElem?_setIfInBounds, zc_size]
  have c184 : (putList c6 4 cs)[184]? = some v1 := by
    rw [hout _ (.inr (by omega)), hc6]; simp [newCells, Array.getElem?_setIfInBounds, zc_size]
  have c185 : (putList c6 4 cs)[185]? = some v2 := by
    rw [hout _ (.inr (by omega)), hc6]; simp [newCells, Array.getElem?_setIfInBounds, zc_size]
  have c186 : (putList c6 4 cs)[186]? = some v3 := by
    rw [hout _ (.inr (by omega)), hc6]; simp [newCells, Array.getElem?_setIfInBounds, zc_size]
  have c187 : (putList c6 4 cs)[187]? = some (ptrv bD) := by
    rw [hout _ (.inr (by omega)), hc6]; simp [newCells, Array.getElem?_setIfInBounds, zc_size]
  exact
    { fr := Fr.refl _
      env := { rules := ⟨cs, fun k hk => putList_in c6 4 k cs hin (by rw [hlen]; exact hk), hru⟩
               txt := low 3 _ (by decide) c3
               spec := ⟨v1, c184, h1⟩
               impl := ⟨v2, c185, h2⟩
               bnds := ⟨v3, c186, h3⟩
               doc := c187 }
      lim := ⟨low 0 _ (by decide) c0, low 1 _ (by decide) c1, low 2 _ (by decide) c2, hd, hf, ha⟩
      nds := fun i nd hi => by
        match i, hi with
        | 0, hi =>
          have e : nd = .el ⟨⟨#[]⟩, [], none, []⟩ := by
            have : some (ANd.el ⟨⟨#[]⟩, [], none, []⟩) = some nd := hi
            exact (Option.some.inj this).symm
          subst e
          exact ⟨⟨hN.doc, World.ownsRow_nil _ _ _ _, Nat.zero_le _, ⟨_, _, _, rfl⟩⟩, World.ownsRow_nil _ _ _ _, Nat.zero_le _⟩
        | i + 1, hi => simp [S0] at hi
      inj := fun i j h => by
        have h' : (if i = 0 then bD else W.heap.size + i) = (if j = 0 then bD else W.heap.size + j) := h
        by_cases hi : i = 0 <;> by_cases hj : j = 0 <;> simp only [hi, hj, ↓reduceIte] at h' ⊢ <;> omega
      kne := fun i j g hi hj hij hg => by simp [Value.ownBlock] at hg
      kel := fun i hi he => rfl
      uq := fun i j e g h1 h2 h3 h4 h5 => by simp [Value.ownBlock] at h5
      ael := fun i hi he => rfl
      wf := S0_wf d f a 0
      blk := ⟨_, hb, { size := by rw [putList_size]; exact hsz, low := fun i hi => rfl, opn := (hz 188 (by omega)).trans z188, act := (hz 189 (by omega)).trans z189, head := (hz 190 (by omega)).trans z190, form := (hz 191 (by omega)).trans z191, mode := (hz 192 (by omega)).trans z192, kept := (hz 193 (by omega)).trans z193, wait := (hz 194 (by omega)).trans z194, fost := (hz 195 (by omega)).trans z195, quirks := (hz 196 (by omega)).trans z196, at' := (hz 197 (by omega)).trans z197, behind := (hz 198 (by omega)).trans z198 }⟩
      orow := World.ownsRow_nil _ _ _ _
      crow := World.ownsRow_nil _ _ _ _
      ocn := fun g hg => by simp [Value.ownBlock] at hg
      ole := Nat.zero_le _
      cle := Nat.zero_le _
      wrow := World.ownsRow_nil _ _ _ _
      wle := Nat.zero_le _
      rd := by
        show W.heap[r]? = some (.cells (((rcells R 0 0).setIfInBounds 7 (.string ⟨#[]⟩)).setIfInBounds 8 (.bool false)) _ _)
        rw [rcells_same R 0 0 _ _ ho.symm hp.symm]
        exact hR
      rsz := by show 7 + 1 < 9; decide
      tok := World.ownsRow_nil _ _ _ _
      tle := Nat.zero_le _
      bz := Nat.le_trans hbs hN.k.size
      bB := Nat.le_trans hbs hN.new
      bR := hbr
      bN := fun i hi => by
        have hi' : i < 1 := hi
        have : i = 0 := by omega
        subst this
        exact Nat.le_trans hbs hN.newD
      frs := fun h => by simp [S0] at h }
theorem EnvOk.move {E : Env} {bD : Nat} {w w' : World} (h : EnvOk E bD) (hf : Fr E.bs E.w0 w) (hn : FrN E.bm w w') (hm : ∀ (b : Nat) (es : Array MapEntry) (ck : Nat), w.heap[b]? = some (Obj.map es ck) → w'.heap[b]? = some (Obj.map es ck)) : EnvOk { E with w0 := w' } bD := by
  have f1 : FrN E.bm E.w0 w' := (hf.n E.bm).trans hn
  have mo : ∀ {R : Option (List (List ByteArray × Ru))} {v : Value}, IsMapO E.bm E.bB bD R v E.w0 → IsMapO E.bm E.bB bD R v w' := by
    intro R v h
    cases R with
    | none => exact h
    | some R =>
      obtain ⟨b, hb⟩ := h
      obtain ⟨es, ck, hat⟩ := hb.at
      have e1 := (hf.calm (.inl hb.at)).trans hat
      exact ⟨b, hb.fr f1 ((hm b es ck e1).trans hat.symm)⟩
  obtain ⟨cs, h1, h2, h3⟩ := h.rules
  obtain ⟨v1, a1, b1⟩ := h.spec
  obtain ⟨v2, a2, b2⟩ := h.impl
  obtain ⟨v3, a3, b3⟩ := h.bnds
  exact ⟨⟨cs, h1, h2, fun m sp hs => by
    obtain ⟨v0, v1, v2, v3, v4, v5, v6, v7, v8, v9, e, hi⟩ := h3 m sp hs
    exact ⟨v0, v1, v2, v3, v4, v5, v6, v7, v8, v9, e, ⟨hi.blank.fr f1, hi.char.fr f1, hi.comment.fr f1, hi.doctype.fr f1, hi.textEnd.fr f1, mo hi.start, mo hi.stop, hi.otherStart.fr f1, hi.otherEnd.fr f1, hi.others.fr f1⟩⟩⟩, h.txt, ⟨v1, a1, b1.fr f1⟩, ⟨v2, a2, b2.fr f1⟩, ⟨v3, a3, b3.fr f1⟩, h.doc⟩
theorem RF.turn {bs bm bB r : Nat} {C : Array Value} {R : RC} {bg ps : Nat} {w0 : World} {f : Nat → Nat} {σ : Ab} {w w' : World} (h : RF (envOf bs bm bB r C R bg ps w0) f σ w) (T : List TypeId) (kt : KT bs T w w') (hT : ∀ t ∈ RelT, t ∈ T → t = 165) (hM : ∀ t ∈ T, t ∈ MutT) {bg' ps' : Nat} (hr : w'.heap[r]? = some (.cells (rcells R bg' ps') 165 (0, 0))) (ho : R.ofT = σ.ofT) (hp : R.plT = σ.plainT) :
    RF (envOf bs bm bB r C R bg' ps' w') f σ w' := by
  obtain ⟨L, e, h⟩ := h
  have hn : ∀ t ∈ RelT, t ≠ 165 → t ∉ T := fun t ht hne hm => hne (hT t ht hm)
  obtain ⟨C', hbl, hC⟩ := h.blk
  have hfr : FrN bm w w' := by
    obtain ⟨S, hk, hS⟩ := kt
    exact ⟨S, hk, fun k h1 h2 => by obtain ⟨⟨c, t, m, h3, h4⟩, _⟩ := hS k h1 h2; exact .inl ⟨c, t, m, h3, hM t h4⟩⟩
  have hmap : ∀ (b : Nat) (es : Array MapEntry) (ck : Nat), w.heap[b]? = some (Obj.map es ck) → w'.heap[b]? = some (Obj.map es ck) := by
    intro b es ck hb
    obtain ⟨S, hk, hS⟩ := kt
    have hlt : b < w.heap.size := (Array.getElem?_eq_some_iff.1 hb).1
    refine (hk.block b hlt fun hm => ?_).trans hb
    obtain ⟨⟨c, t, m, h3, _⟩, _⟩ := hS b hm hlt
    rw [hb] at h3
    cases h3
  refine ⟨L, e, ?_⟩
  have henv := EnvOk.move (w := w) (w' := w') h.env h.fr hfr hmap
  exact
    { fr := Fr.refl _
      env := ⟨henv.rules, henv.txt, henv.spec, henv.impl, henv.bnds, henv.doc⟩
      lim := h.lim
      nds := fun i nd hi => (h.nds i nd hi).kt kt (fun t ht => hn t (by revert t; decide) (by revert t; decide))
      inj := h.inj
      kne := h.kne
      kel := h.kel
      uq := h.uq
      ael := h.ael
      wf := h.wf
      blk := ⟨C', kt.at hbl (hn _ (by decide) (by decide)), ⟨hC.size, hC.low, hC.opn, hC.act, hC.head, hC.form, hC.mode, hC.kept, hC.wait, hC.fost, hC.quirks, hC.at', hC.behind⟩⟩
      orow := kt.row h.orow (hn _ (by decide) (by decide))
      crow := kt.row h.crow (hn _ (by decide) (by decide))
      ocn := h.ocn
      ole := h.ole
      cle := h.cle
      wrow := kt.row h.wrow (hn _ (by decide) (by decide))
      wle := h.wle
      rd := by
        show w'.heap[r]? = some (.cells (((rcells R bg' ps').setIfInBounds 7 (.string σ.ofT)).setIfInBounds 8 (.bool σ.plainT)) _ _)
        rw [rcells_same R bg' ps' _ _ ho.symm hp.symm]
        exact hr
      rsz := by show 7 + 1 < 9; decide
      tok := World.ownsRow_nil _ _ _ _
      tle := Nat.zero_le _
      bz := Nat.le_trans (Nat.le_trans h.bz h.fr.size) kt.size
      bB := h.bB
      bR := h.bR
      bN := h.bN
      frs := fun h i g hi hg => by simp [envOf, Value.ownBlock] at hg }
end Go.Proofs.YtlhhgenpcjjajaaGreatDoor
namespace Go.Proofs.YtlhhgenpcjjajaaGreatDoor
open Go.RowKit
def chOf (cs : ByteArray) (i : Nat) : ByteArray := cs.extract i (i + 1)
def nbFrom (cs : ByteArray) (i : Nat) : Nat := if i < cs.size then (if isBlankS (chOf cs i) then nbFrom cs (i + 1) else i) else cs.size
  termination_by cs.size - i
def nb (cs : ByteArray) : Nat := nbFrom cs 0
def stI (d f l : Nat) (cs : ByteArray) (ps a : Nat) : Ab := if ps ≤ nb cs then S0 d f l a else SB d f l a (some (cs.extract (nb cs) ps))
theorem stI_of (d f l : Nat) (cs : ByteArray) (ps a : Nat) : (stI d f l cs ps a).ofT = ⟨#[]⟩ ∧ (stI d f l cs ps a).plainT = false := by
  unfold stI
  split <;> exact ⟨rfl, rfl⟩
end Go.Proofs.YtlhhgenpcjjajaaGreatDoor
namespace Go.Proofs.YtlhhgenpcjjajaaGreatDoor
open Go.RowKit Go.PlainAid
structure Lk (w : World) (b : Nat) (look : ByteArray → Option ByteArray) : Prop where
  lt : b < w.heap.size
  short : ∀ key t, look key = some t → t.size ≤ 16
  run : ∀ (key : ByteArray) (w' : World), w'.heap[b]? = w.heap[b]? → (Instr.lookup 160 (.map (some b)) (.string key) true).run Tryz.prog w' = .ok (.tuple #[.agg #[.string ((look key).getD ⟨#[]⟩)], .bool (look key).isSome]) w'
theorem Lk.kept {w w' : World} {b : Nat} {look : ByteArray → Option ByteArray} {S : List Nat} (h : Lk w b look) (hk : Kept S w w') (hb : b ∉ S) : Lk w' b look :=
  ⟨Nat.lt_of_lt_of_le h.lt hk.size, h.short, fun key w'' e => h.run key w'' (e.trans (hk.block b h.lt hb))⟩
end Go.Proofs.YtlhhgenpcjjajaaGreatDoor
namespace Go.Proofs.YtlhhgenpcjjajaaGreatDoor
open Go.RowKit Go.PlainAid
open Go.ChangeMaps (setBlock)
def kvOf (e : MapEntry) : Value × Value := (e.key, e.val)
def kv (p : ByteArray × ByteArray) : Value × Value := (.string p.1, .agg #[.string p.2])
structure Mp (w : World) (b : Nat) (L : List (ByteArray × ByteArray)) (es : Array MapEntry) (clock : Nat) : Prop where
  at_ : w.heap[b]? = some (.map es clock)
  kvs : es.toList.map kvOf = L.map kv
  nod : (es.toList.map (·.born)).Nodup
  old : ∀ x ∈ es.toList, x.born < clock
theorem Mp.kept {w w' : World} {b : Nat} {L : List (ByteArray × ByteArray)} {es : Array MapEntry} {clock : Nat} {S : List Nat} (h : Mp w b L es clock) (hk : Kept S w w') (hb : b ∉ S) : Mp w' b L es clock := ⟨hk.at h.at_ hb, h.kvs, h.nod, h.old⟩
theorem find_no (k : ByteArray) : ∀ (es : List MapEntry) (L : List (ByteArray × ByteArray)) (i : Nat), es.map kvOf = L.map kv → L.all (fun p => !(k == p.1)) = true → Instr.findNow .string (.string k) es i = some none
  | [], _, _, _, _ => rfl
  | e :: es, [], _, h, _ => by simp at h
  | e :: es, p :: L, i, h, hn => by
    simp only [List.map_cons, List.cons.injEq] at h
    simp only [List.all_cons, Bool.and_eq_true] at hn
    have hk : e.key = .string p.1 := congrArg Prod.fst h.1
    have hf : (k == p.1) = false := by simpa using hn.1
    unfold Instr.findNow
    simp only [hk, Instr.sameNow, hf]
    exact find_no k es L (i + 1) h.2 hn.2
theorem find_yes (k : ByteArray) : ∀ (es : List MapEntry) (L : List (ByteArray × ByteArray)) (i : Nat) (p : ByteArray × ByteArray), es.map kvOf = L.map kv → L.find? (fun p => k == p.1) = some p → ∃ j, Instr.findNow .string (.string k) es i = some (some (j, .agg #[.string p.2]))
  | [], [], _, _, _, h => by simp at h
  | [], _ :: _, _, _, h, _ => by simp at h
  | e :: es, [], _, _, h, _ => by simp at h
  | e :: es, q :: L, i, p, h, hp => by
    simp only [List.map_cons, List.cons.injEq] at h
    have hk : e.key = .string q.1 := congrArg Prod.fst h.1
    have hv : e.val = .agg #[.string q.2] := congrArg Prod.snd h.1
    unfold Instr.findNow
    cases hf : (k == q.1)
    · simp only [hk, Instr.sameNow, hf]
      rw [List.find?_cons, hf] at hp
      exact find_yes k es L (i + 1) p h.2 hp
    · simp only [hk, Instr.sameNow, hf]
      rw [List.find?_cons, hf] at hp
      obtain rfl := Option.some.inj hp
      exact ⟨i, by rw [hv]⟩
theorem kept_setBlock {S : List Nat} {a w : World} (h : Kept S a w) {b : Nat} (hb : b ∈ S ∨ a.heap.size ≤ b) (o : Obj) : Kept S a (setBlock w b o) :=
  ⟨h.os, h.tape, h.output, by show a.heap.size ≤ (w.heap.setIfInBounds b o).size; rw [Array.size_setIfInBounds]; exact h.size, fun k hk hs => by
    show (w.heap.setIfInBounds b o)[k]? = _
    rw [Array.getElem?_setIfInBounds_ne (by rintro rfl; rcases hb with hb | hb; exact hs hb; omega)]
    exact h.block k hk hs⟩
theorem setBlock_at {w : World} {b : Nat} (h : b < w.heap.size) (o : Obj) : (setBlock w b o).heap[b]? = some o := by
  show (w.heap.setIfInBounds b o)[b]? = _
  rw [Array.getElem?_setIfInBounds]; simp [h]
theorem run_put {w : World} {b : Nat} {L : List (ByteArray × ByteArray)} {es : Array MapEntry} {clock : Nat} (h : Mp w b L es clock) (k t : ByteArray) (hn : L.all (fun p => !(k == p.1)) = true) :
    ∃ w' es' clock', (Instr.mapUpdate 160 (.map (some b)) (.string k) (.agg #[.string t])).run Tryz.prog w = .ok () w' ∧ Mp w' b (L ++ [(k, t)]) es' clock' ∧ Kept [b] w w' ∧ w'.heap.size = w.heap.size := by
  have hl := lt_of_block h.at_
  refine ⟨setBlock w b (.map (es.push { key := .string k, val := .agg #[.string t], born := clock }) (clock + 1)), _, _, ?_, ⟨setBlock_at hl _, ?_, ?_, ?_⟩, kept_setBlock (Kept.refl _ _) (.inl (by simp)) _, ?_⟩
  · have hf := find_no k es.toList L 0 h.kvs hn
    have hu : (underlying 9).run Tryz.prog w = .ok .string w := run_underlying Tryz.underlying9 _
    have hc : (Instr.checkKey false 10000 9 (.string k)).run Tryz.prog w = .ok () w := by
      unfold Instr.checkKey
      simp [hu]
    simp [Instr.mapUpdate, run_underlying Tryz.underlying160, MapKept.run_getObj_map h.at_, hc, Instr.findKey, hu, hf, setObj, Sem.run, h.at_, setBlock, Result.andThen]
  · simp [h.kvs, kvOf, kv]
  · simp only [Array.toList_push, List.map_append, List.map_cons, List.map_nil]
    rw [List.nodup_append]
    refine ⟨h.nod, by simp, ?_⟩
    intro x hx y hy e
    obtain ⟨z, hz, rfl⟩ := List.mem_map.1 hx
    have := h.old z hz
    simp at hy
    omega
  · intro x hx
    simp only [Array.toList_push, List.mem_append, List.mem_singleton] at hx
    rcases hx with hx | rfl
    · have := h.old x hx; omega
    · exact Nat.lt_succ_self _
  · show (w.heap.setIfInBounds b _).size = _; simp
def lookL (L : List (ByteArray × ByteArray)) (k : ByteArray) : Option ByteArray := (L.find? (fun p => k == p.1)).map (·.2)
theorem zero_meaning (w : World) : (zeroValue 207).run Tryz.prog w = .ok (.agg #[.string ⟨#[]⟩]) w := by
  have h : (Tryz.prog.info? 207).bind (·.zero) = some (.agg #[.string ⟨#[]⟩]) := by kernel_rfl
  obtain ⟨i, hi, hz⟩ := Option.bind_eq_some_iff.1 h
  simp [zeroValue, typeInfo, hi, hz]
theorem Mp.lk {w : World} {b : Nat} {L : List (ByteArray × ByteArray)} {es : Array MapEntry} {clock : Nat} (h : Mp w b L es clock) (hs : L.all (fun p => decide (p.2.size ≤ 16)) = true) : Lk w b (lookL L) where
  lt := lt_of_block h.at_
  short k t ht := by
    unfold lookL at ht
    obtain ⟨p, hp, rfl⟩ := Option.map_eq_some_iff.1 ht
    have := List.all_eq_true.1 hs p (List.mem_of_find?_eq_some hp)
    simpa using this
  run k w' e := by
    have ha : w'.heap[b]? = some (.map es clock) := e.trans h.at_
    have hu : (underlying 9).run Tryz.prog w' = .ok .string w' := run_underlying Tryz.underlying9 _
    have hc : ∀ x, (Instr.checkKey x 10000 9 (.string k)).run Tryz.prog w' = .ok () w' := fun x => by
      unfold Instr.checkKey
      simp [hu]
    cases hf : L.find? (fun p => k == p.1) with
    | none =>
      have hn : L.all (fun p => !(k == p.1)) = true := by
        rw [List.all_eq_true]; intro p hp
        have := List.find?_eq_none.1 hf p hp
        simpa using this
      have h1 := find_no k es.toList L 0 h.kvs hn
      have h2 : lookL L k = none := by unfold lookL; rw [hf]; rfl
      rw [h2]
      simp [Instr.lookup, run_underlying Tryz.underlying160, MapKept.run_getObj_map ha, hc, Instr.findKey, hu, h1, zero_meaning, Result.andThen]
    | some p =>
      obtain ⟨j, h1⟩ := find_yes k es.toList L 0 p h.kvs hf
      have h2 : lookL L k = some p.2 := by unfold lookL; rw [hf]; rfl
      rw [h2]
      simp [Instr.lookup, run_underlying Tryz.underlying160, MapKept.run_getObj_map ha, hc, Instr.findKey, hu, h1, Result.andThen]
end Go.Proofs.YtlhhgenpcjjajaaGreatDoor
namespace Go.Proofs.YtlhhgenpcjjajaaGreatDoor
open Go.RowKit Go.PlainAid
open Go.ChangeMaps (setBlock)
def kv0 : List (ByteArray × ByteArray) := [(⟨#[97, 112, 111, 115, 59]⟩, ⟨#[39]⟩), (⟨#[99, 111, 112, 121, 115, 114, 59]⟩, ⟨#[226, 132, 151]⟩), (⟨#[110, 111, 116, 105, 110, 59]⟩, ⟨#[226, 136, 137]⟩), (⟨#[110, 111, 116, 110, 105, 59]⟩, ⟨#[226, 136, 140]⟩), (⟨#[110, 111, 116, 105, 110, 69, 59]⟩, ⟨#[226, 139, 185, 204, 184]⟩), (⟨#[112, 97, 114, 59]⟩, ⟨#[226, 136, 165]⟩), (⟨#[116, 105, 109, 101, 115, 98, 59]⟩, ⟨#[226, 138, 160]⟩), (⟨#[98, 110, 101, 59]⟩, ⟨#[61, 226, 131, 165]⟩), (⟨#[84, 97, 98, 59]⟩, ⟨#[9]⟩), (⟨#[78, 101, 119, 76, 105, 110, 101, 59]⟩, ⟨#[10]⟩)]
def nrows : List (ByteArray × ByteArray) := [(⟨#[65, 77, 80]⟩, ⟨#[38]⟩), (⟨#[97, 109, 112]⟩, ⟨#[38]⟩), (⟨#[108, 116]⟩, ⟨#[60]⟩), (⟨#[103, 116]⟩, ⟨#[62]⟩), (⟨#[113, 117, 111, 116]⟩, ⟨#[34]⟩), (⟨#[110, 98, 115, 112]⟩, ⟨#[194, 160]⟩), (⟨#[99, 111, 112, 121]⟩, ⟨#[194, 169]⟩), (⟨#[110, 111, 116]⟩, ⟨#[194, 172]⟩), (⟨#[112, 97, 114, 97]⟩, ⟨#[194, 182]⟩), (⟨#[116, 105, 109, 101, 115]⟩, ⟨#[195, 151]⟩)]
def kvj (j : Nat) : List (ByteArray × ByteArray) := kv0 ++ (nrows.take j).flatMap fun p => [(p.1, p.2), (p.1 ++ ⟨#[59]⟩, p.2)]
def nrow (j : Nat) : ByteArray × ByteArray := nrows.getD j (⟨#[]⟩, ⟨#[]⟩)
def rowCells : Array Value := #[.string ⟨#[65, 77, 80]⟩, .string ⟨#[38]⟩, .string ⟨#[97, 109, 112]⟩, .string ⟨#[38]⟩, .string ⟨#[108, 116]⟩, .string ⟨#[60]⟩, .string ⟨#[103, 116]⟩, .string ⟨#[62]⟩, .string ⟨#[113, 117, 111, 116]⟩, .string ⟨#[34]⟩, .string ⟨#[110, 98, 115, 112]⟩, .string ⟨#[194, 160]⟩, .string ⟨#[99, 111, 112, 121]⟩, .string ⟨#[194, 169]⟩, .string ⟨#[110, 111, 116]⟩, .string ⟨#[194, 172]⟩, .string ⟨#[112, 97, 114, 97]⟩, .string ⟨#[194, 182]⟩, .string ⟨#[116, 105, 109, 101, 115]⟩, .string ⟨#[195, 151]⟩]
def rowsNew : Bool := (List.range 10).all fun j => (kvj j).all (fun p => !((nrow j).1 == p.1)) && (kvj j ++ [nrow j]).all (fun p => !(((nrow j).1 ++ ⟨#[59]⟩) == p.1)) && decide ((nrow j).1.size ≤ 8)
theorem rows_new : rowsNew = true := by kernel_rfl
theorem row_new {j : Nat} (h : j < 10) : (kvj j).all (fun p => !((nrow j).1 == p.1)) = true ∧ (kvj j ++ [nrow j]).all (fun p => !(((nrow j).1 ++ ⟨#[59]⟩) == p.1)) = true ∧ (nrow j).1.size ≤ 8 := by
  have := List.all_eq_true.1 rows_new j (List.mem_range.2 h)
  simp only [Bool.and_eq_true, decide_eq_true_eq] at this
  exact ⟨this.1.1, this.1.2, this.2⟩
theorem row_cells {j : Nat} (h : j < 10) : rowCells[j * 2]? = some (.string (nrow j).1) ∧ rowCells[j * 2 + 1]? = some (.string (nrow j).2) := by
  rcases (by omega : j = 0 ∨ j = 1 ∨ j = 2 ∨ j = 3 ∨ j = 4 ∨ j = 5 ∨ j = 6 ∨ j = 7 ∨ j = 8 ∨ j = 9) with rfl | rfl | rfl | rfl | rfl | rfl | rfl | rfl | rfl | rfl <;> exact ⟨rfl, rfl⟩
theorem kvj_succ {j : Nat} (h : j < 10) : kvj (j + 1) = kvj j ++ [nrow j] ++ [((nrow j).1 ++ ⟨#[59]⟩, (nrow j).2)] := by
  rcases (by omega : j = 0 ∨ j = 1 ∨ j = 2 ∨ j = 3 ∨ j = 4 ∨ j = 5 ∨ j = 6 ∨ j = 7 ∨ j = 8 ∨ j = 9) with rfl | rfl | rfl | rfl | rfl | rfl | rfl | rfl | rfl | rfl <;> rfl
def KV : List (ByteArray × ByteArray) := kvj 10
theorem KV_short : KV.all (fun p => decide (p.2.size ≤ 16)) = true := by kernel_rfl
theorem KV_keys : KV.all (fun p => decide (p.1.size ≤ 8)) = true := by kernel_rfl
theorem KV_eight : KV.any (fun p => decide (p.1.size = 8)) = true := by kernel_rfl
theorem ten_put (w0 : World) (b : Nat) (h0 : Mp w0 b [] #[] 0) : ∃ w1 w2 w3 w4 w5 w6 w7 w8 w9 w10 : World, (Instr.mapUpdate 160 (.map (some b)) (.string ⟨#[97, 112, 111, 115, 59]⟩) (.agg #[.string ⟨#[39]⟩])).run Tryz.prog w0 = .ok () w1 ∧ (Instr.mapUpdate 160 (.map (some b)) (.string ⟨#[99, 111, 112, 121, 115, 114, 59]⟩) (.agg #[.string ⟨#[226, 132, 151]⟩])).run Tryz.prog w1 = .ok () w2 ∧ (Instr.mapUpdate 160 (.map (some b)) (.string ⟨#[110, 111, 116, 105, 110, 59]⟩) (.agg #[.string ⟨#[226, 136, 137]⟩])).run Tryz.prog w2 = .ok () w3 ∧ (Instr.mapUpdate 160 (.map (some b)) (.string ⟨#[110, 111, 116, 110, 105, 59]⟩) (.agg #[.string ⟨#[226, 136, 140]⟩])).run Tryz.prog w3 = .ok () w4 ∧ (Instr.mapUpdate 160 (.map (some b)) (.string ⟨#[110, 111, 116, 105, 110, 69, 59]⟩) (.agg #[.string ⟨#[226, 139, 185, 204, 184]⟩])).run Tryz.prog w4 = .ok () w5 ∧ (Instr.mapUpdate 160 (.map (some b)) (.string ⟨#[112, 97, 114, 59]⟩) (.agg #[.string ⟨#[226, 136, 165]⟩])).run Tryz.prog w5 = .ok () w6 ∧ (Instr.mapUpdate 160 (.map (some b)) (.string ⟨#[116, 105, 109, 101, 115, 98, 59]⟩) (.agg #[.string ⟨#[226, 138, 160]⟩])).run Tryz.prog w6 = .ok () w7 ∧ (Instr.mapUpdate 160 (.map (some b)) (.string ⟨#[98, 110, 101, 59]⟩) (.agg #[.string ⟨#[61, 226, 131, 165]⟩])).run Tryz.prog w7 = .ok () w8 ∧ (Instr.mapUpdate 160 (.map (some b)) (.string ⟨#[84, 97, 98, 59]⟩) (.agg #[.string ⟨#[9]⟩])).run Tryz.prog w8 = .ok () w9 ∧ (Instr.mapUpdate 160 (.map (some b)) (.string ⟨#[78, 101, 119, 76, 105, 110, 101, 59]⟩) (.agg #[.string ⟨#[10]⟩])).run Tryz.prog w9 = .ok () w10 ∧ (∃ es clock, Mp w10 b kv0 es clock) ∧ Kept [b] w0 w10 ∧ w10.heap.size = w0.heap.size := by
  obtain ⟨w1, es1, c1, r1, m1, k1, z1⟩ := run_put (w := w0) h0 ⟨#[97, 112, 111, 115, 59]⟩ ⟨#[39]⟩ (by kernel_rfl)
  obtain ⟨w2, es2, c2, r2, m2, k2, z2⟩ := run_put (w := w1) m1 ⟨#[99, 111, 112, 121, 115, 114, 59]⟩ ⟨#[226, 132, 151]⟩ (by kernel_rfl)
  obtain ⟨w3, es3, c3, r3, m3, k3, z3⟩ := run_put (w := w2) m2 ⟨#[110, 111, 116, 105, 110, 59]⟩ ⟨#[226, 136, 137]⟩ (by kernel_rfl)
  obtain ⟨w4, es4, c4, r4, m4, k4, z4⟩ := run_put (w := w3) m3 ⟨#[110, 111, 116, 110, 105, 59]⟩ ⟨#[226, 136, 140]⟩ (by kernel_rfl)
  obtain ⟨w5, es5, c5, r5, m5, k5, z5⟩ := run_put (w := w4) m4 ⟨#[110, 111, 116, 105, 110, 69, 59]⟩ ⟨#[226, 139, 185, 204, 184]⟩ (by kernel_rfl)
  obtain ⟨w6, es6, c6, r6, m6, k6, z6⟩ := run_put (w := w5) m5 ⟨#[112, 97, 114, 59]⟩ ⟨#[226, 136, 165]⟩ (by kernel_rfl)
  obtain ⟨w7, es7, c7, r7, m7, k7, z7⟩ := run_put (w := w6) m6 ⟨#[116, 105, 109, 101, 115, 98, 59]⟩ ⟨#[226, 138, 160]⟩ (by kernel_rfl)
  obtain ⟨w8, es8, c8, r8, m8, k8, z8⟩ := run_put (w := w7) m7 ⟨#[98, 110, 101, 59]⟩ ⟨#[61, 226, 131, 165]⟩ (by kernel_rfl)
  obtain ⟨w9, es9, c9, r9, m9, k9, z9⟩ := run_put (w := w8) m8 ⟨#[84, 97, 98, 59]⟩ ⟨#[9]⟩ (by kernel_rfl)
  obtain ⟨w10, es10, c10, r10, m10, k10, z10⟩ := run_put (w := w9) m9 ⟨#[78, 101, 119, 76, 105, 110, 101, 59]⟩ ⟨#[10]⟩ (by kernel_rfl)
  exact ⟨w1, w2, w3, w4, w5, w6, w7, w8, w9, w10, r1, r2, r3, r4, r5, r6, r7, r8, r9, r10, ⟨_, _, m10⟩, (((((((((k1).trans k2).trans k3).trans k4).trans k5).trans k6).trans k7).trans k8).trans k9).trans k10, by omega⟩
def New1 (w : World) (nb bm j : Nat) (wr : World) : Prop :=
  (∃ es ck, Mp wr bm (kvj j) es ck) ∧ wr.heap[nb]? = some (.cells #[.map (some bm), .int .i64 0] 162 (0, 0)) ∧ wr.heap[nb + 1]? = some (.cells rowCells 208 (0, 0)) ∧ wr.heap[w.heap.size]? = some (.cells #[.map none, .int .i64 0] 162 (0, 0)) ∧ Kept [] w wr
def keySize : Value → Nat
  | .string k => k.size
  | _ => 0
structure New2 (w : World) (nb bm it : Nat) (es : Array MapEntry) (ck : Nat) (wr : World) (seen : Array Nat) (c0 M : Nat) : Prop where
  iter : wr.heap[it]? = some (.mapIter (some bm) ck seen c0)
  late : ck ≤ c0
  mp : Mp wr bm KV es ck
  nam : wr.heap[nb]? = some (.cells #[.map (some bm), .int .i64 (M : Int)] 162 (0, 0))
  res : wr.heap[w.heap.size]? = some (.cells #[.map none, .int .i64 0] 162 (0, 0))
  le : M ≤ 8
  big : ∀ e ∈ es.toList, seen.contains e.born = true → keySize e.key ≤ M
  kept : Kept [] w wr
  size : it < wr.heap.size
theorem key_of {es : Array MapEntry} {L : List (ByteArray × ByteArray)} (h : es.toList.map kvOf = L.map kv) {e : MapEntry} (he : e ∈ es.toList) : ∃ p ∈ L, e.key = .string p.1 := by
  have : kvOf e ∈ L.map kv := by rw [← h]; exact List.mem_map.2 ⟨e, he, rfl⟩
  obtain ⟨p, hp, e1⟩ := List.mem_map.1 this
  exact ⟨p, hp, (congrArg Prod.fst e1).symm⟩
theorem entry_of {es : Array MapEntry} {L : List (ByteArray × ByteArray)} (h : es.toList.map kvOf = L.map kv) {p : ByteArray × ByteArray} (hp : p ∈ L) : ∃ e ∈ es.toList, e.key = .string p.1 := by
  have : kv p ∈ es.toList.map kvOf := by rw [h]; exact List.mem_map.2 ⟨p, hp, rfl⟩
  obtain ⟨e, he, e1⟩ := List.mem_map.1 this
  exact ⟨e, he, congrArg Prod.fst e1⟩
set_option maxRecDepth 100000 in
set_option maxHeartbeats 2000000 in
theorem refsNew_any (w : World) :
    Calls Tryz.prog 67 #[] w fun e w' => ∃ b, e = .returned (.agg #[.map (some b), .int .i64 8]) ∧ w.heap.size ≤ b ∧ Lk w' b (lookL KV) ∧ Kept [] w w' := by
  obtain ⟨wa, hwa⟩ : ∃ wa, wa = w.alloc (.cells #[.map none, .int .i64 0] 162) := ⟨_, rfl⟩
  have za : wa.heap.size = w.heap.size + 1 := by rw [hwa]; simp
  obtain ⟨wb, hwb⟩ : ∃ wb, wb = wa.alloc (.map #[] 0) := ⟨_, rfl⟩
  have ka : Kept [] w wa := by rw [hwa]; exact (Kept.refl _ _).alloc _
  have kb : Kept [] wa wb := by rw [hwb]; exact (Kept.refl _ _).alloc _
  have hA : wa.heap[w.heap.size]? = some (.cells #[.map none, .int .i64 0] 162 (0, 0)) := by rw [hwa]; exact heap_alloc_at w _
  have hM0 : Mp wb wa.heap.size [] #[] 0 := ⟨by rw [hwb]; exact heap_alloc_at wa _, rfl, by simp, by simp⟩
  have zb : wb.heap.size = wa.heap.size + 1 := by rw [hwb]; simp
  obtain ⟨w1, w2, w3, w4, w5, w6, w7, w8, w9, w10, r1, r2, r3, r4, r5, r6, r7, r8, r9, r10, ⟨es, ck, m10⟩, k10, z10⟩ := ten_put wb wa.heap.size hM0
  have hmk : (Instr.makeMap 160 none).run Tryz.prog wa = .ok (.map (some wa.heap.size)) wb := by rw [hwb]; rfl
  have HWA := hide hwa.symm
  have HWB := hide hwb.symm
  have HM := hide m10
  have HK := hide (show Kept [] w w10 from ((ka.trans kb).next k10 (by simp; omega)))
  have HA := hide (show w10.heap[w.heap.size]? = _ from k10.at (kb.at hA (by simp)) (by simp; omega))
  have Hz := hide (show w10.heap.size = w.heap.size + 2 by omega)
  have Hza := hide za
  clear hwa hwb ka kb hA hM0 zb k10 m10 za z10
  go_enter Tryz.func67, Tryz.ntmps67
  go_wp2_with fail
  rw [HWA.out, hmk]
  clear hmk HWA HWB
  go_wp2_with fail
  obtain ⟨W, hW⟩ : ∃ W, W = (w10.alloc (.cells #[.map (some wa.heap.size), .int .i64 0] 162)).alloc (.cells rowCells 208) := ⟨_, rfl⟩
  have kW : Kept [] w10 W := by rw [hW]; exact ((Kept.refl _ _).alloc _).alloc _
  have hN : W.heap[w10.heap.size]? = some (.cells #[.map (some wa.heap.size), .int .i64 0] 162 (0, 0)) := by
    rw [hW, Below.heap_alloc _ _ _ (by simp)]; exact heap_alloc_at w10 _
  have hG : W.heap[w10.heap.size + 1]? = some (.cells rowCells 208 (0, 0)) := by
    have := heap_alloc_at (w10.alloc (.cells #[.map (some wa.heap.size), .int .i64 0] 162)) (.cells rowCells 208)
    rw [hW]; simpa using this
  have HS : Hid (New1 w w10.heap.size wa.heap.size 0 W) := ⟨⟨es, ck, HM.out.kept kW (by simp)⟩, hN, hG, kW.at HA.out (by simp), HK.out.trans kW⟩
  have hrc : rowCells = #[.string ⟨#[65, 77, 80]⟩, .string ⟨#[38]⟩, .string ⟨#[97, 109, 112]⟩, .string ⟨#[38]⟩, .string ⟨#[108, 116]⟩, .string ⟨#[60]⟩, .string ⟨#[103, 116]⟩, .string ⟨#[62]⟩, .string ⟨#[113, 117, 111, 116]⟩, .string ⟨#[34]⟩, .string ⟨#[110, 98, 115, 112]⟩, .string ⟨#[194, 160]⟩, .string ⟨#[99, 111, 112, 121]⟩, .string ⟨#[194, 169]⟩, .string ⟨#[110, 111, 116]⟩, .string ⟨#[194, 172]⟩, .string ⟨#[112, 97, 114, 97]⟩, .string ⟨#[194, 182]⟩, .string ⟨#[116, 105, 109, 101, 115]⟩, .string ⟨#[195, 151]⟩] := rfl
  rw [hrc] at hW
  rw [← hW]
  clear hW kW hN hG hrc HM HK HA r1 r2 r3 r4 r5 r6 r7 r8 r9 r10
  go_loopw [30] (fun v wr => ∃ j : Nat, v = .int .i64 j ∧ j ≤ 10 ∧ New1 w w10.heap.size wa.heap.size j wr) (fun v _ => 10 - (intOf v).toNat)
  case atStart => exact ⟨0, rfl, by omega, HS.out⟩
  case round =>
    obtain ⟨j, rfl, hj, h1⟩ := hrel
    by_cases hlt : j < 10
    · obtain ⟨⟨es1, ck1, mp1⟩, hN, hG, hR, hk⟩ := h1
      have rc := row_cells hlt
      have x0 : wr.cell? ⟨w10.heap.size + 1, j * 2, none⟩ = some (.string (nrow j).1) := by rw [cell_at hG]; exact rc.1
      have x1 : wr.cell? ⟨w10.heap.size + 1, j * 2 + 1, none⟩ = some (.string (nrow j).2) := by rw [cell_at hG]; exact rc.2
      obtain ⟨n1, n2, n3⟩ := row_new hlt
      have ks := kvj_succ hlt
      generalize hn : (nrow j).1 = nm at *
      generalize ht : (nrow j).2 = tx at *
      have hnt : nrow j = (nm, tx) := by rw [← hn, ← ht]
      rw [hnt] at n2 ks
      clear hn ht hnt
      obtain ⟨W1, hW1⟩ : ∃ W1, W1 = wr.alloc (.cells #[.string nm, .string tx] 208) := ⟨_, rfl⟩
      have kk : Kept [] wr W1 := by rw [hW1]; exact (Kept.refl _ _).alloc _
      have hX : W1.heap[wr.heap.size]? = some (.cells #[.string nm, .string tx] 208 (0, 0)) := by rw [hW1]; exact heap_alloc_at wr _
      obtain ⟨W2, es2, ck2, ru2, mp2, k2, s2⟩ := run_put (mp1.kept kk (by simp)) nm tx n1
      obtain ⟨W3, es3, ck3, ru3, mp3, k3, s3⟩ := run_put mp2 (nm ++ ⟨#[59]⟩) tx n2
      have hlb := lt_of_block mp1.at_
      have hlN := lt_of_block hN
      have bN : wa.heap.size ≠ w10.heap.size := fun e => by rw [← e, mp1.at_] at hN; simp at hN
      have bG : wa.heap.size ≠ w10.heap.size + 1 := fun e => by rw [← e, mp1.at_] at hG; simp at hG
      have bR : wa.heap.size ≠ w.heap.size := fun e => by rw [← e, mp1.at_] at hR; simp at hR
      have hN1 := kk.at hN (by simp)
      have hN2 := k2.at hN1 (by simp; exact fun e => bN e.symm)
      have hX2 := k2.at hX (by simp; omega)
      have a0 : wr.cell? ⟨w10.heap.size, 0, none⟩ = some (.map (some wa.heap.size)) := by rw [cell_at hN]; rfl
      have a1 : W1.cell? ⟨w10.heap.size, 0, none⟩ = some (.map (some wa.heap.size)) := by rw [cell_at hN1]; rfl
      have a2 : W2.cell? ⟨w10.heap.size, 0, none⟩ = some (.map (some wa.heap.size)) := by rw [cell_at hN2]; rfl
      have y0 : W1.cell? ⟨wr.heap.size, 0, none⟩ = some (.string nm) := by rw [cell_at hX]; rfl
      have y1 : W1.cell? ⟨wr.heap.size, 1, none⟩ = some (.string tx) := by rw [cell_at hX]; rfl
      have z0 : W2.cell? ⟨wr.heap.size, 0, none⟩ = some (.string nm) := by rw [cell_at hX2]; rfl
      have z1 : W2.cell? ⟨wr.heap.size, 1, none⟩ = some (.string tx) := by rw [cell_at hX2]; rfl
      have HE : Hid (New1 w w10.heap.size wa.heap.size (j + 1) W3) := by
        refine ⟨⟨es3, ck3, by rw [ks]; exact mp3⟩, k3.at hN2 (by simp; exact fun e => bN e.symm), k3.at (k2.at (kk.at hG (by simp)) (by simp; exact fun e => bG e.symm)) (by simp; exact fun e => bG e.symm), k3.at (k2.at (kk.at hR (by simp)) (by simp; exact fun e => bR e.symm)) (by simp; exact fun e => bR e.symm), ?_⟩
        have hwl := Hza.out
        exact ((hk.trans kk).next k2 (by simp; omega)).next k3 (by simp; omega)
      rw [hW1] at ru2
      clear a1 y0 y1 mp1 hN hG hR hk rc n1 n2 ks kk hX mp2 k2 s2 mp3 k3 s3 hN1 hN2 hX2 bN bG bR hlb
      clear hW1
      go_wp2
      go_roundw
      case rel => exact ⟨j + 1, by go_num, by omega, HE.out⟩
      case measure => simp [intOf]; omega
    · have e10 : j = 10 := by omega
      subst e10
      obtain ⟨⟨es1, ck1, mp1⟩, hN, hG, hR, hk⟩ := h1
      have a0 : wr.cell? ⟨w10.heap.size, 0, none⟩ = some (.map (some wa.heap.size)) := by rw [cell_at hN]; rfl
      have hrg := run_range_map (P := Tryz.prog) wr 160 9 207 wa.heap.size es1 ck1 Tryz.underlying160 mp1.at_
      have ki : Kept [] wr (wr.alloc (.mapIter (some wa.heap.size) ck1 #[] ck1)) := (Kept.refl _ _).alloc _
      have HS2 : Hid (New2 w w10.heap.size wa.heap.size wr.heap.size es1 ck1 (wr.alloc (.mapIter (some wa.heap.size) ck1 #[] ck1)) #[] ck1 0) :=
        ⟨heap_alloc_at wr _, Nat.le_refl _, mp1.kept ki (by simp), ki.at hN (by simp), ki.at hR (by simp), by omega, by simp, hk.trans ki, by simp⟩
      have bI : w10.heap.size ≠ wr.heap.size := by have := lt_of_block hN; omega
      have bR : w.heap.size ≠ wr.heap.size := by have := lt_of_block hR; omega
      have bM : wa.heap.size ≠ wr.heap.size := by have := lt_of_block mp1.at_; omega
      have bRN : w.heap.size ≠ w10.heap.size := by have := Hz.out; omega
      have bNM : w10.heap.size ≠ wa.heap.size := by have := Hz.out; have := Hza.out; omega
      have HIT := hide (show w.heap.size ≤ wr.heap.size from hk.size)
      have Hb := hide (And.intro bI (And.intro bR (And.intro bM (And.intro bRN bNM))))
      clear mp1 hN hG hR hk ki bI bR bM bRN bNM
      go_wp2_with fail
      clear hrg a0
      obtain ⟨it, hit⟩ : ∃ it, it = wr.heap.size := ⟨_, rfl⟩
      rw [← hit] at HS2 Hb HIT ⊢
      clear hit
      go_loopw [] (fun wq => ∃ seen c0 M, New2 w w10.heap.size wa.heap.size it es1 ck1 wq seen c0 M) (fun wq => (leftOf es1 (wq.iterSeen it)).size)
      case atStart => exact ⟨_, _, _, HS2.out⟩
      case round =>
        obtain ⟨seen, c0, M, h2⟩ := hrel
        obtain ⟨bI, bR, bM, bRN, bNM⟩ := Hb.out
        have hseen : wr.iterSeen it = seen := by unfold World.iterSeen; rw [h2.iter]
        rcases run_next_at (P := Tryz.prog) wr 0 it wa.heap.size ck1 c0 seen es1 ck1 h2.iter h2.mp.at_ h2.mp.old h2.late with ⟨h0, hrun⟩ | ⟨en, hen, wv, hwv, hrun⟩
        · have hM : M = 8 := by
            have h8 := KV_eight
            rw [List.any_eq_true] at h8
            obtain ⟨p, hp, hp8⟩ := h8
            obtain ⟨e, he, hk⟩ := entry_of h2.mp.kvs hp
            have h9 := h2.big e he (all_seen es1 seen h0 e he)
            rw [hk] at h9
            have h10 : p.1.size = 8 := by simpa using hp8
            have h11 : p.1.size ≤ M := h9
            have := h2.le
            omega
          subst hM
          have n0 : wr.cell? ⟨w10.heap.size, 0, none⟩ = some (.map (some wa.heap.size)) := by rw [cell_at h2.nam]; rfl
          have n1 : wr.cell? ⟨w10.heap.size, 1, none⟩ = some (.int .i64 8) := by rw [cell_at h2.nam]; rfl
          have d0 : wr.cell? ⟨w.heap.size, 0, none⟩ = some (.map none) := by rw [cell_at h2.res]; rfl
          have d1 : wr.cell? ⟨w.heap.size, 1, none⟩ = some (.int .i64 0) := by rw [cell_at h2.res]; rfl
          have f0 := free_at h2.res 0
          have f1 := free_at h2.res 1
          have k1 : Kept [] w ((wr.setCell ⟨w.heap.size, 0, none⟩ (.map (some wa.heap.size))).setCell ⟨w.heap.size, 1, none⟩ (.int .i64 8)) := (h2.kept.setCell (.inr (Nat.le_refl _)) _).setCell (.inr (Nat.le_refl _)) _
          have kr : Kept [w.heap.size] wr ((wr.setCell ⟨w.heap.size, 0, none⟩ (.map (some wa.heap.size))).setCell ⟨w.heap.size, 1, none⟩ (.int .i64 8)) := ((Kept.refl _ _).setCell (.inl (by simp)) _).setCell (.inl (by simp)) _
          have HK := hide k1
          have HL := hide (((h2.mp.kept kr (by simp; have := Hza.out; omega)).lk KV_short))
          have hle : w.heap.size ≤ wa.heap.size := by have := Hza.out; omega
          clear h2 hseen h0 k1 kr bI bR bM bRN bNM
          go_wp2
          refine bodyPost_ret (v := .agg #[.map (some wa.heap.size), .int .i64 8]) ?_ rfl ⟨_, rfl, hle, HL.out, HK.out⟩
          simp [results, Tryz.results67, asAddr, Result.andThen, go_sem, d0, d1]
        · obtain ⟨he1, he2⟩ := mem_left hen
          obtain ⟨p, hp, hkey⟩ := key_of h2.mp.kvs he1
          have hp8 : p.1.size ≤ 8 := by
            have := List.all_eq_true.1 KV_keys p hp
            simpa using this
          have hshr := left_shrinks es1 seen en hen
          obtain ⟨wz, hwz⟩ : ∃ wz, wz = setBlock wv it (.mapIter (some wa.heap.size) ck1 (seen.push en.born) ck1) := ⟨_, rfl⟩
          rw [← hwz, hkey] at hrun
          have kv1 : Kept [] wr wv := by rcases hwv with rfl | rfl; exact Kept.refl _ _; exact (Kept.refl _ _).drew
          have kz : Kept [it] wv wz := by rw [hwz]; exact kept_setBlock (Kept.refl _ _) (.inl (by simp)) _
          have iz : wz.heap[it]? = some (.mapIter (some wa.heap.size) ck1 (seen.push en.born) ck1) := by rw [hwz]; exact setBlock_at (Nat.lt_of_lt_of_le h2.size kv1.size) _
          have mz := (h2.mp.kept kv1 (by simp)).kept kz (by simpa using bM)
          have nz := kz.at (kv1.at h2.nam (by simp)) (by simpa using bI)
          have rz := kz.at (kv1.at h2.res (by simp)) (by simpa using bR)
          have hent := run_entry_at (P := Tryz.prog) wz it wa.heap.size ck1 seen es1 ck1 en iz mz.at_ he1 mz.nod
          rw [hkey] at hent
          have n1 : wz.cell? ⟨w10.heap.size, 1, none⟩ = some (.int .i64 (M : Int)) := by rw [cell_at nz]; rfl
          have f1 := free_at nz 1
          have hmx : max (M : Int) (p.1.size : Int) = ((max M p.1.size : Nat) : Int) := by omega
          have ks : Kept [w10.heap.size] wz (wz.setCell ⟨w10.heap.size, 1, none⟩ (.int .i64 ((max M p.1.size : Nat) : Int))) := (Kept.refl _ _).setCell (.inl (by simp)) _
          have nbl := block_setCell nz 1 (.int .i64 ((max M p.1.size : Nat) : Int))
          have HE : Hid (New2 w w10.heap.size wa.heap.size it es1 ck1 (wz.setCell ⟨w10.heap.size, 1, none⟩ (.int .i64 ((max M p.1.size : Nat) : Int))) (seen.push en.born) ck1 (max M p.1.size)) := by
            refine ⟨ks.at iz (by simpa using fun e => bI e.symm), Nat.le_refl _, mz.kept ks (by simpa using fun e => bNM e.symm), nbl, ks.at rz (by simpa using bRN), by have := h2.le; omega, ?_, ?_, ?_⟩
            · intro e he hc
              rw [contains_push] at hc
              rcases Bool.or_eq_true_iff.1 hc with h | h
              · have := h2.big e he h; omega
              · have e1 : e.born = en.born := by simpa using h
                have e2 : e = en := by
                  have q1 := find_born e es1.toList h2.mp.nod he
                  have q2 := find_born en es1.toList h2.mp.nod he1
                  rw [e1, q2] at q1
                  exact (Option.some.inj q1).symm
                rw [e2, hkey]; show p.1.size ≤ _; omega
            · have hz1 := Hz.out
              have hz2 := lt_of_block h2.res
              exact ((h2.kept.trans kv1).next kz (by simp; exact HIT.out)).next ks (by simp; omega)
            · exact Nat.lt_of_lt_of_le h2.size (Nat.le_trans kv1.size (Nat.le_trans kz.size ks.size))
          have hs2 : (wz.setCell ⟨w10.heap.size, 1, none⟩ (.int .i64 ((max M p.1.size : Nat) : Int))).iterSeen it = seen.push en.born := by unfold World.iterSeen; rw [HE.out.iter]
          clear h2 mz nz rz iz kv1 kz ks nbl hwz he1 he2 hen hp hkey bI bR bM bRN bNM
          generalize p.1 = key at *
          go_wp2
          go_roundw
          case rel => exact ⟨_, _, _, HE.out⟩
          case measure => rw [hs2, hseen]; exact hshr
end Go.Proofs.YtlhhgenpcjjajaaGreatDoor
