import Derived.Test.YtlhhgenpcjjajaaGreatDoorRsB
import Derived.Test.YtlhhgenpcjjajaaGreatDoorWrA
set_option linter.unusedSimpArgs false
set_option linter.unusedVariables false
namespace Go.Proofs.YtlhhgenpcjjajaaGreatDoor
open Go.RowKit
theorem Lk.map {w : World} {b : Nat} {look : ByteArray → Option ByteArray} (h : Lk w b look) : ∃ es ck, w.heap[b]? = some (Obj.map es ck) := by
  have h1 := h.run ⟨#[]⟩ w rfl
  have hu := run_underlying (w := w) (show Tryz.prog.underlying 160 = some (.map 9 207) by kernel_rfl)
  have hgen : ∀ o, w.heap[b]? = some o → (∀ c e f, o ≠ .cells c e f) → (getObj b).run Tryz.prog w = .ok o w := by
    intro o ho hc
    cases o with
    | cells c e f => exact absurd rfl (hc c e f)
    | _ => simp [getObj, Sem.run, ho]
  cases hb : w.heap[b]? with
  | none =>
    have hlt := h.lt
    rw [Array.getElem?_eq_getElem hlt] at hb
    cases hb
  | some o =>
    cases o with
    | map es ck => exact ⟨es, ck, rfl⟩
    | cells c e f =>
      exfalso
      have hg : (getObj b).run Tryz.prog w = .halt (Halt.stuck "getObj: a row of cells") w := by simp [getObj, Sem.run, hb]
      simp [Instr.lookup, hu, hg, Result.andThen] at h1
    | _ =>
      exfalso
      have hg := hgen _ hb (by intros; simp)
      simp [Instr.lookup, hu, hg, Result.andThen, Go.stuck, Sem.run] at h1
theorem Fr.map {bs : Nat} {w w' wl : World} {b : Nat} {look : ByteArray → Option ByteArray} (h : Fr bs w w') (e : w.heap[b]? = wl.heap[b]?) (hl : Lk wl b look) : w'.heap[b]? = w.heap[b]? := h.calm (.inl (by rw [e]; exact hl.map))
theorem KT.map {bs : Nat} {T : List TypeId} {w w' wl : World} {b : Nat} {look : ByteArray → Option ByteArray} (h : KT bs T w w') (e : w.heap[b]? = wl.heap[b]?) (hl : Lk wl b look) : w'.heap[b]? = w.heap[b]? := by
  obtain ⟨es, ck, hm⟩ := hl.map
  rw [← e] at hm
  obtain ⟨S, hk, hS⟩ := h
  have hlt : b < w.heap.size := (Array.getElem?_eq_some_iff.1 hm).1
  refine hk.block b hlt fun hb => ?_
  obtain ⟨⟨c, t, m, h3, _⟩, _⟩ := hS b hb hlt
  rw [hm] at h3
  cases h3
structure Run (s : ByteArray) (d f l n : Nat) (ps : Nat → Nat) (tk : Nat → ATok) (kd : Nat → Int) (st : Nat → Ab) (fin : Ab) : Prop where
  st0 : st 0 = S0 d f l 0
  ps0 : ps 0 = 0
  lt : ∀ i, i < n → ps i < ps (i + 1)
  pn : ps n = (csOf s).size
  nxt : ∀ i, i < n → NextIs s l (ps i) (ps (i + 1)) (tk i) (kd i)
  tak : ∀ i, i < n → TakeM takeS (tk i) { st i with fresh := (tk i).isTag } = .ok () (st (i + 1))
  last : TakeM takeS ⟨cutOf s (csOf s).size, cutOf s (csOf s).size, .textEnd, []⟩ { st n with fresh := false } = .ok () fin
  ofT : ∀ i, i ≤ n → (st i).ofT = ⟨#[]⟩ ∧ (st i).plainT = false ∧ 0 < (st i).nodes.length
  lastT : fin.ofT = ⟨#[]⟩ ∧ fin.plainT = false
theorem Run.le {s : ByteArray} {d f l n : Nat} {ps : Nat → Nat} {tk : Nat → ATok} {kd : Nat → Int} {st : Nat → Ab} {fin : Ab} (h : Run s d f l n ps tk kd st fin) : ∀ k i, i + k = n → ps i + k ≤ (csOf s).size
  | 0, i, e => by rw [← h.pn, ← e]; simp
  | k + 1, i, e => by
    have h1 := Run.le h k (i + 1) (by omega)
    have h2 := h.lt i (by omega)
    omega
theorem NextIs.ab {s : ByteArray} {l p q : Nat} {t : ATok} {kd : Int} (h : NextIs s l p q t kd) : t.a = cutOf s p ∧ t.b = cutOf s q := by cases h <;> exact ⟨rfl, rfl⟩
theorem NextIs.kd {s : ByteArray} {l p q : Nat} {t : ATok} {kd : Int} (h : NextIs s l p q t kd) : kd = 1 ∨ kd = 2 := by cases h <;> simp
structure RgQ (w : World) (bm bB bD r b : Nat) (C : Array Value) (R : RC) (g cap : Nat) (cut : Nat → Nat) (base : Nat) (wl : World) (ps : Nat → Nat) (st : Nat → Ab) (n i bg : Nat) (v : Value) (L : List Sp) (wr : World) : Prop where
  rel : ∃ fl w0 tv ta, fl 0 = bD ∧ RF (envT w.heap.size bm bB r C R bg (ps i) w0 tv ta) fl (st i) wr
  ats : Ats wr r R g cap cut
  aty : ∃ cA, wr.heap[g]? = some (.cells cA 3 (0, 0))
  lk : wr.heap[b]? = wl.heap[b]?
  tb : wr.heap[w.heap.size + 1]? = some (.cells #[v, .pointer none] 74 (0, 0))
  sb : wr.heap[w.heap.size + 2]? = some (.cells #[.pointer none] 78 (0, 0))
  own : wr.ownsRow base 53 3 v L.length (scells L)
  kept : Kept [] w wr
  le : i ≤ n
  len : L.length ≤ i
  big : w.heap.size ≤ base ∧ base ≤ wr.heap.size
  rge : w.heap.size ≤ r
theorem RgQ.next {w : World} {bm bB bD r b : Nat} {C : Array Value} {R : RC} {g cap : Nat} {cut : Nat → Nat} {base : Nat} {wl : World} {ps : Nat → Nat} {st : Nat → Ab} {n i bg : Nat} {v : Value} {L : List Sp} {wr w2 : World} (h : RgQ w bm bB bD r b C R g cap cut base wl ps st n i bg v L wr) (ho : R.ofT = (st i).ofT) (hp : R.plT = (st i).plainT) (hk : Kept [r] wr w2) {bg' ps' : Nat} (hr : Rd w2 r R bg' ps') (hbr : b ≠ r) (hbl : b < wl.heap.size)
    (hbs : wl.heap.size ≤ wr.heap.size) (tv' : Value) (ta' : List (ByteArray × ByteArray)) (hta : Atr w2 tv' ta') (hle : ta'.length ≤ 4096) (fr : Bool) (hfr : fr = true → ∀ g, tv'.ownBlock = some g → wr.heap.size ≤ g) :
    (∃ fl, fl 0 = bD ∧ RF (envT w.heap.size bm bB r C R bg' ps' w2 tv' ta') fl { st i with fresh := fr } w2) ∧ Ats w2 r R g cap cut ∧ (∃ cA, w2.heap[g]? = some (.cells cA 3 (0, 0))) ∧ w2.heap[b]? = wl.heap[b]? ∧ w2.heap[w.heap.size + 1]? = some (.cells #[v, .pointer none] 74 (0, 0)) ∧ w2.heap[w.heap.size + 2]? = some (.cells #[.pointer none] 78 (0, 0)) ∧ w2.ownsRow base 53 3 v L.length (scells L) ∧ Kept [] w w2 := by
  obtain ⟨fl, w0, tv, ta, h0, hrf⟩ := h.rel
  have hrd := hrf.rdT ho hp
  have ne : ∀ {k : Nat} {c : Array Value} {t : TypeId}, wr.heap[k]? = some (.cells c t (0, 0)) → t ≠ 165 → k ∉ [r] := by
    intro k c t hk' ht hm
    have e := List.mem_singleton.1 hm
    subst e
    unfold Rd at hrd
    rw [hrd] at hk'
    simp at hk'
    exact ht hk'.2.symm
  refine ⟨⟨fl, h0, hrf.turnT [165] (.of_kept hk (fun k hk' _ => by
    have e := List.mem_singleton.1 hk'
    subst e
    exact ⟨⟨_, _, _, hrd, by simp⟩, h.rge⟩)) (fun t _ ht => by simpa using ht) (by decide) hr ho hp tv' ta' hta hle fr hfr⟩, h.ats.kept hk, ?_, (hk.block b (Nat.lt_of_lt_of_le hbl hbs) (by simpa using hbr)).trans h.lk, hk.at h.tb (ne h.tb (by decide)), hk.at h.sb (ne h.sb (by decide)), hk.ownsRow h.own ?_, h.kept.next hk (by simpa using h.rge)⟩
  · obtain ⟨cA, hA⟩ := h.aty
    exact ⟨cA, hk.at hA (ne hA (by decide))⟩
  · intro k hk'
    rcases h.own.2 with ⟨e, _⟩ | ⟨q, cap', cur, e, _, hc, _⟩
    · rw [e] at hk'; cases hk'
    · rw [e] at hk'
      have e3 := Option.some.inj hk'
      subst e3
      exact ne hc (by decide)
def RunRead (w : World) (fin : Ab) (e : Ending) (w' : World) : Prop :=
  ∃ v k L E fl, e = .returned (.tuple #[.agg #[v, .pointer (some ⟨k, 0, none⟩)], .pointer none]) ∧ fl 0 = k ∧ RF E fl fin w' ∧ w'.ownsRow w.heap.size 53 3 v L.length (scells L) ∧ L.length ≤ 1024 ∧ Kept [] w w'
set_option maxRecDepth 100000 in
set_option maxHeartbeats 8000000 in
theorem read_run (s : ByteArray) (tv : Value) (base d f l : Nat) (w : World) (ho : w.ownsRow base 5 1 tv s.size (bcells s)) (hs : s.size ≤ 1024) (hd : d ≤ 64) (hf : f ≤ 32) (hl : l ≤ 16) (hT : Tab w) (hGl : GlW w) {n : Nat} {ps : Nat → Nat} {tk : Nat → ATok} {kd : Nat → Int} {st : Nat → Ab} {fin : Ab} (hn : Run s d f l n ps tk kd st fin) :
    Calls Tryz.prog 38 #[tv, .agg #[.int .i64 (d : Int), .int .i64 (f : Int), .int .i64 (l : Int)]] w (RunRead w fin) := by
  have hmf : ∀ (fn : Fn) (first cap : Array Value) (w : World), (Instr.makeFunc fn first cap).run Tryz.prog w = .ok (.func fn first cap) w := fun _ _ _ _ => rfl
  obtain ⟨w0, hw0⟩ : ∃ w0, w0 = ((w.alloc (.cells #[.int .i64 (d : Int), .int .i64 (f : Int), .int .i64 (l : Int)] 71 (0, 0))).alloc (.cells #[.slice none 0 0, .pointer none] 74 (0, 0))).alloc (.cells #[.pointer none] 78 (0, 0)) := ⟨_, rfl⟩
  have k0 : Kept [] w w0 := by rw [hw0]; exact (((Kept.refl _ _).alloc _).alloc _).alloc _
  have z0 : w0.heap.size = w.heap.size + 3 := by rw [hw0]; simp
  have g0 : w0.heap[w.heap.size]? = some (.cells #[.int .i64 (d : Int), .int .i64 (f : Int), .int .i64 (l : Int)] 71 (0, 0)) := by
    rw [hw0, Below.heap_alloc _ _ _ (by simp; omega), Below.heap_alloc _ _ _ (by simp)]; exact heap_alloc_at w _
  have s0 : w0.heap[w.heap.size + 1]? = some (.cells #[.slice none 0 0, .pointer none] 74 (0, 0)) := by
    rw [hw0, Below.heap_alloc _ _ _ (by simp)]
    have := heap_alloc_at (w.alloc (.cells #[.int .i64 (d : Int), .int .i64 (f : Int), .int .i64 (l : Int)] 71 (0, 0))) (.cells #[.slice none 0 0, .pointer none] 74 (0, 0))
    simpa using this
  have t0 : w0.heap[w.heap.size + 2]? = some (.cells #[.pointer none] 78 (0, 0)) := by
    have := heap_alloc_at ((w.alloc (.cells #[.int .i64 (d : Int), .int .i64 (f : Int), .int .i64 (l : Int)] 71 (0, 0))).alloc (.cells #[.slice none 0 0, .pointer none] 74 (0, 0))) (.cells #[.pointer none] 78 (0, 0))
    rw [hw0]; simpa using this
  have CN := hide (newReader_any s tv base (l : Int) w0 (k0.ownsRow ho (fun _ _ => by simp)) hs)
  have c0 : w0.cell? ⟨w.heap.size, 0, none⟩ = some (.int .i64 (d : Int)) := by rw [cell_at g0]; rfl
  have c1 : w0.cell? ⟨w.heap.size, 1, none⟩ = some (.int .i64 (f : Int)) := by rw [cell_at g0]; rfl
  have c2 : w0.cell? ⟨w.heap.size, 2, none⟩ = some (.int .i64 (l : Int)) := by rw [cell_at g0]; rfl
  obtain ⟨ao, cp, htv⟩ := owns_shape ho
  subst htv
  have HW := hide hw0.symm
  have HK0 := hide k0
  have HZ := hide z0
  have HG0 := hide g0
  have HS0 := hide s0
  have HT0 := hide t0
  have HTab := hide hT
  clear hw0 k0 z0 g0 s0 t0 ho hT
  go_enter_defers Tryz.func38, Tryz.ntmps38
  go_wp2_with fail
  rw [HW.out]
  refine CN.out.mono ?_
  rintro e w1 ⟨r, b, av, g, cap, rfl, hr, hb, hgg, hrd, hats, hlk, hbr, hty, hk1⟩
  have g1 := hk1.at HG0.out (by simp)
  have d0 : w1.cell? ⟨w.heap.size, 0, none⟩ = some (.int .i64 (d : Int)) := by rw [cell_at g1]; rfl
  have d1 : w1.cell? ⟨w.heap.size, 1, none⟩ = some (.int .i64 (f : Int)) := by rw [cell_at g1]; rfl
  have d2 : w1.cell? ⟨w.heap.size, 2, none⟩ = some (.int .i64 (l : Int)) := by rw [cell_at g1]; rfl
  have HT1 := hide (HTab.out.fr (bm := 0) (.of_kept0 (HK0.out.trans hk1)))
  have CB := hide (new_ok (d : Int) (f : Int) (l : Int) (.func 55) #[.pointer (some ⟨r, 0, none⟩)] #[] w1 HT1.out)
  have HRd := hide hrd
  have HAt := hide hats
  have HTy := hide hty
  have HK1 := hide hk1
  have HB := hide (And.intro hr (And.intro hb hgg))
  have HLk := hide hlk
  have HBR := hide hbr
  clear hr hb hgg hrd hats hlk hbr hty hk1 g1 CN c0 c1 c2
  go_wp2_with fail
  refine CB.out.mono ?_
  rintro e w2 ⟨bm, bB, bD, rfl, hN⟩
  have hk2 := hN.k
  have hRd2 : Rd w2 r (rcOf s l av b) 0 0 := HRd.out.kept hk2 (by simp)
  obtain ⟨C, fl, hfl, hrf⟩ := new_rf w.heap.size bm bB bD r d f l w1 w2 (rcOf s l av b) hN hRd2 rfl rfl hd hf hl (by have := HK0.out.size; have := HK1.out.size; omega) (by have := HB.out.1; have := HZ.out; omega)
  obtain ⟨R, hR⟩ : ∃ R, R = rcOf s l av b := ⟨_, rfl⟩
  have hcs : R.cs = csOf s := by rw [hR]; rfl
  have hof : R.ofT = ⟨#[]⟩ := by rw [hR]; rfl
  have hpl : R.plT = false := by rw [hR]; rfl
  have hmv : R.mv = .map (some b) := by rw [hR]; rfl
  have hlg : R.lg = (8 : Nat) := by rw [hR]; rfl
  have hal : R.at_ = (l : Int) := by rw [hR]; rfl
  have hsz : R.cs.size ≤ 1024 := by rw [hcs, csOf_size]; have := ats_len s s.size; omega
  rw [← hR] at hrf
  have HR0 : Hid (RgQ w bm bB bD r b C R g cap (cutOf s) w2.heap.size w2 ps st n 0 0 (.slice none 0 0) [] w2) := hide
    { rel := ⟨fl, w2, .slice none 0 0, [], hfl, by rw [hn.st0, hn.ps0]; exact hrf⟩
      lk := rfl
      ats := by have := HAt.out; rw [← hR] at this; exact this.kept (hk2.mono (by simp))
      aty := by obtain ⟨cA, hA⟩ := HTy.out; exact ⟨cA, hk2.at hA (by simp)⟩
      tb := hk2.at (HK1.out.at HS0.out (by simp)) (by simp)
      sb := hk2.at (HK1.out.at HT0.out (by simp)) (by simp)
      own := World.ownsRow_nil _ _ _ _
      kept := (HK0.out.trans HK1.out).trans hk2
      le := Nat.zero_le _
      len := Nat.le_refl _
      big := ⟨Nat.le_trans (Nat.le_trans HK0.out.size HK1.out.size) hk2.size, Nat.le_refl _⟩
      rge := by have := HB.out.1; have := HZ.out; omega }
  have HN := hide hn
  have HLk2 := hide (HLk.out.kept hk2 (by simp))
  have HGl := hide hGl
  have HCS := hide hcs
  have HK2 := hide ((HK0.out.trans HK1.out).trans hk2)
  clear hN hk2 hRd2 hfl hrf hR hn hGl hcs HRd HAt HTy HTab HT1 CB HLk d0 d1 d2
  go_wp2_with fail
  go_loopw [] (fun wr => ∃ i bg v L, RgQ w bm bB bD r b C R g cap (cutOf s) w2.heap.size w2 ps st n i bg v L wr) (fun wr => R.cs.size - (match wr.cell? ⟨r, 3, none⟩ with | some v => (intOf v).toNat | none => 0))
  case atStart => exact ⟨0, 0, _, [], HR0.out⟩
  case round =>
    obtain ⟨i, bg, v, L, h1⟩ := hrel
    have hot := HN.out.ofT i h1.le
    have hoi : R.ofT = (st i).ofT := by rw [hof, hot.1]
    have hpi : R.plT = (st i).plainT := by rw [hpl, hot.2.1]
    have hrd : Rd wr r R bg (ps i) := by obtain ⟨_, _, _, _, _, hr⟩ := h1.rel; exact hr.rdT hoi hpi
    have P0 := hrd.ps
    have H1 := hide h1
    have hnm : Nm wr r R b 8 (lookL KV) := ⟨⟨Nat.lt_of_lt_of_le HLk2.out.lt h1.big.2, HLk2.out.short, fun key w' e => HLk2.out.run key w' (e.trans h1.lk)⟩, HBR.out, hmv, hlg, by decide⟩
    have hgl : Gl wr r := by
      obtain ⟨hm, hl⟩ := HGl.out.kept h1.kept
      exact ⟨hm, hl, fun e => by have := h1.rge; have := HGl.out.2; omega⟩
    have hle := HN.out.le (n - i) i (by have := h1.le; omega)
    have hn1 : n ≤ 1024 := by have := HN.out.le n 0 (by omega); rw [← HCS.out] at this; omega
    by_cases hlt : i < n
    · have hnx := HN.out.nxt i hlt
      have hps := HN.out.lt i hlt
      obtain ⟨ta', tb'⟩ := hnx.ab
      have hps2 : ps (i + 1) ≤ R.cs.size := by rw [HCS.out]; have := HN.out.le (n - (i + 1)) (i + 1) (by omega); omega
      have CX := hide (next_tok hnx r R bg g cap b 8 (lookL KV) wr hrd h1.ats hnm hgl hof HCS.out hal (by omega) hsz)
      have HTk := hide (HN.out.tak i hlt)
      have HNX := hide hnx
      have hkz : (kd i == 0) = false := by rcases hnx.kd with e | e <;> (rw [e]; rfl)
      have HAB := hide (And.intro ta' tb')
      clear h1 hrd hnx ta' tb' hnm hgl
      go_wp2_with fail
      refine CX.out.mono ?_
      rintro e w3 ⟨⟨T, x, tv, rfl, hV, hTV, hsl, hatr, hale, hfrs⟩, hk3, hr3⟩
      obtain ⟨⟨fl, hfl, hrf⟩, hat3, hty3, lk3, tb3, sb3, ow3, kw3⟩ := H1.out.next hoi hpi hk3 hr3 HBR.out HLk2.out.lt H1.out.big.2 tv (tk i).attrs hatr hale (tk i).isTag hfrs
      have hT := HTk.out
      have D := Take_S HNX.out (envT w.heap.size bm bB r C R (ps i) (ps (i + 1)) w3 tv (tk i).attrs) hsl (fun _ => rfl) fl _ w3 hrf (by rw [hT]; simp)
      rw [hT] at D
      have hV' := hV (envT w.heap.size bm bB r C R (ps i) (ps (i + 1)) w3 tv (tk i).attrs) rfl
      have hpos : 0 < ({ st i with fresh := (tk i).isTag } : Ab).nodes.length := hot.2.2
      have C2 : Hid (Calls Tryz.prog 57 #[.pointer (some ⟨bB, 0, none⟩), .iface T x] w3 fun e W => e = .returned (.tuple #[]) ∧ ∃ fl', fl' 0 = bD ∧ RF (envT w.heap.size bm bB r C R (ps i) (ps (i + 1)) w3 tv (tk i).attrs) fl' (st (i + 1)) W ∧ Fr w.heap.size w3 W) :=
        hide (by
          rw [hV'] at D
          exact D.mono (fun e W hL => by
            obtain ⟨fl', h5, h6, h7, h8, h9⟩ := hL
            exact ⟨h7, fl', (h5 0 hpos).trans hfl, h8, h9⟩))
      have HQ := hide (And.intro hat3 (And.intro hty3 (And.intro lk3 (And.intro tb3 (And.intro sb3 (And.intro ow3 kw3))))))
      have HTV := hide hTV
      have HSL := hide hsl
      have HZ3 := hide hk3.size
      clear hk3 hr3 hrf hat3 hty3 lk3 tb3 sb3 ow3 kw3 hT D hpos hfl hV hV' hTV hatr hale hfrs hsl
      go_wp2_with fail
      refine C2.out.mono ?_
      rintro e w4 ⟨rfl, fl4, hfl4, hrf4, hfr4⟩
      obtain ⟨hat3, hty3, lk3, tb3, sb3, ow3, kw3⟩ := HQ.out
      have lk4 : w4.heap[b]? = w2.heap[b]? := (hfr4.map lk3 HLk2.out).trans lk3
      have tb4 := hfr4.cellF tb3 (by decide)
      have sb4 := hfr4.cellF sb3 (by decide)
      have kw4 := hfr4.kept kw3 (Nat.le_refl _)
      obtain ⟨cA, hA3⟩ := hty3
      have hA4 := hfr4.cellF hA3 (by decide)
      have hat4 : Ats w4 r R g cap (cutOf s) := ⟨hat3.av, hat3.ne, lt_of_block hA4, fun i hi => by rw [cell_at hA4, ← cell_at hA3]; exact hat3.at_ i hi⟩
      have ow4 : w4.ownsRow w2.heap.size 53 3 v L.length (scells L) := by
        refine ⟨ow3.1, ?_⟩
        rcases ow3.2 with e | ⟨q, cap', cur, e, h1, hc, r'⟩
        · exact .inl e
        · exact .inr ⟨q, cap', cur, e, h1, hfr4.cellF hc (by decide), r'⟩
      have CK := hide (HTV.out.kind w4)
      have hmeth := HTV.out.meth
      have hnil := HTV.out.nil
      rw [HAB.out.1, HAB.out.2] at hmeth
      have CY := hide (bytes_ok (cutOf s (ps i) : Int) (cutOf s (ps (i + 1)) : Int) w4)
      have big4 : w2.heap.size ≤ w4.heap.size := Nat.le_trans H1.out.big.2 (Nat.le_trans HZ3.out hfr4.size)
      have HX := hide (And.intro hat4 (And.intro hA4 (And.intro lk4 (And.intro tb4 (And.intro sb4 (And.intro ow4 (And.intro kw4 (And.intro hrf4 (And.intro hfl4 big4)))))))))
      clear hfr4 tb3 sb3 ow3 kw3 hA3 hat3 lk3 lk4 tb4 sb4 ow4 kw4 hrf4 hfl4 hA4 hat4 big4
      go_wp2_with fail
      refine CK.out.mono ?_
      rintro e w5 ⟨rfl, rfl⟩
      go_wp2_with fail
      refine CY.out.mono ?_
      rintro e w6 ⟨rfl, hk6⟩
      obtain ⟨hat5, hA5, lk5, tb5, sb5, ow5, kw5, hrf5, hfl5, big5⟩ := HX.out
      have tb6 := hk6.at tb5 (by simp)
      have ow6 := hk6.ownsRow ow5 (fun _ _ => by simp)
      obtain ⟨ax, ac, hv⟩ := owns_shape ow6
      subst hv
      have c6 : w6.cell? ⟨w.heap.size + 1, 0, none⟩ = some (.slice ax L.length ac) := by rw [cell_at tb6]; rfl
      have CA := hide (addSpan_any w2.heap.size _ L ⟨kd i, cutOf s (ps i), cutOf s (ps (i + 1))⟩ w6 ow6 (Nat.le_trans big5 hk6.size) (by have := H1.out.len; omega))
      have HP := hide (And.intro (hat5.kept (hk6.mono (by simp))) (And.intro (hk6.at hA5 (by simp)) (And.intro ((hk6.block b (Nat.lt_of_lt_of_le HLk2.out.lt big5) (by simp)).trans lk5) (And.intro tb6 (And.intro (hk6.at sb5 (by simp)) (And.intro ow6 (And.intro (kw5.trans hk6) (And.intro (hrf5.kept0 hk6) (And.intro hfl5 (Nat.le_trans big5 hk6.size))))))))))
      clear hat5 hA5 lk5 tb5 sb5 ow5 kw5 hrf5 hfl5 big5 tb6 ow6 hk6 HX
      go_wp2_with fail
      refine CA.out.mono ?_
      rintro e w7 ⟨v7, rfl, ow7, hk7⟩
      obtain ⟨hat6, hA6, lk6, tb6, sb6, ow6, kw6, hrf6, hfl6, big6⟩ := HP.out
      have ne : ∀ {k : Nat} {c : Array Value} {t : TypeId}, w6.heap[k]? = some (.cells c t (0, 0)) → t ≠ 53 → k ∉ (Value.slice ax L.length ac).ownBlock.toList := by
        intro k c t hk' ht hm
        rcases ow6.2 with ⟨e2, _⟩ | ⟨q, cap', cur, e2, _, hc, _⟩
        · rw [e2] at hm; simp [Value.ownBlock] at hm
        · rw [e2] at hm
          simp [Value.ownBlock] at hm
          subst hm
          rw [hk'] at hc
          simp at hc
          exact ht hc.2
      have hot2 := HN.out.ofT (i + 1) hlt
      have hoj : R.ofT = (st (i + 1)).ofT := by rw [hof, hot2.1]
      have hpj : R.plT = (st (i + 1)).plainT := by rw [hpl, hot2.2.1]
      have hrd6 := hrf6.rdT hoj hpj
      have lk7 : w7.heap[b]? = w2.heap[b]? := (KT.map (bs := w.heap.size) (T := [53]) (.of_kept hk7 (fun k hk' _ => by
        obtain ⟨c, m, hc⟩ := row_typ ow6 (by simpa using hk')
        exact ⟨⟨_, _, _, hc, by simp⟩, by have h7 := (ow6.lt k (by simpa using hk')).1; have h8 := H1.out.big.1; omega⟩)) lk6 HLk2.out).trans lk6
      have tb7 := hk7.at tb6 (ne tb6 (by decide))
      have sb7 := hk7.at sb6 (ne sb6 (by decide))
      have hA7 := hk7.at hA6 (ne hA6 (by decide))
      have hrd7 : Rd w7 r R (ps i) (ps (i + 1)) := hk7.at hrd6 (ne hrd6 (by decide))
      have hat7 : Ats w7 r R g cap (cutOf s) := ⟨hat6.av, hat6.ne, lt_of_block hA7, fun i hi => by rw [cell_at hA7, ← cell_at hA6]; exact hat6.at_ i hi⟩
      have kw7 : Kept [] w w7 := kw6.next hk7 (fun x hx => .inr (by have h7 := (ow6.lt x (by simpa using hx)).1; have h8 := H1.out.big.1; omega))
      have hrf7 := hrf6.turnT [53] (.of_kept hk7 (fun k hk' _ => by
        obtain ⟨c, m, hc⟩ := row_typ ow6 (by simpa using hk')
        exact ⟨⟨_, _, _, hc, by simp⟩, by have h7 := (ow6.lt k (by simpa using hk')).1; have h8 := H1.out.big.1; omega⟩)) (by decide) (by decide) hrd7 hoj hpj (.slice none 0 0) [] (World.ownsRow_nil _ _ _ _) (Nat.zero_le _) (st (i + 1)).fresh (fun _ g hg => by cases hg)
      obtain ⟨a7, p7, hv7⟩ := owns_shape ow7
      subst hv7
      have c7 : w7.cell? ⟨w.heap.size + 1, 0, none⟩ = some (.slice ax L.length ac) := by rw [cell_at tb7]; rfl
      have f7 := free_at tb7 0
      have hk8 : Kept [w.heap.size + 1] w7 (w7.setCell ⟨w.heap.size + 1, 0, none⟩ (.slice a7 (addSp L ⟨kd i, cutOf s (ps i), cutOf s (ps (i + 1))⟩).length p7)) := (Kept.refl _ _).setCell (.inl (by simp)) _
      have ne8 : ∀ {k : Nat} {c : Array Value} {t : TypeId}, w7.heap[k]? = some (.cells c t (0, 0)) → t ≠ 74 → k ∉ [w.heap.size + 1] := by
        intro k c t hk' ht hm
        have e := List.mem_singleton.1 hm
        subst e
        rw [tb7] at hk'
        simp at hk'
        exact ht hk'.2.symm
      have hrd8 : Rd (w7.setCell ⟨w.heap.size + 1, 0, none⟩ (.slice a7 (addSp L ⟨kd i, cutOf s (ps i), cutOf s (ps (i + 1))⟩).length p7)) r R (ps i) (ps (i + 1)) := hk8.at hrd7 (ne8 hrd7 (by decide))
      have hrf8 := hrf7.turnT [74] (.of_kept hk8 (fun k hk' _ => by
        have e := List.mem_singleton.1 hk'
        subst e
        exact ⟨⟨_, _, _, tb7, by simp⟩, by omega⟩)) (by decide) (by decide) hrd8 hoj hpj (.slice none 0 0) [] (World.ownsRow_nil _ _ _ _) (Nat.zero_le _) (st (i + 1)).fresh (fun _ g hg => by cases hg)
      have hA8 := hk8.at hA7 (ne8 hA7 (by decide))
      have HE : Hid (RgQ w bm bB bD r b C R g cap (cutOf s) w2.heap.size w2 ps st n (i + 1) (ps i) (.slice a7 (addSp L ⟨kd i, cutOf s (ps i), cutOf s (ps (i + 1))⟩).length p7) (addSp L ⟨kd i, cutOf s (ps i), cutOf s (ps (i + 1))⟩) (w7.setCell ⟨w.heap.size + 1, 0, none⟩ (.slice a7 (addSp L ⟨kd i, cutOf s (ps i), cutOf s (ps (i + 1))⟩).length p7))) := hide
        { rel := ⟨fl4, _, _, _, hfl6, hrf8⟩
          lk := by
            rw [hk8.block b (Nat.lt_of_lt_of_le HLk2.out.lt (Nat.le_trans big6 hk7.size)) (by
              intro hm
              have e := List.mem_singleton.1 hm
              have e2 := HLk2.out.map
              rw [← lk7, e, tb7] at e2
              obtain ⟨_, _, e2⟩ := e2
              cases e2)]
            exact lk7
          ats := ⟨hat7.av, hat7.ne, lt_of_block hA8, fun i hi => by rw [cell_at hA8, ← cell_at hA7]; exact hat7.at_ i hi⟩
          aty := ⟨_, hA8⟩
          tb := block_setCell tb7 0 _
          sb := hk8.at sb7 (ne8 sb7 (by decide))
          own := hk8.ownsRow ow7 (fun q hq => by
            rcases ow7.2 with ⟨e2, _⟩ | ⟨q', cap', cur, e2, _, hc, _⟩
            · rw [e2] at hq; cases hq
            · rw [e2] at hq
              have e3 := Option.some.inj hq
              subst e3
              exact ne8 hc (by decide))
          kept := kw7.setCell (.inr (by simp)) _
          le := hlt
          len := by have h8 := addSp_len L ⟨kd i, cutOf s (ps i), cutOf s (ps (i + 1))⟩; have h9 := H1.out.len; omega
          big := ⟨H1.out.big.1, Nat.le_trans (Nat.le_trans big6 hk7.size) hk8.size⟩
          rge := H1.out.rge }
      have P8 := hrd8.ps
      have hmeas : R.cs.size - ps (i + 1) < R.cs.size - ps i := by omega
      clear hat6 hA6 lk6 lk7 tb6 sb6 ow6 kw6 hrf6 hfl6 big6 ne hrd6 tb7 sb7 hA7 hrd7 hat7 kw7 hrf7 hk8 ne8 hrd8 hrf8 hA8 ow7 hk7 HP CA
      generalize (addSp L ⟨kd i, cutOf s (ps i), cutOf s (ps (i + 1))⟩).length = len7 at *
      go_wp2
      go_roundw
      case rel => exact ⟨i + 1, _, _, _, HE.out⟩
      case measure => rw [P8, P0]; simpa [intOf] using hmeas
    · have e : i = n := by have := h1.le; omega
      subst e
      have hpn : ps i = R.cs.size := by rw [HCS.out]; exact HN.out.pn
      rw [hpn] at hrd P0
      have CX := hide (next_end r R bg g cap (cutOf s) wr hrd h1.ats hsz)
      clear h1 hrd
      go_wp2_with fail
      refine CX.out.mono ?_
      rintro e w3 ⟨rfl, hk3, hr3⟩
      obtain ⟨⟨fl, hfl, hrf⟩, hat3, hty3, lk3, tb3, sb3, ow3, kw3⟩ := H1.out.next hoi hpi hk3 hr3 HBR.out HLk2.out.lt H1.out.big.2 (.slice none 0 0) [] (World.ownsRow_nil _ _ _ _) (Nat.zero_le _) false (fun h => by cases h)
      have hT := HN.out.last
      rw [← HCS.out] at hT
      have D := Take_textEnd (envT w.heap.size bm bB r C R R.cs.size R.cs.size w3 (.slice none 0 0) []) takeS (fun m t ht => takeS_p _ ⟨_, _, _, rfl⟩ m t ht) (cutOf s R.cs.size) (cutOf s R.cs.size) [] (fun h => by cases h) fl _ w3 hrf (by rw [hT]; simp)
      rw [hT] at D
      have hpos : 0 < ({ st i with fresh := false } : Ab).nodes.length := hot.2.2
      have C2 : Hid (Calls Tryz.prog 57 #[.pointer (some ⟨bB, 0, none⟩), .iface 186 (.agg #[.int .i64 (cutOf s R.cs.size : Int), .int .i64 (cutOf s R.cs.size : Int)])] w3 fun e W => e = .returned (.tuple #[]) ∧ ∃ fl', fl' 0 = bD ∧ RF (envT w.heap.size bm bB r C R R.cs.size R.cs.size w3 (.slice none 0 0) []) fl' fin W ∧ Fr w.heap.size w3 W) :=
        hide (D.mono (fun e W hL => by
          obtain ⟨fl', h5, h6, h7, h8, h9⟩ := hL
          exact ⟨h7, fl', (h5 0 hpos).trans hfl, h8, h9⟩))
      have HQ := hide (And.intro tb3 (And.intro sb3 (And.intro ow3 kw3)))
      clear hk3 hr3 hrf hat3 hty3 lk3 tb3 sb3 ow3 kw3 hT D hpos hfl
      go_wp2_with fail
      refine C2.out.mono ?_
      rintro e w4 ⟨rfl, fl4, hfl4, hrf4, hfr4⟩
      obtain ⟨tb3, sb3, ow3, kw3⟩ := HQ.out
      have tb4 := hfr4.cellF tb3 (by decide)
      have sb4 := hfr4.cellF sb3 (by decide)
      have kw4 := hfr4.kept kw3 (Nat.le_refl _)
      have ow4 : w4.ownsRow w2.heap.size 53 3 v L.length (scells L) := by
        refine ⟨ow3.1, ?_⟩
        rcases ow3.2 with e | ⟨q, cap', cur, e, h1, hc, r'⟩
        · exact .inl e
        · exact .inr ⟨q, cap', cur, e, h1, hfr4.cellF hc (by decide), r'⟩
      have CK := hide (kind_end (envT w.heap.size bm bB r C R R.cs.size R.cs.size w3 (.slice none 0 0) []) (cutOf s R.cs.size) (cutOf s R.cs.size) w4)
      have CD := hide (document_ok _ _ _ _ hrf4)
      simp only [tokV] at CK
      have eD : nV fl4 0 = .pointer (some ⟨bD, 0, none⟩) := by unfold nV; rw [hfl4]
      rw [eD] at CD
      obtain ⟨ax, ac, hv⟩ := owns_shape ow4
      subst hv
      have c0 : w4.cell? ⟨w.heap.size + 1, 0, none⟩ = some (.slice ax L.length ac) := by rw [cell_at tb4]; rfl
      have c1 : w4.cell? ⟨w.heap.size + 1, 1, none⟩ = some (.pointer none) := by rw [cell_at tb4]; rfl
      have c2 : w4.cell? ⟨w.heap.size + 1 + 1, 0, none⟩ = some (.pointer none) := by rw [cell_at (show w4.heap[w.heap.size + 1 + 1]? = _ from sb4)]; rfl
      have f0 := free_at tb4 0
      have f1 := free_at tb4 1
      have f2 := free_at (show w4.heap[w.heap.size + 1 + 1]? = _ from sb4) 0
      clear hfr4 tb3 sb3 ow3 kw3
      have HX := hide (And.intro tb4 (And.intro sb4 (And.intro ow4 (And.intro kw4 (And.intro hrf4 hfl4)))))
      clear tb4 sb4 ow4 kw4 hrf4 hfl4 eD
      go_wp2_with fail
      refine CK.out.mono ?_
      rintro e w5 ⟨rfl, rfl⟩
      go_wp2_with fail
      refine CD.out.mono ?_
      rintro e w5 ⟨rfl, rfl⟩
      obtain ⟨tb5, sb5, ow5, kw5, hrf5, hfl5⟩ := HX.out
      have hne : w.heap.size + 1 + 1 ≠ w.heap.size + 1 := by omega
      have tb6 : (w5.setCell ⟨w.heap.size + 1, 1, none⟩ (.pointer (some ⟨bD, 0, none⟩))).heap[w.heap.size + 1]? = some (.cells #[.slice ax L.length ac, .pointer (some ⟨bD, 0, none⟩)] 74 (0, 0)) := block_setCell tb5 1 _
      have sb6 : (w5.setCell ⟨w.heap.size + 1, 1, none⟩ (.pointer (some ⟨bD, 0, none⟩))).heap[w.heap.size + 1 + 1]? = some (.cells #[.pointer none] 78 (0, 0)) := (Below.heap_setCell _ _ _ _ hne).trans sb5
      have E1 := hide (setCell_same tb6 0 (.slice ax L.length ac) rfl)
      have E2 := hide (setCell_same tb6 1 (.pointer (some ⟨bD, 0, none⟩)) rfl)
      have E3 := hide (setCell_same sb6 0 (.pointer none) rfl)
      have q0 : (w5.setCell ⟨w.heap.size + 1, 1, none⟩ (.pointer (some ⟨bD, 0, none⟩))).cell? ⟨w.heap.size + 1, 0, none⟩ = some (.slice ax L.length ac) := by rw [cell_at tb6]; rfl
      have q1 : (w5.setCell ⟨w.heap.size + 1, 1, none⟩ (.pointer (some ⟨bD, 0, none⟩))).cell? ⟨w.heap.size + 1, 1, none⟩ = some (.pointer (some ⟨bD, 0, none⟩)) := by rw [cell_at tb6]; rfl
      have q2 : (w5.setCell ⟨w.heap.size + 1, 1, none⟩ (.pointer (some ⟨bD, 0, none⟩))).cell? ⟨w.heap.size + 1 + 1, 0, none⟩ = some (.pointer none) := by rw [cell_at sb6]; rfl
      have hk6 : Kept [w.heap.size + 1] w5 (w5.setCell ⟨w.heap.size + 1, 1, none⟩ (.pointer (some ⟨bD, 0, none⟩))) := (Kept.refl _ _).setCell (.inl (by simp)) _
      have hrd5 : Rd w5 r R R.cs.size R.cs.size := hrf5.rdT (by rw [hof, HN.out.lastT.1]) (by rw [hpl, HN.out.lastT.2])
      have hnr : r ∉ [w.heap.size + 1] := by
        intro hm
        have e := List.mem_singleton.1 hm
        unfold Rd at hrd5
        rw [e, tb5] at hrd5
        simp at hrd5
      have hrf6 := hrf5.turnT [74] (.of_kept hk6 (fun k hk' _ => by
        have e := List.mem_singleton.1 hk'
        subst e
        exact ⟨⟨_, _, _, tb5, by simp⟩, by omega⟩)) (by decide) (by decide) (hrd5.kept hk6 hnr) (by rw [hof, HN.out.lastT.1]) (by rw [hpl, HN.out.lastT.2]) (.slice none 0 0) [] (World.ownsRow_nil _ _ _ _) (Nat.zero_le _) fin.fresh (fun _ g hg => by cases hg)
      have HF : Hid (RunRead w fin (.returned (.tuple #[.agg #[.slice ax L.length ac, .pointer (some ⟨bD, 0, none⟩)], .pointer none])) (w5.setCell ⟨w.heap.size + 1, 1, none⟩ (.pointer (some ⟨bD, 0, none⟩)))) := by
        refine hide ⟨_, bD, L, _, fl4, rfl, hfl5, hrf6, ?_, by have := H1.out.len; have := HN.out.le i 0 (by omega); rw [← HCS.out] at this; omega, kw5.setCell (.inr (by simp)) _⟩
        refine ownsRow_base (hk6.ownsRow ow5 (fun q hq => ?_)) H1.out.big.1
        intro hm
        have e := List.mem_singleton.1 hm
        subst e
        rcases ow5.2 with ⟨e2, _⟩ | ⟨q, cap', cur, e2, _, hc, _⟩
        · rw [e2] at hq; cases hq
        · rw [e2] at hq
          have e3 := Option.some.inj hq
          subst e3
          rw [tb5] at hc
          simp at hc
      clear tb5 sb5 ow5 kw5 hrf5 hfl5 tb6 sb6 hk6 hrd5 hnr hrf6 HX HQ H1
      go_wp2
      rw [E1.out, E2.out, E3.out]
      refine leaves_cons (f := 51) (args := #[.pointer (some ⟨w.heap.size + 1, 0, none⟩), .pointer (some ⟨w.heap.size + 1 + 1, 0, none⟩)]) (by simp) (by simp [go_sem]) ?_
      refine (rcatch_idle ⟨w.heap.size + 1, 0, none⟩ ⟨w.heap.size + 1 + 1, 0, none⟩ _).mono ?_
      rintro e u' w'' ⟨rfl, rfl, rfl⟩
      simp [Go.Leaves, settle, results, Tryz.results38, go_sem, q0, q1, q2]
      exact HF.out
end Go.Proofs.YtlhhgenpcjjajaaGreatDoor
namespace Go.Proofs.YtlhhgenpcjjajaaGreatDoor
open Go.RowKit Go.PlainAid
def dg (n : Nat) : List UInt8 := if n < 10 then [(48 + n).toUInt8] else if n < 100 then [(48 + n / 10).toUInt8, (48 + n % 10).toUInt8] else [(48 + n / 100).toUInt8, (48 + n / 10 % 10).toUInt8, (48 + n % 10).toUInt8]
def txt (n : Nat) : ByteArray := ⟨([60, 115, 112, 97, 110, 32, 97, 61, 34, 38, 35] ++ dg n ++ [59, 34, 62, 120, 38, 35] ++ dg n ++ [59, 121]).toArray⟩
def sgn (n : Nat) : ByteArray := ⟨#[n.toUInt8]⟩
def scanF (q : Int → Bool) (s : ByteArray) : Nat → Nat → Nat
  | 0, i => i
  | n + 1, i => if i < s.size then (if q (bt s i) = true then i else scanF q s n (i + 1)) else i
theorem scan_fuel {q : Int → Bool} {s : ByteArray} : ∀ (n i : Nat), s.size - i ≤ n → scan q s i = scanF q s n i
  | 0, i, h => by rw [scan_end (by omega)]; rfl
  | n + 1, i, h => by
    unfold scanF
    by_cases h1 : i < s.size
    · rw [if_pos h1]
      by_cases h2 : q (bt s i) = true
      · rw [if_pos h2, scan_yes h2]
      · rw [if_neg h2, scan_no h1 (by simpa using h2)]
        exact scan_fuel n (i + 1) (by omega)
    · rw [if_neg h1, scan_end (by omega)]
def numVF (base : Int) (s : ByteArray) : Nat → Int → Nat → Int
  | 0, k, _ => k
  | n + 1, k, i => if i < s.size then (if digitI (bt s i) ≥ base then k else numVF base s n (min (k * base + digitI (bt s i)) 1114112) (i + 1)) else k
theorem numV_fuel {base : Int} {s : ByteArray} : ∀ (n : Nat) (k : Int) (i : Nat), s.size - i ≤ n → numV base s k i = numVF base s n k i
  | 0, k, i, h => by rw [numV_end (by omega)]; rfl
  | n + 1, k, i, h => by
    unfold numVF
    by_cases h1 : i < s.size
    · rw [if_pos h1]
      by_cases h2 : digitI (bt s i) ≥ base
      · rw [if_pos h2, numV_stop h1 h2]
      · rw [if_neg h2, ← numV_on h1 h2]
        exact numV_fuel n _ (i + 1) (by omega)
    · rw [if_neg h1, numV_end h1]
def preF (s p : ByteArray) : Bool := decide (p.size ≤ s.size) && (decide ((s.extract 0 p.size).data.toList = p.data.toList))
theorem pre_fuel (s p : ByteArray) : pre s p = preF s p := by
  unfold pre preF
  rw [ByteArray.toList_eq, ByteArray.toList_eq]
  congr 1
  rw [Bool.eq_iff_iff]
  simp
def inF (l : List UInt8) (c : Int) : Bool := l.contains c.toNat.toUInt8
theorem inSet_fuel (s : ByteArray) : inSet s = inF s.data.toList := funext fun c => inSet_eq s c
def smallF (s : ByteArray) : List UInt8 := s.data.toList.map fun b => if 65 ≤ b.toNat ∧ b.toNat ≤ 90 then b + 32 else b
theorem small_fuel (s : ByteArray) : small s = ⟨(smallF s).toArray⟩ := by
  unfold small smallF
  congr 1
  apply Array.toList_inj.1
  simp
def kD (n : Nat) : Nat := (dg n).length
def B0 : List UInt8 := [32, 9, 10, 12]
def sF (q : Int → Bool) (s : ByteArray) (i : Nat) : Nat := scanF q s 64 i
def numEndF (s : ByteArray) : Nat := if sF (fun c => decide (digitI c ≥ 10)) s 2 = 2 then 0 else if sF (fun c => decide (digitI c ≥ 10)) s 2 < s.size ∧ bt s (sF (fun c => decide (digitI c ≥ 10)) s 2) = 59 then sF (fun c => decide (digitI c ≥ 10)) s 2 + 1 else sF (fun c => decide (digitI c ≥ 10)) s 2
def refF (u : ByteArray) (n : Nat) : Bool := preF u ⟨#[38, 35]⟩ && decide (2 < u.size) && !decide (bt u 2 = 120 ∨ bt u 2 = 88) && decide (numEndF u = 3 + kD n) && decide ((Utf8.encode (cpt (numVF 10 u 64 0 2))).data.toList = [n.toUInt8])
def chkA (n : Nat) : Bool :=
  let s := txt n
  decide ((csOf s).data.toList = s.data.toList) && decide (s.size = 19 + 2 * kD n) && decide (s.size ≤ 64)
def chkB (n : Nat) : Bool :=
  let s := txt n
  preF (s.extract 0 s.size) ⟨#[60]⟩ && decide (bt s 1 = 115) && decide (sF (inF [32, 9, 10, 12, 47, 62]) s 1 = 5) && decide (smallF (s.extract 1 5) = [115, 112, 97, 110])
    && decide (sF (fun c => !inF [32, 9, 10, 12, 47] c) s 5 = 6) && !preF (s.extract 6 s.size) ⟨#[62]⟩ && decide (sF (inF [32, 9, 10, 12, 47, 62, 61]) s 7 = 7) && decide (smallF (s.extract 6 7) = [97])
    && decide (sF (fun c => !inF B0 c) s 7 = 7) && preF (s.extract 7 s.size) ⟨#[61]⟩ && decide (sF (fun c => !inF B0 c) s 8 = 8) && preF (s.extract 8 s.size) ⟨#[34]⟩
    && decide (sF (inF [34]) s 9 = 12 + kD n) && preF (s.extract (12 + kD n) s.size) ⟨#[34]⟩ && decide (sF (fun c => !inF [32, 9, 10, 12, 47] c) s (13 + kD n) = 13 + kD n) && preF (s.extract (13 + kD n) s.size) ⟨#[62]⟩
def chkC (n : Nat) : Bool :=
  let s := txt n
  refF (s.extract 9 (12 + kD n)) n && decide ((s.extract 9 (12 + kD n)).size = 3 + kD n)
def plainC (s : ByteArray) (p : Nat) (c : UInt8) : Bool := !preF (s.extract p s.size) ⟨#[60]⟩ && !preF (s.extract p s.size) ⟨#[38, 35]⟩ && !preF (s.extract p s.size) ⟨#[38]⟩ && decide (((s.extract p s.size).extract 0 1).data.toList = [c])
def chkD (n : Nat) : Bool :=
  let s := txt n
  plainC s (14 + kD n) 120 && plainC s (18 + 2 * kD n) 121 && !preF (s.extract (15 + kD n) s.size) ⟨#[60]⟩ && refF (s.extract (15 + kD n) s.size) n
set_option maxRecDepth 100000 in
theorem chkA_all : (List.range 127).all (fun n => chkA (n + 1)) = true := by kernel_rfl
set_option maxRecDepth 100000 in
theorem chkB_all : (List.range 127).all (fun n => chkB (n + 1)) = true := by kernel_rfl
set_option maxRecDepth 100000 in
theorem chkC_all : (List.range 127).all (fun n => chkC (n + 1)) = true := by kernel_rfl
set_option maxRecDepth 100000 in
theorem chkD_all : (List.range 127).all (fun n => chkD (n + 1)) = true := by kernel_rfl
end Go.Proofs.YtlhhgenpcjjajaaGreatDoor
