import Derived.Test.YtnlmfklpebekdaaGreatDoorAsA
import Derived.Test.YtnlmfklpebekdaaGreatDoorPuA
set_option linter.unusedSimpArgs false
set_option linter.unusedVariables false
namespace Go.Proofs.YtnlmfklpebekdaaGreatDoor
open Go.RowKit Go.PlainAid

/-- How the reading of a text ends. -/
inductive ROut where
  | stop (at_ : Nat)
  | done (L : List Sp)
def readGo (R : RC) (look : ByteArray → Option ByteArray) (lg : Nat) (cut : Nat → Nat) (L : List Sp) (ps : Nat) : ROut :=
  match nextTok R look lg ps with
  | .stop => .stop (cut ps)
  | .tok kd m => if kd = 0 then .done L else if ps < m ∧ m ≤ R.cs.size then readGo R look lg cut (addSp L ⟨kd, cut ps, cut m⟩) m else .done L
  termination_by R.cs.size - ps
  decreasing_by omega
theorem readGo_stop {R : RC} {look : ByteArray → Option ByteArray} {lg : Nat} {cut : Nat → Nat} {L : List Sp} {ps : Nat} (h : nextTok R look lg ps = .stop) : readGo R look lg cut L ps = .stop (cut ps) := by
  rw [readGo, h]
theorem readGo_end {R : RC} {look : ByteArray → Option ByteArray} {lg : Nat} {cut : Nat → Nat} {L : List Sp} {ps m : Nat} (h : nextTok R look lg ps = .tok 0 m) : readGo R look lg cut L ps = .done L := by
  rw [readGo, h]; simp
theorem readGo_tok {R : RC} {look : ByteArray → Option ByteArray} {lg : Nat} {cut : Nat → Nat} {L : List Sp} {ps kd m : Nat} (h : nextTok R look lg ps = .tok kd m) (hk : kd ≠ 0) (hm : ps < m ∧ m ≤ R.cs.size) : readGo R look lg cut L ps = readGo R look lg cut (addSp L ⟨kd, cut ps, cut m⟩) m := by
  rw [readGo, h]; simp [hk, hm]

theorem Ok.keptS {w w' : World} {r : Nat} {R : RC} {g cap b lg : Nat} {look : ByteArray → Option ByteArray} {cut : Nat → Nat} {S : List Nat} (h : Ok w r R g cap b lg look cut) (hk : Kept S w w') (hg : g ∉ S) (hb : b ∉ S) (hm : 1 ∉ S) : Ok w' r R g cap b lg look cut := by
  refine ⟨⟨h.ats.av, h.ats.ne, Nat.lt_of_lt_of_le h.ats.lt hk.size, fun i hi => (hk.cell (p := ⟨g, i, none⟩) h.ats.lt hg).trans (h.ats.at_ i hi)⟩, ⟨h.nms.lk.kept hk hb, h.nms.ne, h.nms.mv, h.nms.lgv, h.nms.le⟩, ?_, h.small⟩
  obtain ⟨⟨m, h1⟩, h2, h3⟩ := h.gl
  exact ⟨⟨m, (hk.cell (p := ⟨1, 0, none⟩) h2 hm).trans h1⟩, Nat.lt_of_lt_of_le h2 hk.size, h3⟩

/-- Behind some tokens. -/
structure Rg (w : World) (B : Nat) (r : Nat) (R : RC) (g cap b : Nat) (cut : Nat → Nat) (bg ps : Nat) (v : Value) (L : List Sp) (wr : World) : Prop where
  rd : Rd wr r R bg ps
  ok : Ok wr r R g cap b 8 (lookL KV) cut
  sb : wr.heap[w.heap.size]? = some (.cells #[v] 26 (0, 0))
  tb : wr.heap[w.heap.size + 1]? = some (.cells #[.pointer none] 68 (0, 0))
  own : wr.ownsRow B 52 3 v L.length (scells L)
  kept : Kept [] w wr
  le : ps ≤ R.cs.size
  len : L.length ≤ ps
  big : B ≤ wr.heap.size

def ReadPost (w : World) (e : Ending) (w' : World) : ROut → Prop
  | .stop a => ∃ k, e = .returned (.tuple #[.slice none 0 0, .pointer (some ⟨k, 0, none⟩)]) ∧ stopAt w' k 7 a ∧ w.heap.size ≤ k ∧ Kept [] w w'
  | .done L => ∃ v, e = .returned (.tuple #[v, .pointer none]) ∧ w'.ownsRow w.heap.size 52 3 v L.length (scells L) ∧ Kept [] w w'

/-- The token's bytes, asked through the interface. -/
theorem tok_method (a b : Int) (v : Value) (kd : Nat) (h : IsTok a b v kd) (hk : kd ≠ 0) : ∃ T x, v = .iface T x ∧ ∀ w, (Go.method 335 T x "Bytes").run Tryz.prog w = .ok (164, .agg #[.int .i64 a, .int .i64 b]) w := by
  match kd, h with
  | 0, _ => exact absurd rfl hk
  | 1, h => obtain ⟨t, rfl⟩ := h; exact ⟨_, _, rfl, fun w => by kernel_rfl⟩
  | 2, h => obtain ⟨nm, ao, n, cp, rfl⟩ := h; exact ⟨_, _, rfl, fun w => by kernel_rfl⟩
  | 3, h => obtain ⟨nm, ao, n, cp, rfl⟩ := h; exact ⟨_, _, rfl, fun w => by kernel_rfl⟩
  | 4, h => obtain ⟨t, rfl⟩ := h; exact ⟨_, _, rfl, fun w => by kernel_rfl⟩
  | 5, h => obtain ⟨nm, qk, rfl⟩ := h; exact ⟨_, _, rfl, fun w => by kernel_rfl⟩
  | 6, h => obtain rfl := h; exact ⟨_, _, rfl, fun w => by kernel_rfl⟩

set_option maxRecDepth 100000 in
set_option maxHeartbeats 4000000 in
theorem read_text (s : ByteArray) (tv : Value) (base : Nat) (lim : Int) (w : World) (ho : w.ownsRow base 5 1 tv s.size (bcells s)) (hs : s.size ≤ 1024) (hg : (∃ m, w.cell? ⟨1, 0, none⟩ = some (.int .i64 m)) ∧ 1 < w.heap.size) :
    Calls Tryz.prog 29 #[tv, .int .i64 lim] w fun e w' => ∃ av b, ReadPost w e w' (readGo (rcOf s lim av b) (lookL KV) 8 (cutOf s) [] 0) := by
  have hmf : ∀ (fn : Fn) (first cap : Array Value) (w : World), (Instr.makeFunc fn first cap).run Tryz.prog w = .ok (.func fn first cap) w := fun _ _ _ _ => rfl
  obtain ⟨w0, hw0⟩ : ∃ w0, w0 = (w.alloc (.cells #[.slice none 0 0] 26)).alloc (.cells #[.pointer none] 68) := ⟨_, rfl⟩
  have k0 : Kept [] w w0 := by rw [hw0]; exact ((Kept.refl _ _).alloc _).alloc _
  have z0 : w0.heap.size = w.heap.size + 2 := by rw [hw0]; simp
  have s0 : w0.heap[w.heap.size]? = some (.cells #[.slice none 0 0] 26 (0, 0)) := by rw [hw0, Below.heap_alloc _ _ _ (by simp)]; exact heap_alloc_at w _
  have t0 : w0.heap[w.heap.size + 1]? = some (.cells #[.pointer none] 68 (0, 0)) := by
    have := heap_alloc_at (w.alloc (.cells #[.slice none 0 0] 26)) (.cells #[.pointer none] 68)
    rw [hw0]; simpa using this
  have CN := hide (newReader_any s tv base lim w0 (k0.ownsRow ho (fun _ _ => by simp)) hs ⟨by
    obtain ⟨⟨m, hm⟩, hl⟩ := hg
    exact ⟨m, (k0.cell (p := ⟨1, 0, none⟩) hl (by simp)).trans hm⟩, by have := hg.2; omega⟩)
  have HML := hide hg.2
  obtain ⟨ao, cp, htv⟩ := owns_shape ho
  subst htv
  have HW := hide hw0.symm
  have HK0 := hide k0
  have HZ := hide z0
  have HS0 := hide s0
  have HT0 := hide t0
  clear hw0 k0 z0 s0 t0 ho hg
  go_enter_defers Tryz.func29, Tryz.ntmps29
  go_wp2_with fail
  rw [HW.out]
  refine CN.out.mono ?_
  rintro e w1 ⟨r, b, av, g, cap, rfl, hr, hb, hgg, hrd, hok, hk1⟩
  have HR : Hid (Rg w w1.heap.size r (rcOf s lim av b) g cap b (cutOf s) 0 0 (.slice none 0 0) [] w1) :=
    ⟨hrd, hok, hk1.at HS0.out (by simp), hk1.at HT0.out (by simp), World.ownsRow_nil _ _ _ _, HK0.out.trans hk1, Nat.zero_le _, Nat.zero_le _, Nat.le_refl _⟩
  have HB := hide (And.intro hr (And.intro hb (And.intro hgg (And.intro (lt_of_block hrd) (And.intro hok.nms.lk.lt hok.ats.lt)))))
  clear hr hb hgg hrd hok hk1 CN
  obtain ⟨O, hO⟩ : ∃ O, O = readGo (rcOf s lim av b) (lookL KV) 8 (cutOf s) [] 0 := ⟨_, rfl⟩
  have HO := hide hO
  clear hO
  have HG : Hid (∀ e w', ReadPost w e w' O → ∃ av b, ReadPost w e w' (readGo (rcOf s lim av b) (lookL KV) 8 (cutOf s) [] 0)) := fun e w' h => ⟨av, b, by rw [← HO.out]; exact h⟩
  have HSM : Hid ((rcOf s lim av b).cs.size ≤ 1024) := HR.out.ok.small
  generalize rcOf s lim av b = R at HR HO HSM
  go_wp2_with fail
  go_loopw [] (fun wr => ∃ bg ps v L, readGo R (lookL KV) 8 (cutOf s) L ps = O ∧ Rg w w1.heap.size r R g cap b (cutOf s) bg ps v L wr) (fun wr => R.cs.size - (match wr.cell? ⟨r, 3, none⟩ with | some v => (intOf v).toNat | none => 0))
  case atStart => exact ⟨0, 0, _, [], HO.out.symm, HR.out⟩
  case round =>
    obtain ⟨bg, ps, v, L, hgo, h1⟩ := hrel
    have HGO := hide hgo
    have H1 := hide h1
    have P0 := h1.rd.ps
    have CX := next_any r R bg ps g cap b 8 (lookL KV) (cutOf s) wr h1.rd h1.ok h1.le
    have Hns : Hid (w.heap.size ≠ w.heap.size + 1 ∧ w.heap.size + 1 ≠ w.heap.size) := ⟨by omega, by omega⟩
    clear hgo
    cases hT : nextTok R (lookL KV) 8 ps with
    | stop =>
      rw [hT] at CX
      have HCX := hide CX
      have eO : O = .stop (cutOf s ps) := by rw [← HGO.out]; exact readGo_stop hT
      have EO := hide eO
      clear CX h1 eO hT
      go_wp2_with fail
      refine HCX.out.mono ?_
      rintro e w2 ⟨k, rfl, hst, hkk, hk2⟩
      obtain ⟨hb1, hb2, hb3, hb4, hb5, hb6⟩ := HB.out
      have sb2 := hk2.at H1.out.sb (by simp; have := HZ.out; omega)
      have tb2 := hk2.at H1.out.tb (by simp; have := HZ.out; omega)
      obtain ⟨ax, ac, hv⟩ := owns_shape H1.out.own
      subst hv
      have c0 : w2.cell? ⟨w.heap.size, 0, none⟩ = some (.slice ax L.length ac) := by rw [cell_at sb2]; rfl
      have c1 : w2.cell? ⟨w.heap.size + 1, 0, none⟩ = some (.pointer none) := by rw [cell_at tb2]; rfl
      have f0 := free_at sb2 0
      have f1 := free_at tb2 0
      have HF : Hid (ReadPost w (.returned (.tuple #[.slice none 0 0, .pointer (some ⟨k, 0, none⟩)])) ((w2.setCell ⟨w.heap.size, 0, none⟩ (.slice none 0 0)).setCell ⟨w.heap.size + 1, 0, none⟩ (.pointer (some ⟨k, 0, none⟩))) O) := by
        rw [EO.out]
        have hkn : k ≠ w.heap.size := by have := H1.out.kept.size; rintro rfl; have := lt_of_block H1.out.sb; omega
        have hkn2 : k ≠ w.heap.size + 1 := by rintro rfl; have := lt_of_block H1.out.tb; omega
        refine ⟨k, rfl, ?_, Nat.le_trans H1.out.kept.size hkk, ?_⟩
        · show ((w2.setCell _ _).setCell _ _).heap[k]? = _
          rw [Below.heap_setCell _ _ _ k hkn2, Below.heap_setCell _ _ _ k hkn]; exact hst
        · refine ((H1.out.kept.next hk2 (by simp; have := HZ.out; omega)).setCell (.inr (Nat.le_refl _)) _).setCell (.inr (by simp)) _
      clear hst hk2 HCX sb2 tb2
      go_wp2
      refine leaves_cons (f := 37) (args := #[.pointer (some ⟨w.heap.size, 0, none⟩), .pointer (some ⟨w.heap.size + 1, 0, none⟩)]) (by simp) (by simp [go_sem]) ?_
      refine (rcatch_panic w.heap.size (w.heap.size + 1) k w2 ax L.length ac c0 c1 f0 f1 Hns.out.1 Hns.out.2).mono ?_
      rintro e u' w'' ⟨rfl, rfl, rfl⟩
      have hns := Hns.out.1
      have hns2 := Hns.out.2
      simp [Leaves, settle, results, Tryz.results29, go_sem, c0, c1]
      exact HG.out _ _ HF.out
    | tok kd m =>
      rw [hT] at CX
      have HCX := hide CX
      obtain ⟨ax, ac, hv⟩ := owns_shape H1.out.own
      subst hv
      by_cases hkd : kd = 0
      · subst hkd
        have eO : O = .done L := by rw [← HGO.out]; exact readGo_end hT
        have EO := hide eO
        clear CX h1 eO hT
        go_wp2_with fail
        refine HCX.out.mono ?_
        rintro e w2 ⟨⟨tv2, rfl, htk⟩, hk2, hr2⟩
        obtain ⟨hb1, hb2, hb3, hb4, hb5, hb6⟩ := HB.out
        have sb2 := hk2.at H1.out.sb (by simp; have := HZ.out; omega)
        have tb2 := hk2.at H1.out.tb (by simp; have := HZ.out; omega)
        have ow2 := hk2.ownsRow H1.out.own (fun x hx => by have := (H1.out.own.lt x hx).1; simp; omega)
        have c0 : w2.cell? ⟨w.heap.size, 0, none⟩ = some (.slice ax L.length ac) := by rw [cell_at sb2]; rfl
        have c1 : w2.cell? ⟨w.heap.size + 1, 0, none⟩ = some (.pointer none) := by rw [cell_at tb2]; rfl
        have f0 := free_at sb2 0
        have f1 := free_at tb2 0
        have CK := hide (kindOf_any _ _ tv2 0 w2 htk)
        have HF : Hid (ReadPost w (.returned (.tuple #[.slice ax L.length ac, .pointer none])) ((w2.setCell ⟨w.heap.size, 0, none⟩ (.slice ax L.length ac)).setCell ⟨w.heap.size + 1, 0, none⟩ (.pointer none)) O) := by
          rw [EO.out]
          refine ⟨_, rfl, ?_, ?_⟩
          · refine ownsRow_base (base := w1.heap.size) (ownsRow_setCell_other (ownsRow_setCell_other ow2 ?_ _) ?_ _) (by have := HZ.out; omega)
            · intro hx; have h9 : w1.heap.size ≤ w.heap.size := (ow2.lt _ hx).1; have := HZ.out; omega
            · intro hx; have h9 : w1.heap.size ≤ w.heap.size + 1 := (ow2.lt _ hx).1; have := HZ.out; omega
          · refine ((H1.out.kept.next hk2 (by simp; have := HZ.out; omega)).setCell (.inr (Nat.le_refl _)) _).setCell (.inr (by simp)) _
        clear hk2 hr2 htk sb2 tb2 ow2 HCX
        have hns := Hns.out.1
        have hns2 := Hns.out.2
        go_wp2_with fail
        refine CK.out.mono ?_
        rintro e w3 ⟨rfl, rfl⟩
        go_wp2
        refine leaves_cons (f := 37) (args := #[.pointer (some ⟨w.heap.size, 0, none⟩), .pointer (some ⟨w.heap.size + 1, 0, none⟩)]) (by simp) (by simp [go_sem]) ?_
        refine (rcatch_idle ⟨w.heap.size, 0, none⟩ ⟨w.heap.size + 1, 0, none⟩ _).mono ?_
        rintro e u' w'' ⟨rfl, rfl, rfl⟩
        simp [Leaves, settle, results, Tryz.results29, go_sem, c0, c1]
        exact HG.out _ _ HF.out
      · have hlt : ps < R.cs.size := by
          rcases Nat.lt_or_ge ps R.cs.size with h | h
          · exact h
          · have e : ps = R.cs.size := by have := H1.out.le; omega
            rw [e, next_end] at hT
            exact absurd (Tok.tok.inj hT).1.symm hkd
        have hgd := (next_good (look := lookL KV) (lg := 8) hlt).1
        rw [hT] at hgd
        obtain ⟨hm1, hm2, _, _, _⟩ := hgd
        have eO : readGo R (lookL KV) 8 (cutOf s) (addSp L ⟨kd, cutOf s ps, cutOf s m⟩) m = O := by rw [← HGO.out]; exact (readGo_tok hT hkd ⟨hm1, hm2⟩).symm
        have EO := hide eO
        clear CX h1 eO hT
        go_wp2_with fail
        refine HCX.out.mono ?_
        rintro e w2 ⟨⟨tv2, rfl, htk⟩, hk2, hr2⟩
        obtain ⟨hb1, hb2, hb3, hb4, hb5, hb6⟩ := HB.out
        have sb2 := hk2.at H1.out.sb (by simp; have := HZ.out; omega)
        have tb2 := hk2.at H1.out.tb (by simp; have := HZ.out; omega)
        have ow2 := hk2.ownsRow H1.out.own (fun x hx => by have := (H1.out.own.lt x hx).1; simp; omega)
        have ok2 := H1.out.ok.kept hk2
        have kw2 : Kept [] w w2 := H1.out.kept.next hk2 (by simp; have := HZ.out; omega)
        have bg2 := Nat.le_trans H1.out.big hk2.size
        have CK := hide (kindOf_any _ _ tv2 kd w2 htk)
        obtain ⟨T, x, hx, hmeth⟩ := tok_method _ _ tv2 kd htk hkd
        subst hx
        have CB := hide (bytes_any (cutOf s ps : Int) (cutOf s m : Int) w2)
        have HP2 := hide (And.intro sb2 (And.intro tb2 (And.intro ow2 (And.intro ok2 (And.intro kw2 (And.intro bg2 hr2))))))
        have hkd2 : ((kd : Int) == 0) = false := beq_eq_false_iff_ne.2 (by omega)
        clear hk2 hr2 htk sb2 tb2 ow2 ok2 kw2 bg2 HCX
        go_wp2_with fail
        refine CK.out.mono ?_
        rintro e w3 ⟨rfl, rfl⟩
        go_wp2_with fail
        refine CB.out.mono ?_
        rintro e w4 ⟨rfl, hk4⟩
        obtain ⟨sb2, tb2, ow2, ok2, kw2, bg2, hr2⟩ := HP2.out
        have sb4 := hk4.at sb2 (by simp)
        have tb4 := hk4.at tb2 (by simp)
        have ow4 := hk4.ownsRow ow2 (fun _ _ => by simp)
        have c4 : w4.cell? ⟨w.heap.size, 0, none⟩ = some (.slice ax L.length ac) := by rw [cell_at sb4]; rfl
        have CA := hide (addSpan_any w1.heap.size _ L ⟨kd, cutOf s ps, cutOf s m⟩ w4 ow4 (Nat.le_trans bg2 hk4.size) (by have := H1.out.len; have := H1.out.le; have := HSM.out; omega))
        have HP4 := hide (And.intro sb4 (And.intro tb4 (And.intro ow4 (And.intro (ok2.kept (hk4.mono (by simp))) (And.intro (kw2.trans hk4) (And.intro (Nat.le_trans bg2 hk4.size) (hr2.kept hk4 (by simp))))))))
        clear sb2 tb2 ow2 ok2 kw2 bg2 hr2 sb4 tb4 ow4 hk4 HP2 CB CK
        go_wp2_with fail
        refine CA.out.mono ?_
        rintro e w5 ⟨v5, rfl, ow5, hk5⟩
        obtain ⟨sb4, tb4, ow4, ok4, kw4, bg4, hr4⟩ := HP4.out
        have hz := HZ.out
        have nin : ∀ x, x < w1.heap.size → x ∉ (Value.slice ax L.length ac).ownBlock.toList := fun x hx hm => by
          have := (ow4.lt x (by simpa using hm)).1; omega
        have sb5 := hk5.at sb4 (nin _ (by omega))
        have tb5 := hk5.at tb4 (nin _ (by omega))
        have rd5 : Rd w5 r R ps m := hk5.at hr4 (nin _ hb4)
        have ok5 := ok4.keptS hk5 (nin _ hb6) (nin _ hb5) (nin _ (by have := HML.out; omega))
        have kw5 : Kept [] w w5 := kw4.next hk5 (fun x hx => .inr (by have := (ow4.lt x (by simpa using hx)).1; omega))
        have c5 : w5.cell? ⟨w.heap.size, 0, none⟩ = some (.slice ax L.length ac) := by rw [cell_at sb5]; rfl
        have f5 := free_at sb5 0
        obtain ⟨a5, p5, hv5⟩ := owns_shape ow5
        subst hv5
        have k6 : Kept [w.heap.size] w5 (w5.setCell ⟨w.heap.size, 0, none⟩ (.slice a5 (addSp L ⟨kd, cutOf s ps, cutOf s m⟩).length p5)) := (Kept.refl _ _).setCell (.inl (by simp)) _
        have HE : Hid (Rg w w1.heap.size r R g cap b (cutOf s) ps m (.slice a5 (addSp L ⟨kd, cutOf s ps, cutOf s m⟩).length p5) (addSp L ⟨kd, cutOf s ps, cutOf s m⟩) (w5.setCell ⟨w.heap.size, 0, none⟩ (.slice a5 (addSp L ⟨kd, cutOf s ps, cutOf s m⟩).length p5))) := by
          refine ⟨k6.at rd5 (by simp; omega), ok5.keptS k6 (by simp; omega) (by simp; omega) (by simp; have := HML.out; omega), block_setCell sb5 0 _, k6.at tb5 (by simp), ownsRow_setCell_other ow5 (fun hx => by have := (ow5.lt _ hx).1; simp at this; omega) _, kw5.setCell (.inr (Nat.le_refl _)) _, hm2, ?_, Nat.le_trans bg4 (Nat.le_trans hk5.size k6.size)⟩
          have := addSp_len L ⟨kd, cutOf s ps, cutOf s m⟩
          have := H1.out.len
          omega
        have P8 := HE.out.rd.ps
        have hmeas : R.cs.size - m < R.cs.size - ps := by omega
        clear sb4 tb4 ow4 ok4 kw4 bg4 hr4 sb5 tb5 rd5 ok5 kw5 k6 ow5 hk5 nin HP4 CA hz
        generalize (addSp L ⟨kd, cutOf s ps, cutOf s m⟩).length = len5 at *
        go_wp2
        go_roundw
        case rel => exact ⟨_, _, _, _, EO.out, HE.out⟩
        case measure => rw [P8, P0]; simpa [intOf] using hmeas
end Go.Proofs.YtnlmfklpebekdaaGreatDoor
