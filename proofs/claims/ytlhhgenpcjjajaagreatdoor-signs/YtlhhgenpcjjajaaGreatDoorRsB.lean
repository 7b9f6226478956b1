import Derived.Test.YtlhhgenpcjjajaaGreatDoorRdQ
import Derived.Test.YtlhhgenpcjjajaaGreatDoorRd
import Derived.Test.YtlhhgenpcjjajaaGreatDoorRlB
import Derived.Test.YtlhhgenpcjjajaaGreatDoorRdX
import Derived.Test.YtlhhgenpcjjajaaGreatDoorTrA
import Derived.Deep.RegionWith
import Derived.Deep.CutRange
set_option linter.unusedSimpArgs false
set_option linter.unusedVariables false
namespace Go.Proofs.YtlhhgenpcjjajaaGreatDoor
open Go.RowKit Go.PlainAid
theorem ext_one (s : ByteArray) (a : Nat) (h : a < s.size) : (s.extract a s.size).extract 0 1 = s.extract a (a + 1) := by
  apply ByteArray.ext
  simp only [ByteArray.data_extract, Array.extract_extract]
  have e : s.data.size = s.size := rfl
  congr 1
  omega
theorem ref_fin {r : Nat} {R : RC} {bg ps : Nat} {a b : Int} {s : ByteArray} {w W : World} (h0 : Kept [r] w W) (hR : Rd W r R bg ps) (g : W.heap[w.heap.size]? = some (.cells #[.int .i64 0, .int .i64 0, .string ⟨#[]⟩] 188 (0, 0))) (hr : r ≠ w.heap.size) :
    Kept [r] w (((W.setCell ⟨w.heap.size, 0, none⟩ (.int .i64 a)).setCell ⟨w.heap.size, 1, none⟩ (.int .i64 b)).setCell ⟨w.heap.size, 2, none⟩ (.string s)) ∧ Rd (((W.setCell ⟨w.heap.size, 0, none⟩ (.int .i64 a)).setCell ⟨w.heap.size, 1, none⟩ (.int .i64 b)).setCell ⟨w.heap.size, 2, none⟩ (.string s)) r R bg ps ∧ (((W.setCell ⟨w.heap.size, 0, none⟩ (.int .i64 a)).setCell ⟨w.heap.size, 1, none⟩ (.int .i64 b)).setCell ⟨w.heap.size, 2, none⟩ (.string s)).heap[w.heap.size]? = some (.cells #[.int .i64 a, .int .i64 b, .string s] 188 (0, 0)) := by
  have k1 : Kept [w.heap.size] W (((W.setCell ⟨w.heap.size, 0, none⟩ (.int .i64 a)).setCell ⟨w.heap.size, 1, none⟩ (.int .i64 b)).setCell ⟨w.heap.size, 2, none⟩ (.string s)) := (((Kept.refl [w.heap.size] W).setCell (.inl (by simp)) _).setCell (.inl (by simp)) _).setCell (.inl (by simp)) _
  exact ⟨((h0.setCell (.inr (Nat.le_refl _)) _).setCell (.inr (Nat.le_refl _)) _).setCell (.inr (Nat.le_refl _)) _, hR.kept k1 (by simpa using hr), block_setCell (block_setCell (block_setCell g 0 _) 1 _) 2 _⟩
set_option maxRecDepth 100000 in
set_option maxHeartbeats 2000000 in
theorem char_gen (r : Nat) (R : RC) (bg ps g cap b lg : Nat) (look : ByteArray → Option ByteArray) (cut : Nat → Nat) (w : World) (h : Rd w r R bg ps) (hA : Ats w r R g cap cut) (hN : Nm w r R b lg look) (hb : bg < R.cs.size) (hs : R.cs.size ≤ 1024) :
    Calls Tryz.prog 93 #[.pointer (some ⟨r, 0, none⟩)] w fun e w' => e = .returned (.agg #[.int .i64 (cut bg : Int), .int .i64 (cut (bg + charSize look lg (R.cs.extract bg R.cs.size)) : Int), .string (charText look lg (R.cs.extract bg R.cs.size))]) ∧ Kept [r] w w' ∧ Rd w' r R bg (bg + charSize look lg (R.cs.extract bg R.cs.size)) := by
  have t1 := h.text
  have b1 := h.bg
  have m1 := h.mv
  have l1 := h.lg
  rw [hN.mv] at m1
  rw [hN.lgv] at l1
  have hr := lt_of_block h
  have hez : (R.cs.extract bg R.cs.size).size = R.cs.size - bg := by simp
  have hle := refSize_le (look := look) (lg := lg) (s := R.cs.extract bg R.cs.size) (inV := false)
  rw [hez] at hle
  have C1 := hide (fun W (hk : Kept [] w W) => read_any b lg look (R.cs.extract bg R.cs.size) false W (hN.lk.kept hk (by simp)) hN.le (by rw [hez]; omega))
  have C2 := hide (fun W (hk : Kept [] w W) => bareChar_any r R bg ps g cap cut W (h.kept hk (by simp)) (hA.kept (hk.mono (by simp))) hb hs)
  have HK0 := hide ((Kept.refl [] w).alloc (.cells #[.int .i64 0, .int .i64 0, .string ⟨#[]⟩] 188 (0, 0)))
  have HG0 := hide (heap_alloc_at w (.cells #[.int .i64 0, .int .i64 0, .string ⟨#[]⟩] 188 (0, 0)))
  have HNR := hide (show w.heap.size ≠ r by omega)
  have HR := hide h
  have HA := hide hA
  have HE1 := hide (ext_one R.cs bg hb)
  have HS := hide (show charSize look lg (R.cs.extract bg R.cs.size) = if refSize look lg (R.cs.extract bg R.cs.size) false = 0 then 1 else refSize look lg (R.cs.extract bg R.cs.size) false from rfl)
  have HT := hide (show charText look lg (R.cs.extract bg R.cs.size) = if refSize look lg (R.cs.extract bg R.cs.size) false = 0 then (R.cs.extract bg R.cs.size).extract 0 1 else refText look lg (R.cs.extract bg R.cs.size) false from rfl)
  clear h hA hN hez
  generalize charSize look lg (R.cs.extract bg R.cs.size) = cz at *
  generalize charText look lg (R.cs.extract bg R.cs.size) = ct at *
  generalize refSize look lg (R.cs.extract bg R.cs.size) false = n at *
  generalize refText look lg (R.cs.extract bg R.cs.size) false = rt at *
  go_enter Tryz.func93, Tryz.ntmps93
  go_wp2_with fail
  go_cut [3, 4] from 5 to 21 (fun tv nv wc => tv = .string rt ∧ nv = .int .i64 (n : Int) ∧ Kept [] w wc ∧ wc.heap[w.heap.size]? = some (.cells #[.int .i64 0, .int .i64 0, .string ⟨#[]⟩] 188 (0, 0)))
  case first =>
    go_region_with (go_at_call 170; refine (C1.out _ HK0.out.drew).mono ?_; rintro e w1 ⟨rfl, hk1⟩; have HK1 := hide ((HK0.out.drew).trans hk1); have HG1 := hide ((((Kept.refl [] _).drew).trans hk1).at HG0.out (by simp)); clear hk1)
    all_goals (try (go_wp2_with fail))
    all_goals (go_meet; exact ⟨rfl, rfl, HK1.out, HG1.out⟩)
  case rest =>
    obtain ⟨rfl, rfl, hk, hg⟩ := hcut
    have HK := hide hk
    have HG := hide hg
    have rc := HR.out.kept hk (by simp)
    by_cases hn : n = 0
    · have C3 := hide (C2.out wc hk)
      have ec : cz = 1 := by rw [HS.out, if_pos hn]
      have et : ct = R.cs.extract bg (bg + 1) := by rw [HT.out, if_pos hn, HE1.out]
      have EC := hide ec
      have ET := hide et
      clear t1 b1 m1 l1 hr C1 C2 HK0 HG0 hk hg ec et rc
      subst hn
      go_wp2_with fail
      refine C3.out.mono ?_
      rintro e w2 ⟨rfl, hk2, hr2⟩
      have g2 := hk2.at HG.out (by simpa using HNR.out)
      have q0 : w2.cell? ⟨w.heap.size, 0, none⟩ = some (.int .i64 0) := by rw [cell_at g2]; rfl
      have q1 : w2.cell? ⟨w.heap.size, 1, none⟩ = some (.int .i64 0) := by rw [cell_at g2]; rfl
      have q2 : w2.cell? ⟨w.heap.size, 2, none⟩ = some (.string ⟨#[]⟩) := by rw [cell_at g2]; rfl
      have z0 := free_at g2 0
      have z1 := free_at g2 1
      have z2 := free_at g2 2
      have HF := hide (ref_fin (a := (cut bg : Int)) (b := (cut (bg + 1) : Int)) (s := R.cs.extract bg (bg + 1)) ((HK.out.mono (by simp)).trans hk2) hr2 g2 (fun e => HNR.out e.symm))
      clear hk2 hr2 g2
      go_wp2
      refine bodyPost_ret (v := .agg #[.int .i64 (cut bg : Int), .int .i64 (cut (bg + 1) : Int), .string (R.cs.extract bg (bg + 1))]) ?_ rfl ⟨by rw [EC.out, ET.out], HF.out.1, by rw [EC.out]; exact HF.out.2.1⟩
      have hc := cell_at HF.out.2.2
      simp [results, Tryz.results93, asAddr, Result.andThen, go_sem, hc]
    · have ec : cz = n := by rw [HS.out, if_neg hn]
      have et : ct = rt := by rw [HT.out, if_neg hn]
      have EC := hide ec
      have ET := hide et
      have hn2 : ((n : Int) == 0) = false := beq_eq_false_iff_ne.2 (by omega)
      have b2 := rc.bg
      have f2 := rc.free 3
      have p2 := rc.ps
      have HK3 := hide ((hk.mono (S' := [r]) (by simp)).setCell (p := ⟨r, 3, none⟩) (.inl (by simp)) (.int .i64 ((bg + n : Nat) : Int)))
      have HR3 := hide (rc.setPs (bg + n))
      have HG3 := hide ((((Kept.refl [r] wc).setCell (p := ⟨r, 3, none⟩) (.inl (by simp)) (.int .i64 ((bg + n : Nat) : Int)))).at hg (by simpa using HNR.out))
      have C3 := hide (place_any r R bg (bg + n) g cap cut _ HR3.out (HA.out.kept HK3.out) (by omega) (by omega) hs)
      clear t1 b1 m1 l1 hr C1 C2 HK0 HG0 hk hg ec et rc HS HT
      go_wp2_with fail
      refine C3.out.mono ?_
      rintro e w2 ⟨rfl, hk2⟩
      have g2 := hk2.at HG3.out (by simp)
      have q0 : w2.cell? ⟨w.heap.size, 0, none⟩ = some (.int .i64 0) := by rw [cell_at g2]; rfl
      have q1 : w2.cell? ⟨w.heap.size, 1, none⟩ = some (.int .i64 0) := by rw [cell_at g2]; rfl
      have q2 : w2.cell? ⟨w.heap.size, 2, none⟩ = some (.string ⟨#[]⟩) := by rw [cell_at g2]; rfl
      have z0 := free_at g2 0
      have z1 := free_at g2 1
      have z2 := free_at g2 2
      have HF := hide (ref_fin (a := (cut bg : Int)) (b := (cut (bg + n) : Int)) (s := rt) (HK3.out.trans (hk2.mono (by simp))) (HR3.out.kept hk2 (by simp)) g2 (fun e => HNR.out e.symm))
      clear hk2 g2 b2 f2 p2
      go_wp2
      refine bodyPost_ret (v := .agg #[.int .i64 (cut bg : Int), .int .i64 (cut (bg + n) : Int), .string rt]) ?_ rfl ⟨by rw [EC.out, ET.out], HF.out.1, by rw [EC.out]; exact HF.out.2.1⟩
      have hc := cell_at HF.out.2.2
      simp [results, Tryz.results93, asAddr, Result.andThen, go_sem, hc]
set_option maxRecDepth 100000 in
set_option maxHeartbeats 2000000 in
theorem next_chr (r : Nat) (R : RC) (bg ps g cap b lg : Nat) (look : ByteArray → Option ByteArray) (cut : Nat → Nat) (w : World) (h : Rd w r R bg ps) (hA : Ats w r R g cap cut) (hN : Nm w r R b lg look) (ho : R.ofT = ⟨#[]⟩) (hp : ps < R.cs.size) (hs : R.cs.size ≤ 1024)
    (h1 : pre (R.cs.extract ps R.cs.size) ⟨#[60]⟩ = false) :
    Calls Tryz.prog 56 #[.pointer (some ⟨r, 0, none⟩)] w fun e w' => e = .returned (.iface 188 (.agg #[.int .i64 (cut ps : Int), .int .i64 (cut (ps + charSize look lg (R.cs.extract ps R.cs.size)) : Int), .string (charText look lg (R.cs.extract ps R.cs.size))])) ∧ Kept [r] w w' ∧ Rd w' r R ps (ps + charSize look lg (R.cs.extract ps R.cs.size)) := by
  have p := h.ps
  have b0 := h.bg
  have fz := h.free 2
  have hr := lt_of_block h
  obtain ⟨W0, hW0⟩ : ∃ W0, W0 = w.setCell ⟨r, 2, none⟩ (.int .i64 (ps : Int)) := ⟨_, rfl⟩
  have R0 : Rd W0 r R ps ps := by rw [hW0]; exact h.setBg _
  have K0 : Kept [r] w W0 := by rw [hW0]; exact (Kept.refl [r] w).setCell (.inl (by simp)) _
  have C1 := hide (atEnd_any r R ps ps W0 R0)
  have hne : decide (ps = R.cs.size) = false := decide_eq_false (by omega)
  rw [hne] at C1
  have C2 := hide (fun W (hk : Kept [] W0 W) => inText_no r R ps ps W (R0.kept hk (by simp)) ho)
  have C3 := hide (fun W (hk : Kept [] W0 W) => take_any r R ps ps ⟨#[60]⟩ W (R0.kept hk (by simp)) (by omega) hs (by decide))
  have ht : taken R ⟨#[60]⟩ ps = ps := by unfold taken; rw [if_neg (by simp [h1])]
  rw [ht, h1] at C3
  have C4 := hide (fun W (hk : Kept [r] W0 W) (hR : Rd W r R ps ps) => char_gen r R ps ps g cap b lg look cut W hR ((hA.kept K0).kept hk) ((hN.kept K0).kept hk) hp hs)
  have HK0 := hide K0
  have HR0 := hide R0
  have HW0 := hide hW0.symm
  clear h hA hN K0 R0 hW0 h1 ht hne
  generalize charSize look lg (R.cs.extract ps R.cs.size) = cz at *
  generalize charText look lg (R.cs.extract ps R.cs.size) = ct at *
  go_enter Tryz.func56, Tryz.ntmps56
  go_wp2_with fail
  rw [HW0.out]
  clear p b0 fz hr
  refine C1.out.mono ?_
  rintro e w1 ⟨rfl, q, rfl⟩
  have C5 := hide (C2.out _ ((Kept.refl [] W0).drewN q))
  go_wp2_with fail
  refine C5.out.mono ?_
  rintro e w2 ⟨rfl, hk2⟩
  have C6 := hide (C3.out _ (((Kept.refl [] W0).drewN q).trans hk2))
  have HK2 := hide ((((Kept.refl [] W0).drewN q).trans hk2).mono (S' := [r]) (by simp))
  clear hk2 C5
  go_wp2_with fail
  refine C6.out.mono ?_
  rintro e w3 ⟨rfl, hk3, hr3⟩
  have C7 := hide (C4.out _ (HK2.out.trans hk3) hr3)
  have HK3 := hide (HK0.out.trans (HK2.out.trans hk3))
  clear hk3 hr3 C6
  go_wp2_with fail
  refine C7.out.mono ?_
  rintro e w4 ⟨rfl, hk4, hr4⟩
  have HK4 := hide (HK3.out.trans hk4)
  have HR4 := hide hr4
  clear hk4 hr4 C7
  go_wp2
  go_ret
  exact ⟨rfl, HK4.out, HR4.out⟩
end Go.Proofs.YtlhhgenpcjjajaaGreatDoor
namespace Go.Proofs.YtlhhgenpcjjajaaGreatDoor
open Go.RowKit
def envT (bs bm bB r : Nat) (C : Array Value) (R : RC) (bg ps : Nat) (w0 : World) (tv : Value) (ta : List (ByteArray × ByteArray)) : Env := { envOf bs bm bB r C R bg ps w0 with tv := tv, ta := ta }
theorem RF.rdT {bs bm bB r : Nat} {C : Array Value} {R : RC} {bg ps : Nat} {w0 : World} {tv : Value} {ta : List (ByteArray × ByteArray)} {f : Nat → Nat} {σ : Ab} {w : World} (h : RF (envT bs bm bB r C R bg ps w0 tv ta) f σ w) (ho : R.ofT = σ.ofT) (hp : R.plT = σ.plainT) : Rd w r R bg ps := by
  obtain ⟨L, _, hr⟩ := h
  have e : w.heap[r]? = some (.cells (((rcells R bg ps).setIfInBounds 7 (.string σ.ofT)).setIfInBounds 8 (.bool σ.plainT)) 165 (0, 0)) := hr.rd
  rw [rcells_same R bg ps _ _ ho.symm hp.symm] at e
  exact e
theorem RF.turnT {bs bm bB r : Nat} {C : Array Value} {R : RC} {bg ps : Nat} {w0 : World} {tv : Value} {ta : List (ByteArray × ByteArray)} {f : Nat → Nat} {σ : Ab} {w w' : World} (h : RF (envT bs bm bB r C R bg ps w0 tv ta) f σ w) (T : List TypeId) (kt : KT bs T w w') (hT : ∀ t ∈ RelT, t ∈ T → t = 165) (hM : ∀ t ∈ T, t ∈ MutT) {bg' ps' : Nat} (hr : w'.heap[r]? = some (.cells (rcells R bg' ps') 165 (0, 0))) (ho : R.ofT = σ.ofT) (hp : R.plT = σ.plainT)
    (tv' : Value) (ta' : List (ByteArray × ByteArray)) (hta : Atr w' tv' ta') (hle : ta'.length ≤ 4096) (fr : Bool) (hfr : fr = true → ∀ g, tv'.ownBlock = some g → w.heap.size ≤ g) :
    RF (envT bs bm bB r C R bg' ps' w' tv' ta') f { σ with fresh := fr } w' := by
  obtain ⟨L, e, h⟩ := h
  have hn : ∀ t ∈ RelT, t ≠ 165 → t ∉ T := fun t ht hne hm => hne (hT t ht hm)
  obtain ⟨C', hbl, hC⟩ := h.blk
  have hfrN : FrN bm w w' := by
    obtain ⟨S, hk, hS⟩ := kt
    exact ⟨S, hk, fun k h1 h2 => by obtain ⟨⟨c, t, m, h3, h4⟩, _⟩ := hS k h1 h2; exact .inl ⟨c, t, m, h3, hM t h4⟩⟩
  have hmap : ∀ (b : Nat) (es : Array MapEntry) (ck : Nat), w.heap[b]? = some (Obj.map es ck) → w'.heap[b]? = some (Obj.map es ck) := by
    intro b es ck hb
    obtain ⟨S, hk, hS⟩ := kt
    have hlt : b < w.heap.size := (Array.getElem?_eq_some_iff.1 hb).1
    refine (hk.block b hlt fun hm => ?_).trans hb
    obtain ⟨⟨c, t, m, h3, _⟩, _⟩ := hS b hm hlt
    rw [hb] at h3
    cases h3
  refine ⟨L, e, ?_⟩
  have henv := EnvOk.move (w := w) (w' := w') h.env h.fr hfrN hmap
  exact
    { fr := Fr.refl _
      env := ⟨henv.rules, henv.txt, henv.spec, henv.impl, henv.bnds, henv.doc⟩
      lim := h.lim
      nds := fun i nd hi => (h.nds i nd hi).kt kt (fun t ht => hn t (by revert t; decide) (by revert t; decide))
      inj := h.inj
      kne := h.kne
      kel := h.kel
      uq := h.uq
      ael := h.ael
      wf := ⟨h.wf.opn, h.wf.act, h.wf.head, h.wf.form, h.wf.par, h.wf.kids, h.wf.doc⟩
      blk := ⟨C', kt.at hbl (hn _ (by decide) (by decide)), ⟨hC.size, hC.low, hC.opn, hC.act, hC.head, hC.form, hC.mode, hC.kept, hC.wait, hC.fost, hC.quirks, hC.at', hC.behind⟩⟩
      orow := kt.row h.orow (hn _ (by decide) (by decide))
      crow := kt.row h.crow (hn _ (by decide) (by decide))
      ocn := h.ocn
      ole := h.ole
      cle := h.cle
      wrow := kt.row h.wrow (hn _ (by decide) (by decide))
      wle := h.wle
      rd := by
        show w'.heap[r]? = some (.cells (((rcells R bg' ps').setIfInBounds 7 (.string σ.ofT)).setIfInBounds 8 (.bool σ.plainT)) _ _)
        rw [rcells_same R bg' ps' _ _ ho.symm hp.symm]
        exact hr
      rsz := by show 7 + 1 < 9; decide
      tok := hta
      tle := hle
      bz := Nat.le_trans (Nat.le_trans h.bz h.fr.size) kt.size
      bB := h.bB
      bR := h.bR
      bN := h.bN
      frs := fun h2 i g hi hg hv => by
        have h3 := hfr h2 g hg
        have h4 : g < w.heap.size := by
          cases hel : σ.el? i with
          | none => rw [h.ael i hi hel] at hv; cases hv
          | some el =>
            have h5 := h.nds i (.el el) (Ab.node_of_el hel)
            exact (h5.2.1.lt g hv).2
        omega }
structure TkV (a b : Nat) (kd : Int) (T : TypeId) (x : Value) : Prop where
  meth : ∀ w, (Go.method 500 T x "Bytes").run Tryz.prog w = .ok (436, .agg #[.int .i64 (a : Int), .int .i64 (b : Int)]) w
  nil : ∀ w, (nilAhead 500 T x "Bytes").run Tryz.prog w = .ok (some false) w
  kind : ∀ w, Calls Tryz.prog 58 #[.iface T x] w fun e w' => e = .returned (.int .i64 kd) ∧ w' = w
theorem tkv_char (a b : Nat) (s : ByteArray) : TkV a b 1 188 (.agg #[.int .i64 (a : Int), .int .i64 (b : Int), .string s]) :=
  ⟨fun w => by kernel_rfl, fun w => by kernel_rfl, fun w => kind_char (envOf 0 0 0 0 #[] ⟨⟨#[]⟩, .nilFunc, 0, .nilFunc, 0, ⟨#[]⟩, false⟩ 0 0 w) a b s w⟩
set_option maxHeartbeats 1000000 in
theorem kind_start (a b : Int) (n : ByteArray) (x : Option Addr) (m c : Nat) (w : World) : Calls Tryz.prog 58 #[.iface 196 (.agg #[.int .i64 a, .int .i64 b, .string n, .slice x m c])] w fun e w' => e = .returned (.int .i64 2) ∧ w' = w := by
  have q_Char := fun (v : Value) (xT : TypeId) (w : World) => ta_no (T := 196) (z := .agg #[.int .i64 0, .int .i64 0, .string ⟨#[]⟩]) Tryz.underlying188 (by kernel_rfl) (by decide) v xT w
  have q_StartTag := fun (v : Value) (xT : TypeId) (w : World) => ta_yes Tryz.underlying196 v xT w
  go_enter Tryz.func58, Tryz.ntmps58
  go_wp2
  go_ret
  exact ⟨rfl, rfl⟩
theorem tkv_start (a b : Nat) (n : ByteArray) (x : Option Addr) (m c : Nat) : TkV a b 2 196 (.agg #[.int .i64 (a : Int), .int .i64 (b : Int), .string n, .slice x m c]) :=
  ⟨fun w => by kernel_rfl, fun w => by kernel_rfl, fun w => kind_start a b n x m c w⟩
inductive NextIs (s : ByteArray) (l p q : Nat) : ATok → Int → Prop
  | chr (t : ByteArray) (h : ∀ (R : RC) look lg, R.cs = csOf s → R.at_ = (l : Int) → pre (R.cs.extract p R.cs.size) ⟨#[60]⟩ = false ∧ p + charSize look lg (R.cs.extract p R.cs.size) = q ∧ charText look lg (R.cs.extract p R.cs.size) = t) : NextIs s l p q ⟨cutOf s p, cutOf s q, .char t, []⟩ 1
  | sta (nm : ByteArray) (L : List (ByteArray × ByteArray)) (h : ∀ (R : RC) look lg, R.cs = csOf s → R.at_ = (l : Int) → pre (R.cs.extract p R.cs.size) ⟨#[60]⟩ = true ∧ isLet R (p + 1) = true ∧ tagGo R look lg [] (tagA R (p + 1)) = .whole q L ∧ tagNm R (p + 1) = nm) (hL : L.length ≤ 4096) : NextIs s l p q ⟨cutOf s p, cutOf s q, .start nm, L⟩ 2
def TokIs (t : ATok) (kd : Int) (w w' : World) (e : Ending) : Prop := ∃ T x tv, e = .returned (.iface T x) ∧ (∀ E : Env, E.tv = tv → tokV E t = .iface T x) ∧ TkV t.a t.b kd T x ∧ (∃ y m c, tv = .slice y m c) ∧ Atr w' tv t.attrs ∧ t.attrs.length ≤ 4096 ∧ (t.isTag = true → ∀ g, tv.ownBlock = some g → w.heap.size ≤ g)
theorem next_tok {s : ByteArray} {l p q : Nat} {t : ATok} {kd : Int} (hN : NextIs s l p q t kd) (r : Nat) (R : RC) (bg g cap b lg : Nat) (look : ByteArray → Option ByteArray) (w : World) (h : Rd w r R bg p) (hA : Ats w r R g cap (cutOf s)) (hNm : Nm w r R b lg look) (hG : Gl w r) (ho : R.ofT = ⟨#[]⟩) (hc : R.cs = csOf s) (hl : R.at_ = (l : Int)) (hp : p < R.cs.size) (hs : R.cs.size ≤ 1024) :
    Calls Tryz.prog 56 #[.pointer (some ⟨r, 0, none⟩)] w fun e w' => TokIs t kd w w' e ∧ Kept [r] w w' ∧ Rd w' r R p q := by
  cases hN with
  | chr t h0 =>
    obtain ⟨h1, h2, h3⟩ := h0 R look lg hc hl
    refine (next_chr r R bg p g cap b lg look (cutOf s) w h hA hNm ho hp hs h1).mono ?_
    rw [h2, h3]
    rintro e w' ⟨rfl, hk, hr⟩
    exact ⟨⟨_, _, .slice none 0 0, rfl, fun _ _ => rfl, tkv_char _ _ _, ⟨_, _, _, rfl⟩, World.ownsRow_nil _ _ _ _, Nat.zero_le _, fun h => by cases h⟩, hk, hr⟩
  | sta nm L h0 hL =>
    obtain ⟨h1, h2, h3, h4⟩ := h0 R look lg hc hl
    refine (next_start r R bg p g cap b lg q L look (cutOf s) w h hA hNm hG ho hs hp h1 h2 h3).mono ?_
    rw [h4]
    rintro e w' ⟨⟨v, rfl, ao, cp, rfl, hown⟩, hk, hr⟩
    refine ⟨⟨_, _, .slice ao L.length cp, rfl, fun E hE => ?_, tkv_start _ _ _ _ _ _, ⟨_, _, _, rfl⟩, ownsRow_base hown (Nat.zero_le _), hL, fun _ g hg => (hown.lt g hg).1⟩, hk, hr⟩
    show Value.iface 196 (.agg #[_, _, _, E.tv]) = _
    rw [hE]
theorem Take_S {s : ByteArray} {l p q : Nat} {t : ATok} {kd : Int} (hN : NextIs s l p q t kd) (E : Env) (htv : ∃ x m c, E.tv = .slice x m c) (ht : TokOk E t) : Does E 57 (fun _ => #[Bp E, tokV E t]) (TakeM takeS t) uV := by
  cases hN with
  | chr t h0 => exact Take_char E takeS (fun m t ht => takeS_p E htv m t ht) _ _ _ _ ht
  | sta nm L h0 hL => exact Take_start E takeS (fun m t ht => takeS_p E htv m t ht) _ _ _ _ ht
end Go.Proofs.YtlhhgenpcjjajaaGreatDoor
namespace Go.Proofs.YtlhhgenpcjjajaaGreatDoor
open Go.RowKit
inductive Tn
  | el (name : ByteArray) (ats : List (ByteArray × ByteArray)) (kids : List Tn)
  | tx (s : ByteArray)
  | cm (s : ByteArray)
  | dt (s : ByteArray)
inductive Ev
  | dt (s : ByteArray)
  | cm (s : ByteArray)
  | tx (s : ByteArray)
  | enter (name : ByteArray) (ats : List (ByteArray × ByteArray))
  | leave (name : ByteArray)
mutual
def evT (vd : ByteArray → Bool) : Tn → List Ev
  | .el name ats ks => .enter name ats :: (if vd name then [] else evS vd ks ++ [.leave name])
  | .tx s => [.tx s]
  | .cm s => [.cm s]
  | .dt s => [.dt s]
def evS (vd : ByteArray → Bool) : List Tn → List Ev
  | [] => []
  | t :: ts => evT vd t ++ evS vd ts
end
abbrev flatA (ats : List (ByteArray × ByteArray)) : List Value := ats.flatMap fun a => [.string a.1, .string a.2]
abbrev AtrA (w : World) (v : Value) (ats : List (ByteArray × ByteArray)) : Prop := w.ownsRow 0 299 2 v ats.length (flatA ats)
mutual
def IsTn (w : World) : Tn → Nd → Prop
  | .el name ats ks, .el k => ∃ av par kv ns, El 0 w k name av par kv ns ∧ AtrA w av ats ∧ ats.length ≤ 4096 ∧ IsTs w ks ns
  | .tx s, .tx k => w.heap[k]? = some (.cells #[.string s] 284 (0, 0))
  | .cm s, .cm k => w.heap[k]? = some (.cells #[.string s] 239 (0, 0))
  | .dt s, .dt k => w.heap[k]? = some (.cells #[.string s] 243 (0, 0))
  | _, _ => False
def IsTs (w : World) : List Tn → List Nd → Prop
  | [], [] => True
  | t :: ts, n :: ns => IsTn w t n ∧ IsTs w ts ns
  | _, _ => False
end
theorem IsTs.len {w : World} : ∀ {ts : List Tn} {ns : List Nd}, IsTs w ts ns → ts.length = ns.length
  | [], [], _ => rfl
  | _ :: _, _ :: _, h => by unfold IsTs at h; simp [IsTs.len h.2]
  | [], _ :: _, h => by unfold IsTs at h; exact h.elim
  | _ :: _, [], h => by unfold IsTs at h; exact h.elim
theorem IsTs.get {w : World} : ∀ {ts : List Tn} {ns : List Nd} (_ : IsTs w ts ns) (k : Nat) (h1 : k < ts.length) (h2 : k < ns.length), IsTn w ts[k] ns[k]
  | [], _, _, _, h1, _ => by simp at h1
  | _ :: _, [], h, _, _, _ => by unfold IsTs at h; exact h.elim
  | _ :: _, _ :: _, h, 0, _, _ => by unfold IsTs at h; exact h.1
  | _ :: _, _ :: _, h, k + 1, h1, h2 => by
    unfold IsTs at h
    exact IsTs.get h.2 k (by simpa using h1) (by simpa using h2)
theorem evS_append (vd : ByteArray → Bool) : ∀ (a b : List Tn), evS vd (a ++ b) = evS vd a ++ evS vd b
  | [], b => by simp [evS]
  | t :: a, b => by simp [evS, evS_append vd a b]
theorem evS_one (vd : ByteArray → Bool) (t : Tn) : evS vd [t] = evT vd t := by simp [evS]
def Tells (T : TypeId) (x : Value) (m : String) (args : Array Value) (w0 : World) (tot : List Ev) (J : List Ev → World → Prop) (ev : Ev) (r : Value) : Prop :=
  ∃ f y, (∀ w, (Go.method 500 T x m).run Tryz.prog w = .ok (f, y) w) ∧ (∀ w, (nilAhead 500 T x m).run Tryz.prog w = .ok (some false) w) ∧ (∀ args w, (callFunc f args).run Tryz.prog w = .ok (.enter f args) w) ∧
    ∀ pre W, Kept [] w0 W → J pre W → pre ++ [ev] <+: tot → Calls Tryz.prog f (#[y] ++ args) W fun e W' => e = .returned r ∧ J (pre ++ [ev]) W' ∧ Kept [] w0 W'
structure Vis (T : TypeId) (x : Value) (vd : ByteArray → Bool) (tot : List Ev) (w0 : World) (J : List Ev → World → Prop) : Prop where
  mono : ∀ pre W W', J pre W → Kept [] W W' → J pre W'
  dt : ∀ s, Tells T x "Doctype" #[.string s] w0 tot J (.dt s) (.tuple #[])
  cm : ∀ s, Tells T x "Comment" #[.string s] w0 tot J (.cm s) (.tuple #[])
  tx : ∀ s, Tells T x "Text" #[.string s] w0 tot J (.tx s) (.tuple #[])
  leave : ∀ s, Tells T x "Leave" #[.string s] w0 tot J (.leave s) (.tuple #[])
  enter : ∃ f y, (∀ w, (Go.method 500 T x "Enter").run Tryz.prog w = .ok (f, y) w) ∧ (∀ w, (nilAhead 500 T x "Enter").run Tryz.prog w = .ok (some false) w) ∧ (∀ args w, (callFunc f args).run Tryz.prog w = .ok (.enter f args) w) ∧
    ∀ pre W s av ats, Kept [] w0 W → J pre W → pre ++ [.enter s ats] <+: tot → AtrA W av ats → ats.length ≤ 4096 → Calls Tryz.prog f #[y, .string s, av] W fun e W' => e = .returned (.bool (!vd s)) ∧ J (pre ++ [.enter s ats]) W' ∧ Kept [] w0 W'
set_option maxRecDepth 100000 in
set_option maxHeartbeats 1000000 in
theorem textV {T : TypeId} {x : Value} {vd : ByteArray → Bool} {tot : List Ev} {w0 : World} {J : List Ev → World → Prop} (V : Vis T x vd tot w0 J) (k : Nat) (s : ByteArray) (pre : List Ev) (W : World) (hK : Kept [] w0 W) (hJ : J pre W) (hp : pre ++ [.tx s] <+: tot) (hb : W.heap[k]? = some (.cells #[.string s] 284 (0, 0))) :
    Calls Tryz.prog 445 #[.pointer (some ⟨k, 0, none⟩), .iface T x] W fun e W' => e = .returned (.tuple #[]) ∧ J (pre ++ [.tx s]) W' ∧ Kept [] w0 W' := by
  have hmf : ∀ (fn : Fn) (first cap : Array Value) (w : World), (Instr.makeFunc fn first cap).run Tryz.prog w = .ok (.func fn first cap) w := fun _ _ _ _ => rfl
  obtain ⟨f, y, hm, hna, hcf, hc⟩ := V.tx s
  have C := hide (fun q => hc pre (W.drewN q) (hK.drewN q) (V.mono _ _ _ hJ ((Kept.refl _ _).drewN q)) hp)
  have c0 : W.cell? ⟨k, 0, none⟩ = some (.string s) := by rw [cell_at hb]; rfl
  clear hc V hb hK hJ hp
  generalize hJJ : J (pre ++ [.tx s]) = J' at C ⊢
  clear hJJ
  go_enter Tryz.func445, Tryz.ntmps445
  go_wp2_with fail
  go_region_with (refine (C.out _).mono ?_; rintro e W1 ⟨rfl, h1, h2⟩)
  all_goals (try go_wp2)
  all_goals (go_end0; exact ⟨rfl, h1, h2⟩)
set_option maxRecDepth 100000 in
set_option maxHeartbeats 1000000 in
theorem commentV {T : TypeId} {x : Value} {vd : ByteArray → Bool} {tot : List Ev} {w0 : World} {J : List Ev → World → Prop} (V : Vis T x vd tot w0 J) (k : Nat) (s : ByteArray) (pre : List Ev) (W : World) (hK : Kept [] w0 W) (hJ : J pre W) (hp : pre ++ [.cm s] <+: tot) (hb : W.heap[k]? = some (.cells #[.string s] 239 (0, 0))) :
    Calls Tryz.prog 443 #[.pointer (some ⟨k, 0, none⟩), .iface T x] W fun e W' => e = .returned (.tuple #[]) ∧ J (pre ++ [.cm s]) W' ∧ Kept [] w0 W' := by
  have hmf : ∀ (fn : Fn) (first cap : Array Value) (w : World), (Instr.makeFunc fn first cap).run Tryz.prog w = .ok (.func fn first cap) w := fun _ _ _ _ => rfl
  obtain ⟨f, y, hm, hna, hcf, hc⟩ := V.cm s
  have C := hide (fun q => hc pre (W.drewN q) (hK.drewN q) (V.mono _ _ _ hJ ((Kept.refl _ _).drewN q)) hp)
  have c0 : W.cell? ⟨k, 0, none⟩ = some (.string s) := by rw [cell_at hb]; rfl
  clear hc V hb hK hJ hp
  generalize hJJ : J (pre ++ [.cm s]) = J' at C ⊢
  clear hJJ
  go_enter Tryz.func443, Tryz.ntmps443
  go_wp2_with fail
  go_region_with (refine (C.out _).mono ?_; rintro e W1 ⟨rfl, h1, h2⟩)
  all_goals (try go_wp2)
  all_goals (go_end0; exact ⟨rfl, h1, h2⟩)
set_option maxRecDepth 100000 in
set_option maxHeartbeats 1000000 in
theorem doctypeV {T : TypeId} {x : Value} {vd : ByteArray → Bool} {tot : List Ev} {w0 : World} {J : List Ev → World → Prop} (V : Vis T x vd tot w0 J) (k : Nat) (s : ByteArray) (pre : List Ev) (W : World) (hK : Kept [] w0 W) (hJ : J pre W) (hp : pre ++ [.dt s] <+: tot) (hb : W.heap[k]? = some (.cells #[.string s] 243 (0, 0))) :
    Calls Tryz.prog 444 #[.pointer (some ⟨k, 0, none⟩), .iface T x] W fun e W' => e = .returned (.tuple #[]) ∧ J (pre ++ [.dt s]) W' ∧ Kept [] w0 W' := by
  have hmf : ∀ (fn : Fn) (first cap : Array Value) (w : World), (Instr.makeFunc fn first cap).run Tryz.prog w = .ok (.func fn first cap) w := fun _ _ _ _ => rfl
  obtain ⟨f, y, hm, hna, hcf, hc⟩ := V.dt s
  have C := hide (fun q => hc pre (W.drewN q) (hK.drewN q) (V.mono _ _ _ hJ ((Kept.refl _ _).drewN q)) hp)
  have c0 : W.cell? ⟨k, 0, none⟩ = some (.string s) := by rw [cell_at hb]; rfl
  clear hc V hb hK hJ hp
  generalize hJJ : J (pre ++ [.dt s]) = J' at C ⊢
  clear hJJ
  go_enter Tryz.func444, Tryz.ntmps444
  go_wp2_with fail
  go_region_with (refine (C.out _).mono ?_; rintro e W1 ⟨rfl, h1, h2⟩)
  all_goals (try go_wp2)
  all_goals (go_end0; exact ⟨rfl, h1, h2⟩)
theorem info_atV : (Tryz.prog.info? 299).map (fun i => (i.zero, i.size, i.bytes)) = some (some (.agg #[.string ⟨#[]⟩, .string ⟨#[]⟩]), 2, 32) := by kernel_rfl
theorem flatA_length (L : List (ByteArray × ByteArray)) : (flatA L).length = L.length * 2 := by
  induction L with
  | nil => rfl
  | cons a L ih => simp [flatA] at ih ⊢; omega
set_option maxHeartbeats 1000000 in
theorem cloneV (v : Value) (L : List (ByteArray × ByteArray)) (w : World) (ho : AtrA w v L) (hL : L.length ≤ 4096) :
    Calls Tryz.prog 413 #[v] w fun e w' => ∃ v', e = .returned v' ∧ AtrA w' v' L ∧ Kept [] w w' := by
  obtain ⟨i0, hi, hz0, hz1, hz2⟩ := info_parts info_atV
  rcases ho.2 with ⟨rfl, h0⟩ | ⟨g, cap, cur, rfl, hbg, hg, _⟩
  · have hn := fun w => Lib.run_eql_slice_nil (P := Tryz.prog) w 137 299 none 0 0 0 0 Tryz.underlying137
    have : L = [] := List.eq_nil_of_length_eq_zero h0
    subst this
    clear ho
    go_enter Tryz.func413, Tryz.ntmps413
    go_wp2
    go_ret
    exact ⟨_, rfl, World.ownsRow_nil _ _ _ _, Kept.refl _ _⟩
  · have hn := fun w => Lib.run_eql_slice_nil (P := Tryz.prog) w 137 299 (some ⟨g, 0, none⟩) L.length cap 0 0 Tryz.underlying137
    have HO := hide ho
    have hlt := lt_of_block hg
    have hempty : (w.alloc (.cells #[] 299)).ownsRow w.heap.size 299 2 (.slice (some ⟨w.heap.size, 0, none⟩) 0 0) 0 [] :=
      ⟨rfl, .inr ⟨w.heap.size, 0, #[], rfl, Nat.le_refl _, heap_alloc_at w _, Nat.le_refl _, Nat.zero_le _, rfl, rfl⟩⟩
    have HE := hide hempty
    clear ho hempty
    go_enter Tryz.func413, Tryz.ntmps413
    go_wp2_with (at_builtin; refine wpList_append_ownF _ rfl _ _ 137 rfl w.heap.size 299 i0 (.agg #[.string ⟨#[]⟩, .string ⟨#[]⟩]) 2 32 Tryz.underlying137 hi hz0 hz1 hz2 rfl (by decide) _ _ _ rfl HE.out ⟨g, 0, none⟩ L.length cap (flatA L) rfl ?c1 ?c2 ?c3 ?c4 ?c5 ?c6 ?_)
    case c1 => exact flatA_length L
    case c2 =>
      intro j u hj
      have := HO.out.cells (g := g) rfl j u hj
      rw [addr_add] at this ⊢
      rw [← this]
      exact World.cell?_alloc_lt _ _ _ hlt
    case c3 =>
      intro u hu
      unfold flatA at hu
      simp at hu
      obtain ⟨p, q, _, h | h⟩ := hu <;> (subst h; rfl)
    case c4 => unfold maxLen; omega
    case c5 => omega
    case c6 => simp
    intro v' w3 ho3 hg3 hf3
    have h9 : w3.ownsRow w.heap.size 299 2 v' L.length (flatA L) := by simpa using ho3
    have h8 : AtrA w3 v' L := by
      refine ⟨h9.1, ?_⟩
      rcases h9.2 with e | ⟨g1, cap1, cur1, e, _, r⟩
      · exact .inl e
      · exact .inr ⟨g1, cap1, cur1, e, Nat.zero_le _, r⟩
    have HF := hide h8
    clear h9 h8
    have HK : Hid (Kept [] w w3) := ((Kept.refl [] w).alloc _).grown hg3 (fun x hx => .inr (HE.out.lt x hx).1)
    clear ho3 hg3 hf3
    go_wp2
    go_ret
    exact ⟨_, rfl, HF.out, HK.out⟩
end Go.Proofs.YtlhhgenpcjjajaaGreatDoor
namespace Go.Proofs.YtlhhgenpcjjajaaGreatDoor
open Go.RowKit
theorem AtrA.kept {w w' : World} {v : Value} {ats : List (ByteArray × ByteArray)} (h : AtrA w v ats) (hk : Kept [] w w') : AtrA w' v ats := by
  refine ⟨h.1, ?_⟩
  rcases h.2 with e | ⟨g, cap, cur, e, h1, hc, r⟩
  · exact .inl e
  · exact .inr ⟨g, cap, cur, e, h1, hk.at hc (by simp), r⟩
theorem El.kept0 {w w' : World} {k : Nat} {name : ByteArray} {av : Value} {par : Option Nat} {kv : Value} {ns : List Nd} (h : El 0 w k name av par kv ns) (hk : Kept [] w w') : El 0 w' k name av par kv ns := by
  refine ⟨hk.at h.blk (by simp), ⟨h.row.1, ?_⟩, h.le, h.avs⟩
  rcases h.row.2 with e | ⟨g, cap, cur, e, h1, hc, r⟩
  · exact .inl e
  · exact .inr ⟨g, cap, cur, e, h1, hk.at hc (by simp), r⟩
mutual
theorem IsTn.kept {w w' : World} (hk : Kept [] w w') : ∀ {t : Tn} {n : Nd}, IsTn w t n → IsTn w' t n
  | .el name ats ks, .el k, h => by
    unfold IsTn at h ⊢
    obtain ⟨av, par, kv, ns, h1, h2, h3, h4⟩ := h
    exact ⟨av, par, kv, ns, h1.kept0 hk, h2.kept hk, h3, IsTs.kept hk h4⟩
  | .tx _, .tx _, h => by unfold IsTn at h ⊢; exact hk.at h (by simp)
  | .cm _, .cm _, h => by unfold IsTn at h ⊢; exact hk.at h (by simp)
  | .dt _, .dt _, h => by unfold IsTn at h ⊢; exact hk.at h (by simp)
  | .el _ _ _, .tx _, h => by unfold IsTn at h; exact h.elim
  | .el _ _ _, .cm _, h => by unfold IsTn at h; exact h.elim
  | .el _ _ _, .dt _, h => by unfold IsTn at h; exact h.elim
  | .tx _, .el _, h => by unfold IsTn at h; exact h.elim
  | .tx _, .cm _, h => by unfold IsTn at h; exact h.elim
  | .tx _, .dt _, h => by unfold IsTn at h; exact h.elim
  | .cm _, .el _, h => by unfold IsTn at h; exact h.elim
  | .cm _, .tx _, h => by unfold IsTn at h; exact h.elim
  | .cm _, .dt _, h => by unfold IsTn at h; exact h.elim
  | .dt _, .el _, h => by unfold IsTn at h; exact h.elim
  | .dt _, .tx _, h => by unfold IsTn at h; exact h.elim
  | .dt _, .cm _, h => by unfold IsTn at h; exact h.elim
theorem IsTs.kept {w w' : World} (hk : Kept [] w w') : ∀ {ts : List Tn} {ns : List Nd}, IsTs w ts ns → IsTs w' ts ns
  | [], [], _ => by unfold IsTs; trivial
  | t :: ts, n :: ns, h => by
    unfold IsTs at h ⊢
    exact ⟨IsTn.kept hk h.1, IsTs.kept hk h.2⟩
  | [], _ :: _, h => by unfold IsTs at h; exact h.elim
  | _ :: _, [], h => by unfold IsTs at h; exact h.elim
end
section
variable {T : TypeId} {x : Value} {vd : ByteArray → Bool} {tot : List Ev} {w0 : World} {J : List Ev → World → Prop}
def visitF : Nd → Nat
  | .el _ => 412
  | .tx _ => 445
  | .cm _ => 443
  | .dt _ => 444
def Nd.bk : Nd → Nat
  | .el k => k
  | .tx k => k
  | .cm k => k
  | .dt k => k
def VisitOk (T : TypeId) (x : Value) (vd : ByteArray → Bool) (tot : List Ev) (w0 : World) (J : List Ev → World → Prop) (t : Tn) (n : Nd) : Prop :=
  ∀ pre W, Kept [] w0 W → J pre W → pre ++ evT vd t <+: tot →
    Calls Tryz.prog (visitF n) #[.pointer (some ⟨n.bk, 0, none⟩), .iface T x] W fun e W' => e = .returned (.tuple #[]) ∧ J (pre ++ evT vd t) W' ∧ Kept [] w0 W'
theorem nd_method (n : Nd) (w : World) : ∃ t y, n.val = .iface t y ∧ y = .pointer (some ⟨n.bk, 0, none⟩) ∧ (∀ w, (Go.method 500 t y "Visit").run Tryz.prog w = .ok (visitF n, y) w) := by
  cases n with
  | el k => exact ⟨_, _, rfl, rfl, fun w => by kernel_rfl⟩
  | tx k => exact ⟨_, _, rfl, rfl, fun w => by kernel_rfl⟩
  | cm k => exact ⟨_, _, rfl, rfl, fun w => by kernel_rfl⟩
  | dt k => exact ⟨_, _, rfl, rfl, fun w => by kernel_rfl⟩
theorem nd_enters (n : Nd) : ∀ args w, (callFunc (visitF n) args).run Tryz.prog w = .ok (.enter (visitF n) args) w := by
  cases n with
  | el k => exact enters_of Tryz.func412 (by kernel_rfl) rfl
  | tx k => exact enters_of Tryz.func445 (by kernel_rfl) rfl
  | cm k => exact enters_of Tryz.func443 (by kernel_rfl) rfl
  | dt k => exact enters_of Tryz.func444 (by kernel_rfl) rfl
theorem pre_of {a b c : List Ev} (h : a ++ (b ++ c) <+: tot) : a ++ b <+: tot := by
  obtain ⟨r, hr⟩ := h
  exact ⟨c ++ r, by rw [← hr]; simp⟩
set_option maxRecDepth 100000 in
set_option maxHeartbeats 1000000 in
theorem children_ok (V : Vis T x vd tot w0 J) (k : Nat) (name : ByteArray) (av : Value) (par : Option Nat) (kv : Value) (ts : List Tn) (ns : List Nd) (hl : ts.length = ns.length)
    (hE : El 0 w0 k name av par kv ns) (hv : ∀ i (h1 : i < ts.length) (h2 : i < ns.length), VisitOk T x vd tot w0 J ts[i] ns[i]) (pre : List Ev) (W : World) (hK : Kept [] w0 W) (hJ : J pre W) (hp : pre ++ evS vd ts <+: tot) :
    Calls Tryz.prog 42 #[.pointer (some ⟨k, 0, none⟩), .iface T x] W fun e W' => e = .returned (.tuple #[]) ∧ J (pre ++ evS vd ts) W' ∧ Kept [] w0 W' := by
  have c3 : W.cell? ⟨k, 3, none⟩ = some kv := by rw [cell_at (hE.kept0 hK).blk]; rfl
  have hle := hE.le
  obtain ⟨ao, cap, hkv⟩ := owns_shape hE.row
  have HE := hide hE
  have HV := hide hv
  have HP := hide hp
  have HJ := hide hJ
  have HK := hide hK
  have HL := hide hl
  obtain ⟨n, hn⟩ : ∃ n, n = ns.length := ⟨_, rfl⟩
  have HN := hide hn
  subst hkv
  rw [← hn] at c3 hle
  clear hE hv hp hJ hK hl hn
  go_enter Tryz.func42, Tryz.ntmps42
  go_wp2_with fail
  go_loopw [11] (fun v wr => ∃ i : Nat, v = .int .i64 i ∧ i ≤ n ∧ J (pre ++ evS vd (ts.take i)) wr ∧ Kept [] w0 wr) (fun v _ => n - (intOf v).toNat)
  case atStart => exact ⟨0, rfl, Nat.zero_le _, by simpa [evS] using HJ.out, HK.out⟩
  case round =>
    obtain ⟨i, rfl, hi, hj, hkw⟩ := hrel
    by_cases hlt : i < n
    · have h2 : i < ns.length := by rw [← HN.out]; exact hlt
      have h1 : i < ts.length := by rw [HL.out]; exact h2
      obtain ⟨t, y, hval, hy, hm⟩ := nd_method ns[i] wr
      have hcf := nd_enters ns[i]
      obtain ⟨g, hao⟩ : ∃ g, ao = some ⟨g, 0, none⟩ := by
        rcases HE.out.row.2 with ⟨e, h0⟩ | ⟨g, cap', cur, e, _⟩
        · omega
        · injection e with e1; exact ⟨g, e1⟩
      subst hao
      have hc : wr.cell? ⟨g, i, none⟩ = some (.iface t y) := by
        have := (HE.out.kept0 hkw).row.cells (g := g) rfl i ns[i].val (by simp [h2])
        rw [addr_add] at this
        rw [← hval]
        simpa using this
      have hstep : evS vd (ts.take (i + 1)) = evS vd (ts.take i) ++ evT vd ts[i] := by
        rw [List.take_add_one, List.getElem?_eq_getElem h1, evS_append]
        simp [evS_one]
      have hpre : pre ++ evS vd (ts.take (i + 1)) <+: tot := by
        refine pre_of (c := evS vd (ts.drop (i + 1))) ?_
        rw [← evS_append, List.take_append_drop]
        exact HP.out
      have C := hide (HV.out i h1 h2 _ wr hkw hj (by rw [List.append_assoc, ← hstep]; exact hpre))
      rw [List.append_assoc, ← hstep] at C
      rw [hy] at hc hm
      clear hval hy hpre hj hkw
      generalize visitF ns[i] = fv at *
      generalize ns[i].bk = kb at *
      generalize hZ : J (pre ++ evS vd (ts.take (i + 1))) = Z at C
      have HZ := hide hZ
      clear hZ hstep
      go_wp2_with fail
      refine C.out.mono ?_
      rintro e W2 ⟨rfl, hz, hk2⟩
      have HZ2 := hide hz
      have HK2 := hide hk2
      clear hz hk2
      go_wp2
      go_roundw
      case rel => exact ⟨i + 1, by go_num, by omega, by rw [HZ.out]; exact HZ2.out, HK2.out⟩
      case measure => simp [intOf]; omega
    · have he : ts.take i = ts := List.take_of_length_le (by rw [HL.out, ← HN.out]; omega)
      rw [he] at hj
      have HJ2 := hide hj
      have HK2 := hide hkw
      clear hj hkw he
      go_wp2
      go_end0
      exact ⟨rfl, HJ2.out, HK2.out⟩
set_option maxRecDepth 100000 in
set_option maxHeartbeats 2000000 in
theorem elementV (V : Vis T x vd tot w0 J) (k : Nat) (name : ByteArray) (ats : List (ByteArray × ByteArray)) (av : Value) (par : Option Nat) (kv : Value) (ts : List Tn) (ns : List Nd) (hl : ts.length = ns.length)
    (hE : El 0 w0 k name av par kv ns) (hA : AtrA w0 av ats) (hal : ats.length ≤ 4096) (hv : ∀ i (h1 : i < ts.length) (h2 : i < ns.length), VisitOk T x vd tot w0 J ts[i] ns[i]) : VisitOk T x vd tot w0 J (.el name ats ts) (.el k) := by
  intro pre W hK hJ hp
  show Calls Tryz.prog 412 #[.pointer (some ⟨k, 0, none⟩), .iface T x] W _
  have hmf : ∀ (fn : Fn) (first cap : Array Value) (w : World), (Instr.makeFunc fn first cap).run Tryz.prog w = .ok (.func fn first cap) w := fun _ _ _ _ => rfl
  have c0 : W.cell? ⟨k, 0, none⟩ = some (.string name) := by rw [cell_at (hE.kept0 hK).blk]; rfl
  have c1 : W.cell? ⟨k, 1, none⟩ = some av := by rw [cell_at (hE.kept0 hK).blk]; rfl
  have hp1 : pre ++ [.enter name ats] <+: tot := by
    unfold evT at hp
    exact pre_of (b := [.enter name ats]) (by simpa using hp)
  obtain ⟨f, y, hm, hna, hcf, hc⟩ := V.enter
  have C1 := hide (fun q => cloneV av ats (W.drewN q) ((hA.kept hK).kept ((Kept.refl _ _).drewN q)) hal)
  have C2 := hide (fun q W1 v1 (hk : Kept [] (W.drewN q) W1) (ha : AtrA W1 v1 ats) => hc pre W1 name v1 ats ((hK.drewN q).trans hk) (V.mono _ _ _ hJ (((Kept.refl _ _).drewN q).trans hk)) hp1 ha hal)
  obtain ⟨ao, n, cp, hav⟩ := hE.avs
  subst hav
  have HV := hide V
  have HE := hide hE
  have HW := hide hv
  have HP := hide hp
  have HL := hide hl
  have HKW := hide hK
  clear hc V hK hJ hp hp1 hA hal hE hv hl
  go_enter Tryz.func412, Tryz.ntmps412
  go_wp2_with fail
  go_cut [17] from 4 to 16 (fun r wc => r = .bool (!vd name) ∧ J (pre ++ [.enter name ats]) wc ∧ Kept [] w0 wc)
  case first =>
    go_region_with (first
      | (go_at_call 413; refine (C1.out _).mono ?_; rintro e W1 ⟨v1, rfl, ha1, hk1⟩; obtain ⟨ao1, cp1, hv1⟩ := owns_shape ha1; subst hv1; have HA1 := hide ha1; have HK1 := hide hk1; have c2 : W1.cell? ⟨k, 0, none⟩ = some (.string name) := (by rw [cell_at (HE.out.kept0 ((HKW.out.drewN _).trans hk1)).blk]; rfl); clear ha1 hk1)
      | (refine (C2.out _ _ _ HK1.out HA1.out).mono ?_; rintro e W2 ⟨rfl, hj2, hk2⟩; have HJ2 := hide hj2; have HK2 := hide hk2; clear hj2 hk2))
    all_goals (try (go_wp2_with fail))
    all_goals (go_meet; exact ⟨rfl, HJ2.out, HK2.out⟩)
  case rest =>
    obtain ⟨rfl, hj, hk⟩ := hcut
    clear C1 C2 hm hna hcf c0 c1
    cases hvd : vd name with
    | true =>
      have he : pre ++ evT vd (.el name ats ts) = pre ++ [.enter name ats] := by simp [evT, hvd]
      rw [← he] at hj
      have HJ := hide hj
      have HK := hide hk
      clear hj hk he
      rename_i K hK
      refine hK _ _ ?_
      clear hK
      simp only [Bool.not_true]
      go_wp2
      go_end0
      exact ⟨rfl, HJ.out, HK.out⟩
    | false =>
      have he : evT vd (.el name ats ts) = .enter name ats :: (evS vd ts ++ [.leave name]) := by simp [evT, hvd]
      have hp2 : (pre ++ [.enter name ats]) ++ evS vd ts <+: tot := pre_of (c := [.leave name]) (by have := HP.out; rw [he] at this; simpa using this)
      have hp3 : (pre ++ [.enter name ats] ++ evS vd ts) ++ [.leave name] <+: tot := by have := HP.out; rw [he] at this; simpa using this
      have e3 : pre ++ evT vd (.el name ats ts) = (pre ++ [.enter name ats] ++ evS vd ts) ++ [.leave name] := by rw [he]; simp
      have C3 := hide (children_ok HV.out k name _ par kv ts ns HL.out HE.out HW.out _ wc hk hj hp2)
      obtain ⟨f, y, hm, hna, hcf, hc⟩ := HV.out.leave name
      have C4 := hide (fun q W2 (hk2 : Kept [] w0 W2) (hj2 : J (pre ++ [.enter name ats] ++ evS vd ts) W2) => hc _ (W2.drewN q) (hk2.drewN q) (HV.out.mono _ _ _ hj2 ((Kept.refl _ _).drewN q)) hp3)
      rw [← e3] at C4
      clear hp2 hp3 he e3 hj hk hc
      generalize hJJ : J (pre ++ [.enter name ats] ++ evS vd ts) = J1 at C3 C4
      clear hJJ
      rename_i K hK
      refine hK _ _ ?_
      clear hK
      simp only [Bool.not_false]
      go_wp2_with fail
      refine C3.out.mono ?_
      rintro e W2 ⟨rfl, hj2, hk2⟩
      have c0 : W2.cell? ⟨k, 0, none⟩ = some (.string name) := by rw [cell_at (HE.out.kept0 hk2).blk]; rfl
      have HJ2 := hide hj2
      have HK2 := hide hk2
      clear hj2 hk2
      go_wp2_with fail
      go_region_with (refine (C4.out _ _ HK2.out HJ2.out).mono ?_; rintro e W3 ⟨rfl, hj3, hk3⟩)
      all_goals (try go_wp2)
      all_goals (go_end0; exact ⟨rfl, hj3, hk3⟩)
end
end Go.Proofs.YtlhhgenpcjjajaaGreatDoor
namespace Go.Proofs.YtlhhgenpcjjajaaGreatDoor
open Go.RowKit
section
variable {T : TypeId} {x : Value} {vd : ByteArray → Bool} {tot : List Ev} {w0 : World} {J : List Ev → World → Prop}
theorem visit_ok (V : Vis T x vd tot w0 J) : ∀ (t : Tn) (n : Nd), IsTn w0 t n → VisitOk T x vd tot w0 J t n
  | .el name ats ks, .el k, h => by
    unfold IsTn at h
    obtain ⟨av, par, kv, ns, h1, h2, h3, h4⟩ := h
    exact elementV V k name ats av par kv ks ns h4.len h1 h2 h3 (fun i i1 i2 => visit_ok V ks[i] ns[i] (h4.get i i1 i2))
  | .tx s, .tx k, h => by
    unfold IsTn at h
    intro pre W hK hJ hp
    unfold evT at hp ⊢
    exact textV V k s pre W hK hJ hp (hK.at h (by simp))
  | .cm s, .cm k, h => by
    unfold IsTn at h
    intro pre W hK hJ hp
    unfold evT at hp ⊢
    exact commentV V k s pre W hK hJ hp (hK.at h (by simp))
  | .dt s, .dt k, h => by
    unfold IsTn at h
    intro pre W hK hJ hp
    unfold evT at hp ⊢
    exact doctypeV V k s pre W hK hJ hp (hK.at h (by simp))
  | .el _ _ _, .tx _, h => by unfold IsTn at h; exact h.elim
  | .el _ _ _, .cm _, h => by unfold IsTn at h; exact h.elim
  | .el _ _ _, .dt _, h => by unfold IsTn at h; exact h.elim
  | .tx _, .el _, h => by unfold IsTn at h; exact h.elim
  | .tx _, .cm _, h => by unfold IsTn at h; exact h.elim
  | .tx _, .dt _, h => by unfold IsTn at h; exact h.elim
  | .cm _, .el _, h => by unfold IsTn at h; exact h.elim
  | .cm _, .tx _, h => by unfold IsTn at h; exact h.elim
  | .cm _, .dt _, h => by unfold IsTn at h; exact h.elim
  | .dt _, .el _, h => by unfold IsTn at h; exact h.elim
  | .dt _, .tx _, h => by unfold IsTn at h; exact h.elim
  | .dt _, .cm _, h => by unfold IsTn at h; exact h.elim
  termination_by t => SizeOf.sizeOf t
  decreasing_by
    have := List.sizeOf_lt_of_mem (List.getElem_mem i1)
    simp
    omega
theorem visitChildren_ok (V : Vis T x vd tot w0 J) (k : Nat) (name : ByteArray) (ats : List (ByteArray × ByteArray)) (ts : List Tn) (h : IsTn w0 (.el name ats ts) (.el k)) (ht : evS vd ts = tot) (W : World) (hK : Kept [] w0 W) (hJ : J [] W) :
    Calls Tryz.prog 42 #[.pointer (some ⟨k, 0, none⟩), .iface T x] W fun e W' => e = .returned (.tuple #[]) ∧ J tot W' ∧ Kept [] w0 W' := by
  unfold IsTn at h
  obtain ⟨av, par, kv, ns, h1, h2, h3, h4⟩ := h
  have := children_ok V k name av par kv ts ns h4.len h1 (fun i i1 i2 => visit_ok V ts[i] ns[i] (h4.get i i1 i2)) [] W hK hJ (by rw [ht]; exact ⟨[], by simp⟩)
  rw [List.nil_append, ht] at this
  exact this
end
end Go.Proofs.YtlhhgenpcjjajaaGreatDoor
