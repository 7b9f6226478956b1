import Derived.Test.YtlhhgenpcjjajaaGreatDoorRlE
import Derived.Test.YtlhhgenpcjjajaaGreatDoorWrA
import Derived.Test.YtlhhgenpcjjajaaGreatDoorLsE
import Derived.Maps.AppendAt
import Derived.Test.YtlhhgenpcjjajaaGreatDoorBuA
set_option linter.unusedSimpArgs false
set_option linter.unusedVariables false
namespace Go.Proofs.YtlhhgenpcjjajaaGreatDoor
open Go.RowKit Go.PlainAid
theorem chk_of {p : Nat → Bool} (h : (List.range 127).all (fun n => p (n + 1)) = true) {n : Nat} (h1 : 1 ≤ n) (h2 : n ≤ 127) : p n = true := by
  have := List.all_eq_true.1 h (n - 1) (by simp; omega)
  rw [show n - 1 + 1 = n by omega] at this
  exact this
theorem ba_ext {a : ByteArray} {l : List UInt8} (h : a.data.toList = l) : a = ⟨l.toArray⟩ := by
  apply ByteArray.ext
  rw [← h]
set_option maxRecDepth 100000 in
theorem nul_all : (List.range 127).all (fun n => decide (Lib.replaceAll [(n + 1).toUInt8] [0] [239, 191, 189] = [(n + 1).toUInt8])) = true := by kernel_rfl
theorem noNul_sgn {n : Nat} (h1 : 1 ≤ n) (h2 : n ≤ 127) : noNul (sgn n) = sgn n := by
  have := chk_of (p := fun n => decide (Lib.replaceAll [n.toUInt8] [0] [239, 191, 189] = [n.toUInt8])) nul_all h1 h2
  have := of_decide_eq_true this
  unfold noNul sgn
  simp only []
  rw [this]
theorem noNul_span : noNul ⟨#[115, 112, 97, 110]⟩ = (⟨#[115, 112, 97, 110]⟩ : ByteArray) := by kernel_rfl
theorem noNul_a : noNul ⟨#[97]⟩ = ⟨#[97]⟩ := by kernel_rfl
theorem kD_le (n : Nat) : 1 ≤ kD n ∧ kD n ≤ 3 := by
  unfold kD dg
  split
  · exact ⟨by simp, by simp⟩
  · split <;> exact ⟨by simp, by simp⟩
theorem txt_cs {n : Nat} (h1 : 1 ≤ n) (h2 : n ≤ 127) : csOf (txt n) = txt n ∧ (txt n).size = 19 + 2 * kD n := by
  have h := chk_of chkA_all h1 h2
  simp only [chkA, Bool.and_eq_true, decide_eq_true_eq] at h
  exact ⟨ba_ext h.1.1, h.1.2⟩
theorem scan_s {q : Int → Bool} {s : ByteArray} (hs : s.size ≤ 64) (i : Nat) : scan q s i = sF q s i := scan_fuel 64 i (by omega)
theorem ref_facts {u : ByteArray} {n : Nat} (h : refF u n = true) (hz : u.size ≤ 64) (look : ByteArray → Option ByteArray) (lg : Nat) (inV : Bool) : refSize look lg u inV = 3 + kD n ∧ refText look lg u inV = sgn n := by
  simp only [refF, Bool.and_eq_true, decide_eq_true_eq, Bool.not_eq_true', decide_eq_false_iff_not] at h
  obtain ⟨⟨⟨⟨h1, h2⟩, h3⟩, h4⟩, h5⟩ := h
  have hp : pre u ⟨#[38, 35]⟩ = true := by rw [pre_fuel]; exact h1
  have hx : isHex u = false := by unfold isHex; exact decide_eq_false (fun e => h3 e.2)
  have he : numEnd 10 u 2 = 3 + kD n := by
    rw [← h4]
    unfold numEnd numEndF dend
    rw [scan_s hz]
  have hs : numSize u = 3 + kD n := by unfold numSize; rw [if_neg (by simp [hx]), he]
  refine ⟨by unfold refSize; rw [if_pos hp, hs], ?_⟩
  unfold refText
  rw [if_pos hp]
  unfold numText numT
  rw [if_neg (by simp [hx]), he, if_neg (by omega), numV_fuel 64 0 2 (by omega)]
  exact ba_ext h5
theorem val_facts {u : ByteArray} {n : Nat} (h : refF u n = true) (hz : u.size = 3 + kD n) (look : ByteArray → Option ByteArray) (lg : Nat) : valL look lg u = [n.toUInt8] := by
  have hk := kD_le n
  obtain ⟨h1, h2⟩ := ref_facts h (by omega) look lg true
  rw [valL, if_neg (by omega), if_neg (by omega), h1, h2, ← hz]
  have e : (u.extract u.size u.size).size = 0 := by simp
  rw [valL, if_pos e]
  rfl
theorem sign_start {n : Nat} (h1 : 1 ≤ n) (h2 : n ≤ 127) : NextIs (txt n) 1 0 (14 + kD n) ⟨cutOf (txt n) 0, cutOf (txt n) (14 + kD n), .start (⟨#[115, 112, 97, 110]⟩ : ByteArray), [(⟨#[97]⟩, sgn n)]⟩ 2 := by
  refine .sta _ _ (fun R look lg hc hl => ?_) (by simp)
  obtain ⟨hcs, hz⟩ := txt_cs h1 h2
  have hk := kD_le n
  rw [hcs] at hc
  have hb := chk_of chkB_all h1 h2
  have hc2 := chk_of chkC_all h1 h2
  simp only [chkB, Bool.and_eq_true, decide_eq_true_eq, Bool.not_eq_true'] at hb
  simp only [chkC, Bool.and_eq_true, decide_eq_true_eq] at hc2
  obtain ⟨⟨⟨⟨⟨⟨⟨⟨⟨⟨⟨⟨⟨⟨⟨b1, b2⟩, b3⟩, b4⟩, b5⟩, b6⟩, b7⟩, b8⟩, b9⟩, b10⟩, b11⟩, b12⟩, b13⟩, b14⟩, b15⟩, b16⟩ := hb
  generalize hs : txt n = s at *
  have hs64 : s.size ≤ 64 := by omega
  have sc : ∀ (q : Int → Bool) i, scan q R.cs i = sF q s i := fun q i => by rw [hc]; exact scan_s hs64 i
  have pr : ∀ i p, pre (R.cs.extract i R.cs.size) p = preF (s.extract i s.size) p := fun i p => by rw [hc, pre_fuel]
  have tA : tagA R 1 = 5 := by unfold tagA; rw [sc, inSet_fuel]; exact b3
  have sk1 : skipBS R 5 = 6 := by unfold skipBS; rw [sc, inSet_fuel]; exact b5
  have sk2 : skipBS R (13 + kD n) = 13 + kD n := by unfold skipBS; rw [sc, inSet_fuel]; exact b15
  have ne : nameEnd R 6 = 7 := by unfold nameEnd; rw [sc, inSet_fuel]; exact b7
  have an : attName R 6 = ⟨#[97]⟩ := by unfold attName; rw [ne, hc, small_fuel, b8]; exact noNul_a
  have tm : tooMany R (([] : List (ByteArray × ByteArray)).map (·.1)) 6 = false := by
    unfold tooMany
    rw [hl]
    simp
  have va7 : valA R 7 = 7 := by unfold valA; rw [sc, inSet_fuel]; exact b9
  have va8 : valA R 8 = 8 := by unfold valA; rw [sc, inSet_fuel]; exact b11
  have e7 : pre (R.cs.extract 7 R.cs.size) ⟨#[61]⟩ = true := by rw [pr]; exact b10
  have q8 : pre (R.cs.extract 8 R.cs.size) ⟨#[34]⟩ = true := by rw [pr]; exact b12
  have sc9 : scan (inSet ⟨#[34]⟩) R.cs 9 = 12 + kD n := by rw [sc, inSet_fuel]; exact b13
  have rt : rawText R 8 = s.extract 9 (12 + kD n) := by unfold rawText; rw [if_pos q8, sc9, hc]
  have re : rawEnd R 8 = 13 + kD n := by
    unfold rawEnd
    rw [if_pos q8]
    unfold quoted
    rw [sc9]
    unfold taken
    rw [if_pos (by rw [pr]; exact b14)]
    show 12 + kD n + 1 = _
    omega
  have vt : valText look lg R 7 = sgn n := by
    unfold valText
    rw [va7, if_pos e7, va8, rt, val_facts hc2.1 hc2.2]
    exact noNul_sgn h1 h2
  have ve : valEnd R 7 = 13 + kD n := by unfold valEnd; rw [va7, if_pos e7, va8, re]
  have wa : withAtt R look lg [] 6 = [(⟨#[97]⟩, sgn n)] := by
    unfold withAtt addAtt
    rw [an, ne, vt]
    have : isIn (([] : List (ByteArray × ByteArray)).map (·.1)) ⟨#[97]⟩ = false := by unfold isIn; rw [hasFrom.eq_1]; simp
    rw [this]
    rfl
  refine ⟨by rw [pr]; exact b1, ?_, ?_, ?_⟩
  · unfold isLet
    rw [hc, b2]
    simp
    omega
  · rw [tA, tagGo.eq_1, dif_pos (by rw [sk1, hc]; omega), sk1, if_neg (by rw [pr, b6]; simp), if_neg (by rw [tm]; simp), wa, ne, ve, tagGo.eq_1, dif_pos (by rw [sk2, hc]; omega), sk2, if_pos (by rw [pr]; exact b16), show 13 + kD n + 1 = 14 + kD n by omega]
  · unfold tagNm
    rw [tA, hc, small_fuel, b4]
    exact noNul_span
theorem sign_plain {n p : Nat} {c : UInt8} (h1 : 1 ≤ n) (h2 : n ≤ 127) (h : plainC (txt n) p c = true) : NextIs (txt n) 1 p (p + 1) ⟨cutOf (txt n) p, cutOf (txt n) (p + 1), .char ⟨#[c]⟩, []⟩ 1 := by
  refine .chr _ (fun R look lg hc hl => ?_)
  rw [(txt_cs h1 h2).1] at hc
  rw [hc]
  simp only [plainC, Bool.and_eq_true, decide_eq_true_eq, Bool.not_eq_true'] at h
  obtain ⟨⟨⟨a1, a2⟩, a3⟩, a4⟩ := h
  have hr : refSize look lg ((txt n).extract p (txt n).size) false = 0 := by unfold refSize; rw [pre_fuel, a2, pre_fuel, a3]; simp
  refine ⟨by rw [pre_fuel]; exact a1, by unfold charSize; rw [if_pos hr], ?_⟩
  unfold charText
  rw [if_pos hr]
  exact ba_ext a4
theorem sign_ref {n : Nat} (h1 : 1 ≤ n) (h2 : n ≤ 127) : NextIs (txt n) 1 (15 + kD n) (18 + 2 * kD n) ⟨cutOf (txt n) (15 + kD n), cutOf (txt n) (18 + 2 * kD n), .char (sgn n), []⟩ 1 := by
  refine .chr _ (fun R look lg hc hl => ?_)
  obtain ⟨hcs, hz⟩ := txt_cs h1 h2
  have hk := kD_le n
  rw [hcs] at hc
  rw [hc]
  have h := chk_of chkD_all h1 h2
  simp only [chkD, Bool.and_eq_true, Bool.not_eq_true'] at h
  obtain ⟨⟨_, a1⟩, a2⟩ := h
  obtain ⟨r1, r2⟩ := ref_facts a2 (by simp; omega) look lg false
  refine ⟨by rw [pre_fuel]; exact a1, ?_, ?_⟩
  · unfold charSize
    rw [if_neg (by omega), r1]
    omega
  · unfold charText
    rw [if_neg (by omega), r2]
def sps (n i : Nat) : Nat := match i with
  | 0 => 0
  | 1 => 14 + kD n
  | 2 => 15 + kD n
  | 3 => 18 + 2 * kD n
  | _ => 19 + 2 * kD n
def stk (n i : Nat) : ATok := match i with
  | 0 => ⟨cutOf (txt n) 0, cutOf (txt n) (14 + kD n), .start (⟨#[115, 112, 97, 110]⟩ : ByteArray), [(⟨#[97]⟩, sgn n)]⟩
  | 1 => ⟨cutOf (txt n) (14 + kD n), cutOf (txt n) (15 + kD n), .char ⟨#[120]⟩, []⟩
  | 2 => ⟨cutOf (txt n) (15 + kD n), cutOf (txt n) (18 + 2 * kD n), .char (sgn n), []⟩
  | _ => ⟨cutOf (txt n) (18 + 2 * kD n), cutOf (txt n) (19 + 2 * kD n), .char ⟨#[121]⟩, []⟩
def skd (i : Nat) : Int := match i with
  | 0 => 2
  | _ => 1
def atN (n : Nat) : List (ByteArray × ByteArray) := [(⟨#[97]⟩, sgn n)]
def sst (n i : Nat) : Ab := match i with
  | 0 => S0 64 1 1 0
  | 1 => SS (cutOf (txt n) 0) (atN n) none
  | 2 => SS (cutOf (txt n) (14 + kD n)) (atN n) (some ⟨#[120]⟩)
  | 3 => SS (cutOf (txt n) (15 + kD n)) (atN n) (some (⟨#[120]⟩ ++ sgn n))
  | _ => SS (cutOf (txt n) (18 + 2 * kD n)) (atN n) (some (⟨#[120]⟩ ++ sgn n ++ ⟨#[121]⟩))
theorem nul_one (c : UInt8) : isNulS ⟨#[c]⟩ = (c == 0) := by
  unfold isNulS eqS
  simp only [ByteArray.toList_eq]
  simp
theorem sgn_nul {n : Nat} (h1 : 1 ≤ n) (h2 : n ≤ 127) : isNulS (sgn n) = false := by
  have : (List.range 127).all (fun n => !((n + 1).toUInt8 == 0)) = true := by kernel_rfl
  have := chk_of (p := fun n => !(n.toUInt8 == 0)) this h1 h2
  unfold sgn
  rw [nul_one]
  simpa using this
theorem sign_run {n : Nat} (h1 : 1 ≤ n) (h2 : n ≤ 127) : Run (txt n) 64 1 1 4 (sps n) (stk n) skd (sst n) (SS (cutOf (txt n) (19 + 2 * kD n)) (atN n) (some (⟨#[120]⟩ ++ sgn n ++ ⟨#[121]⟩))) := by
  obtain ⟨hcs, hz⟩ := txt_cs h1 h2
  have hd := chk_of chkD_all h1 h2
  simp only [chkD, Bool.and_eq_true, Bool.not_eq_true'] at hd
  obtain ⟨⟨⟨d1, d2⟩, _⟩, _⟩ := hd
  have f4 : ∀ i, i < 4 → i = 0 ∨ i = 1 ∨ i = 2 ∨ i = 3 := fun i h => by omega
  refine { st0 := rfl, ps0 := rfl, lt := fun i hi => ?_, pn := by rw [hcs]; exact hz.symm, nxt := fun i hi => ?_, tak := fun i hi => ?_, last := ?_, ofT := fun i hi => ?_, lastT := ⟨rfl, rfl⟩ }
  · have hk := kD_le n
    rcases f4 i hi with rfl | rfl | rfl | rfl <;> (simp only [sps]; omega)
  · rcases f4 i hi with rfl | rfl | rfl | rfl
    · exact sign_start h1 h2
    · have := sign_plain h1 h2 d1
      rw [show 14 + kD n + 1 = 15 + kD n by omega] at this
      exact this
    · exact sign_ref h1 h2
    · have := sign_plain h1 h2 d2
      rw [show 18 + 2 * kD n + 1 = 19 + 2 * kD n by omega] at this
      exact this
  · rcases f4 i hi with rfl | rfl | rfl | rfl
    · exact take_span 0 _ _ _
    · exact take_inspan _ _ _ ⟨#[120]⟩ (nul_one 120) _ none (fun u h => by cases h)
    · exact take_inspan _ _ _ (sgn n) (sgn_nul h1 h2) _ (some ⟨#[120]⟩) (fun u h => by cases h; show 1 + 1 ≤ 1048576; decide)
    · exact take_inspan _ _ _ ⟨#[121]⟩ (nul_one 121) _ (some (⟨#[120]⟩ ++ sgn n)) (fun u h => by cases h; rw [ByteArray.size_append]; show 1 + 1 + 1 ≤ 1048576; decide)
  · rw [hcs, hz]
    exact take_spanEnd _ _ _ _ _
  · have : i = 0 ∨ i = 1 ∨ i = 2 ∨ i = 3 ∨ i = 4 := by omega
    rcases this with rfl | rfl | rfl | rfl | rfl <;> exact ⟨rfl, rfl, Nat.zero_lt_succ _⟩
end Go.Proofs.YtlhhgenpcjjajaaGreatDoor
namespace Go.Proofs.YtlhhgenpcjjajaaGreatDoor
open Go.RowKit
theorem Wt.same {w : World} {B b : Nat} {vv : Value} {l : List UInt8} (h : Wt w B b vv l) : w.setCell ⟨b, 3, none⟩ (.bool false) = w := by
  obtain ⟨p, v, hb, _⟩ := h.cells
  exact setCell_same hb 3 _ rfl
set_option maxRecDepth 100000 in
set_option maxHeartbeats 2000000 in
theorem wLeave (B b : Nat) (vv : Value) (l : List UInt8) (s : ByteArray) (w w0 : World) (h : Wt w B b vv l) (hs : s.size ≤ 16) (hlen : l.length + 64 ≤ 1073741824) (hk0 : Kept [] w0 w) (hw0 : w0.heap.size ≤ B) :
    Calls Tryz.prog 418 #[.pointer (some ⟨b, 0, none⟩), .string s] w fun e w' => e = .returned (.tuple #[]) ∧ Wt w' B b vv (l ++ joinB [⟨#[60, 47]⟩, s, ⟨#[62]⟩]) ∧ Kept [] w0 w' := by
  obtain ⟨p, v, hb, hBb⟩ := h.cells
  have c3 : w.cell? ⟨b, 3, none⟩ = some (.bool false) := by rw [cell_at hb]; rfl
  have f3 := free_at hb 3
  have hlt := lt_of_block hb
  have HSm := hide h.same
  have ez : (joinB [⟨#[60, 47]⟩, s, ⟨#[62]⟩]).length = s.size + 3 := by
    simp only [joinB, List.flatMap_cons, List.flatMap_nil, List.append_nil, List.length_append]
    rw [show s.data.toList.length = s.size from Array.length_toList]
    simp
    omega
  have C4 := hide (writeW B b w.heap.size 3 vv l [⟨#[60, 47]⟩, s, ⟨#[62]⟩] (w.alloc (.cells #[.string ⟨#[60, 47]⟩, .string s, .string ⟨#[62]⟩] 9 (0, 0))) w0 (h.kept ((Kept.refl [] w).alloc _)) (heap_alloc_at w _) (by rw [ez]; omega) (hk0.alloc _) hw0 (by simp))
  generalize joinB [⟨#[60, 47]⟩, s, ⟨#[62]⟩] = J at *
  clear h hb hk0 ez
  go_enter Tryz.func418, Tryz.ntmps418
  go_wp2_with fail
  rw [HSm.out]
  refine C4.out.mono ?_
  rintro e w4 ⟨rfl, h4, h5, _⟩
  have H4 := hide h4
  have H5 := hide h5
  clear h4 h5
  go_wp2
  go_end0
  exact ⟨rfl, H4.out, H5.out⟩
def AskW (w0 : World) (vv : Value) (q : ByteArray → Bool) : Prop := ∃ k lb, vv = .func (.func k) #[] lb ∧ (∀ args w, (callFunc k args).run Tryz.prog w = .ok (.enter k args) w) ∧ ∀ W, Kept [] w0 W → ∀ s, Calls Tryz.prog k (#[.string s] ++ lb) W fun e W' => e = .returned (.bool (q s)) ∧ W' = W
end Go.Proofs.YtlhhgenpcjjajaaGreatDoor
namespace Go.Proofs.YtlhhgenpcjjajaaGreatDoor
open Go.RowKit
theorem KB.row {w w' : World} (h : KB w w') {base : Nat} {e : TypeId} {size : Nat} {v : Value} {n : Nat} {xs : List Value} (ho : w.ownsRow base e size v n xs) (he : e ∉ [100, 5]) : w'.ownsRow base e size v n xs := by
  refine ⟨ho.1, ?_⟩
  rcases ho.2 with e2 | ⟨q, cap', cur, e2, h1, hc, r'⟩
  · exact .inl e2
  · exact .inr ⟨q, cap', cur, e2, h1, h _ _ _ hc he, r'⟩
theorem flatA_even (L : List (ByteArray × ByteArray)) (i : Nat) (h : i < L.length) : (flatA L)[i * 2]? = some (.string (L[i]).1) ∧ (flatA L)[i * 2 + 1]? = some (.string (L[i]).2) := by
  induction L generalizing i with
  | nil => simp at h
  | cons a L ih =>
    cases i with
    | zero => exact ⟨rfl, rfl⟩
    | succ i =>
      have := ih i (by simpa using h)
      rw [show (i + 1) * 2 = i * 2 + 2 by omega, show i * 2 + 2 + 1 = i * 2 + 1 + 2 by omega]
      exact this
def escV (s : ByteArray) : ByteArray := rep (escd s) ⟨#[34]⟩ ⟨#[38, 113, 117, 111, 116, 59]⟩
theorem escV_size (s : ByteArray) (h : s.size ≤ 1024) : (escV s).size ≤ 301349 := by
  have h1 := escd_size s h
  have h2 := rep_size (escd s) ⟨#[34]⟩ ⟨#[38, 113, 117, 111, 116, 59]⟩
  rw [show (⟨#[38, 113, 117, 111, 116, 59]⟩ : ByteArray).size = 6 from rfl] at h2
  unfold escV
  omega
structure WeI (ba b : Nat) (nm vl : ByteArray) (G : World → Prop) (W0 : World) (b0 b1 b2 b3 b4 b5 b6 b7 b8 : Bool) (s19 s20 s21 s22 s23 s24 s25 s26 s27 : Value) (W : World) : Prop where
  f0 : b0 = true → s19 = .pointer (some ⟨b, 0, none⟩)
  f1 : b1 = true → s20 = .pointer (some ⟨ba, 0, none⟩)
  f2 : b2 = true → s21 = .string nm
  f3 : b3 = true → s22 = .pointer (some ⟨ba, 1, none⟩)
  f4 : b4 = true → s23 = .string vl
  f5 : b5 = true → s24 = .string (escd vl)
  f6 : b6 = true → s25 = .string (escV vl)
  f7 : b7 = true → ∃ g', s26 = .slice (some ⟨g', 0, none⟩) 5 5 ∧ (b8 = false → W.heap[g']? = some (.cells #[.string ⟨#[32]⟩, .string nm, .string ⟨#[61, 34]⟩, .string (escV vl), .string ⟨#[34]⟩] 9 (0, 0)))
  f8 : b8 = true → s27 = .tuple #[]
  d : (b8 = true → b7 = true) ∧ (b7 = true → b2 = true ∧ b6 = true) ∧ (b6 = true → b5 = true) ∧ (b5 = true → b4 = true)
  wi : if b8 then G W else Kept [] W0 W
set_option maxRecDepth 100000 in
set_option maxHeartbeats 4000000 in
theorem wEnterA (B b : Nat) (vv : Value) (vd : ByteArray → Bool) (l : List UInt8) (s : ByteArray) (av : Value) (ats : List (ByteArray × ByteArray)) (w w0 : World) (h : Wt w B b vv l) (hv : AskW w0 vv vd) (hg : GlW w0) (hs : s.size ≤ 16) (hst : (s.toList == [115, 116, 121, 108, 101]) = false) (hA : AtrA w av ats) (hal : ats.length ≤ 16) (ha : ∀ a ∈ ats, a.1.size ≤ 1024 ∧ a.2.size ≤ 1024) (hlen : l.length + 64 + 16 * 310000 ≤ 1073741824) (hk0 : Kept [] w0 w) (hw0 : w0.heap.size ≤ B) :
    Calls Tryz.prog 417 #[.pointer (some ⟨b, 0, none⟩), .string s, av] w fun e w' => e = .returned (.bool (!vd s)) ∧ (∃ l', Wt w' B b vv l' ∧ l'.length ≤ l.length + 64 + ats.length * 310000 ∧ l' ≠ []) ∧ Kept [] w0 w' := by
  obtain ⟨kv, lb, rfl, hcf, hcall⟩ := hv
  obtain ⟨ao, cp, hav⟩ := owns_shape hA
  subst hav
  have ez : (joinB [⟨#[60]⟩, s]).length = s.size + 1 := by
    simp only [joinB, List.flatMap_cons, List.flatMap_nil, List.append_nil, List.length_append]
    rw [show s.data.toList.length = s.size from Array.length_toList]
    simp
    omega
  have ez2 : (joinB [⟨#[62]⟩]).length = 1 := rfl
  have C1 := hide (writeW B b w.heap.size 2 _ l [⟨#[60]⟩, s] (w.alloc (.cells #[.string ⟨#[60]⟩, .string s] 9 (0, 0))) w0 (h.kept ((Kept.refl [] w).alloc _)) (heap_alloc_at w _) (by rw [ez]; omega) (hk0.alloc _) hw0 (by simp))
  have C2 := hide (fun w' l' (hw : Wt w' B b (.func (.func kv) #[] lb) l') (hl : l'.length + 1 ≤ 1073741824) (hk : Kept [] w0 w') => writeW B b w'.heap.size 1 _ _ [⟨#[62]⟩] (w'.alloc (.cells #[.string ⟨#[62]⟩] 9 (0, 0))) w0 (hw.kept ((Kept.refl [] w').alloc _)) (heap_alloc_at w' _) (by rw [ez2]; omega) (hk.alloc _) hw0 (by simp))
  have HC := hide hcall
  have HA0 := hide (hA.alloc (.cells #[.string ⟨#[60]⟩, .string s] 9 (0, 0)))
  have EZ := hide ez
  have hne0 : joinB [⟨#[60]⟩, s] ≠ [] := by simp [joinB]
  have HNE := hide hne0
  have EZ2 := hide ez2
  have HAS := hide ha
  have HGL := hide hg
  clear hne0 ha hg
  generalize joinB [⟨#[60]⟩, s] = J1 at *
  generalize joinB [⟨#[62]⟩] = J2 at *
  clear h hk0 ez ez2 hcall hA
  go_enter Tryz.func417, Tryz.ntmps417
  go_wp2_with fail
  refine C1.out.mono ?_
  rintro e w1 ⟨rfl, h1, k1, kb1⟩
  have HA1 := hide (kb1.row HA0.out (by decide))
  have H1 := hide h1
  have K1 := hide k1
  clear h1 k1 kb1 HA0
  go_wp2_with fail
  go_loopw [15] (fun v wr => ∃ (ix : Nat) (l' : List UInt8), v = .int .i64 ix ∧ ix ≤ ats.length ∧ Wt wr B b (.func (.func kv) #[] lb) l' ∧ l'.length ≤ l.length + 17 + ix * 310000 ∧ l' ≠ [] ∧ Kept [] w0 wr ∧ AtrA wr (.slice ao ats.length cp) ats) (fun v _ => ats.length - (intOf v).toNat)
  case atStart => exact ⟨0, _, rfl, Nat.zero_le _, H1.out, by rw [List.length_append, EZ.out]; omega, fun e => HNE.out (List.append_eq_nil_iff.1 e).2, K1.out, HA1.out⟩
  case round =>
    obtain ⟨ix, l', rfl, hix, hW, hl', hne', hkw, hAw⟩ := hrel
    by_cases hlt : ix < ats.length
    · have hnn : ats.length ≠ 0 := by omega
      obtain ⟨gA, hgA⟩ : ∃ gA, ao = some ⟨gA, 0, none⟩ := by
        rcases hAw.2 with ⟨e, h0⟩ | ⟨q, cap', cur, e, _⟩
        · have : ats.length = 0 := h0
          omega
        · injection e with e1 e2 e3
          exact ⟨q, e1⟩
      subst hgA
      obtain ⟨f0, f1⟩ := flatA_even ats ix hlt
      have q0 : wr.cell? ⟨gA, ix * 2, none⟩ = some (.string ats[ix].1) := by rw [hAw.cellAt (ix * 2) (by omega)]; exact f0
      have q1 : wr.cell? ⟨gA, ix * 2 + 1, none⟩ = some (.string ats[ix].2) := by rw [hAw.cellAt (ix * 2 + 1) (by omega)]; exact f1
      obtain ⟨z1, z2⟩ := HAS.out ats[ix] (List.getElem_mem hlt)
      generalize ats[ix].1 = nm at *
      generalize ats[ix].2 = vl at *
      clear f0 f1
      have H2 := hide hW
      have K2 := hide hkw
      have HN' := hide hne'
      have A2 := hide hAw
      clear hW hkw hAw hne'
      go_wp2_with fail
      obtain ⟨ba, hba⟩ : ∃ ba, ba = wr.heap.size := ⟨_, rfl⟩
      obtain ⟨W0, hW0⟩ : ∃ W0, W0 = wr.alloc (.cells #[.string nm, .string vl] 299 (0, 0)) := ⟨_, rfl⟩
      have HB0 : Hid (W0.heap[ba]? = some (.cells #[.string nm, .string vl] 299 (0, 0))) := by rw [hW0, hba]; exact hide (heap_alloc_at wr _)
      have k0 : Kept [] wr W0 := by rw [hW0]; exact (Kept.refl [] wr).alloc _
      have HG0 := hide ((HGL.out.kept K2.out).kept k0)
      obtain ⟨G, hG⟩ : ∃ G : World → Prop, G = fun W => ∃ l2, Wt W B b (.func (.func kv) #[] lb) l2 ∧ l2.length ≤ l.length + 17 + (ix + 1) * 310000 ∧ l2 ≠ [] ∧ Kept [] w0 W ∧ AtrA W (.slice (some ⟨gA, 0, none⟩) ats.length cp) ats := ⟨_, rfl⟩
      have HWr : Hid (∀ W g', Kept [] W0 W → W.heap[g']? = some (.cells #[.string ⟨#[32]⟩, .string nm, .string ⟨#[61, 34]⟩, .string (escV vl), .string ⟨#[34]⟩] 9 (0, 0)) → Calls Tryz.prog 419 #[.pointer (some ⟨b, 0, none⟩), .slice (some ⟨g', 0, none⟩) 5 5] W fun e W2 => e = .returned (.tuple #[]) ∧ G W2) := hide (by
        intro W g' q hgg
        have zj : (joinB [⟨#[32]⟩, nm, ⟨#[61, 34]⟩, escV vl, ⟨#[34]⟩]).length ≤ 303000 := by
          have := escV_size vl z2
          simp only [joinB, List.flatMap_cons, List.flatMap_nil, List.append_nil, List.length_append]
          rw [show nm.data.toList.length = nm.size from Array.length_toList, show (escV vl).data.toList.length = (escV vl).size from Array.length_toList]
          simp
          omega
        refine (writeW B b g' 5 _ l' [⟨#[32]⟩, nm, ⟨#[61, 34]⟩, escV vl, ⟨#[34]⟩] W w0 (H2.out.kept (k0.trans q)) hgg (by have : ix * 310000 ≤ 16 * 310000 := Nat.mul_le_mul_right _ (by omega); omega) (K2.out.trans (k0.trans q)) hw0 (by simp)).mono ?_
        rintro e W2 ⟨rfl, r1, r2, r3⟩
        rw [hG]
        exact ⟨rfl, _, r1, by rw [List.length_append]; omega, fun e => HN'.out (List.append_eq_nil_iff.1 e).1, r2, r3.row ((k0.trans q).ownsRow A2.out (fun _ _ => by simp)) (by decide)⟩)
      have HGd := hide hG
      have HW0 := hide hW0.symm
      clear hG hW0 k0 H2 A2 HN' HA1 H1 K1 C2 HC q0 q1 hl'
      rw [← hba, HW0.out]
      clear hba
      refine wp_region_any (by kernel_rfl) ?_
      try (change wpAny _ _ _ _ _ _ _ (World.drew _))
      refine wpAny_inv (I := fun listed a W => ∃ b0 b1 b2 b3 b4 b5 b6 b7 b8 s19 s20 s21 s22 s23 s24 s25 s26 s27, listed = #[b0, b1, b2, b3, b4, b5, b6, b7, b8] ∧ a = ⟨#[.pointer (some ⟨b, 0, none⟩), .string s, .slice (some ⟨gA, 0, none⟩) ats.length cp, undef, undef, undef, .bool false, undef, .pointer (some ⟨ba, 0, none⟩), .pointer (some ⟨b, 0, none⟩), .string s, .slice (some ⟨w.heap.size, 0, none⟩) 2 2, .tuple #[], .slice (some ⟨gA, 0, none⟩) ats.length cp, .int .i64 (ats.length : Int), .int .i64 (ix : Int), .bool true, .pointer (some ⟨gA, ix * 2, none⟩), .agg #[.string nm, .string vl], s19, s20, s21, s22, s23, s24, s25, s26, s27, u28, undef, undef, undef, undef, undef, undef, undef, undef, undef, undef, undef, undef, undef, undef, undef], []⟩ ∧ WeI ba b nm vl G W0 b0 b1 b2 b3 b4 b5 b6 b7 b8 s19 s20 s21 s22 s23 s24 s25 s26 s27 W) ?_ ?_ _ _ _ _ ?_ ?_
      · rintro listed a W k ⟨b0, b1, b2, b3, b4, b5, b6, b7, b8, s19, s20, s21, s22, s23, s24, s25, s26, s27, rfl, rfl, hI⟩ hi
        simp only [Region.ready, List.mem_filter, List.mem_range] at hi
        obtain ⟨hlt, hc⟩ := hi
        have hlt : k < 9 := hlt
        obtain rfl | rfl | rfl | rfl | rfl | rfl | rfl | rfl | rfl : k = 0 ∨ k = 1 ∨ k = 2 ∨ k = 3 ∨ k = 4 ∨ k = 5 ∨ k = 6 ∨ k = 7 ∨ k = 8 := by omega
        all_goals simp [Region.binds] at hc
        · refine wpOp_step rfl ?_
          intro K' hK'
          go_simp
          refine hK' _ _ ⟨_, _, _, _, _, _, _, _, _, _, _, _, _, _, _, _, _, _, rfl, rfl, ?_⟩
          exact ⟨fun _ => rfl, hI.f1, hI.f2, hI.f3, hI.f4, hI.f5, hI.f6, hI.f7, hI.f8, hI.d, hI.wi⟩
        · refine wpOp_step rfl ?_
          intro K' hK'
          go_simp
          refine hK' _ _ ⟨_, _, _, _, _, _, _, _, _, _, _, _, _, _, _, _, _, _, rfl, rfl, ?_⟩
          exact ⟨hI.f0, fun _ => rfl, hI.f2, hI.f3, hI.f4, hI.f5, hI.f6, hI.f7, hI.f8, hI.d, hI.wi⟩
        · refine wpOp_step rfl ?_
          intro K' hK'
          have e1 := hI.f1 (by simp [hc])
          subst e1
          have hb8 : b8 = false := by
            cases b8 with
            | false => rfl
            | true => exact absurd ((hI.d.2.1 (hI.d.1 rfl)).1) (by simp [hc])
          subst hb8
          have q : Kept [] W0 W := hI.wi
          have c0 : W.cell? ⟨ba, 0, none⟩ = some (.string nm) := by rw [cell_at (q.at HB0.out (by simp))]; rfl
          go_simp
          refine hK' _ _ ⟨_, _, _, _, _, _, _, _, _, _, _, _, _, _, _, _, _, _, rfl, rfl, ?_⟩
          exact ⟨hI.f0, hI.f1, fun _ => rfl, hI.f3, hI.f4, hI.f5, hI.f6, hI.f7, hI.f8, ⟨hI.d.1, fun h => ⟨rfl, (hI.d.2.1 h).2⟩, hI.d.2.2.1, hI.d.2.2.2⟩, hI.wi⟩
        · refine wpOp_step rfl ?_
          intro K' hK'
          go_simp
          refine hK' _ _ ⟨_, _, _, _, _, _, _, _, _, _, _, _, _, _, _, _, _, _, rfl, rfl, ?_⟩
          exact ⟨hI.f0, hI.f1, hI.f2, fun _ => rfl, hI.f4, hI.f5, hI.f6, hI.f7, hI.f8, hI.d, hI.wi⟩
        · refine wpOp_step rfl ?_
          intro K' hK'
          have e3 := hI.f3 (by simp [hc])
          subst e3
          have hb8 : b8 = false := by
            cases b8 with
            | false => rfl
            | true => exact absurd (hI.d.2.2.2 (hI.d.2.2.1 ((hI.d.2.1 (hI.d.1 rfl)).2))) (by simp [hc])
          subst hb8
          have q : Kept [] W0 W := hI.wi
          have c1 : W.cell? ⟨ba, 1, none⟩ = some (.string vl) := by rw [cell_at (q.at HB0.out (by simp))]; rfl
          go_simp
          refine hK' _ _ ⟨_, _, _, _, _, _, _, _, _, _, _, _, _, _, _, _, _, _, rfl, rfl, ?_⟩
          exact ⟨hI.f0, hI.f1, hI.f2, hI.f3, fun _ => rfl, hI.f5, hI.f6, hI.f7, hI.f8, ⟨hI.d.1, hI.d.2.1, hI.d.2.2.1, fun _ => rfl⟩, hI.wi⟩
        · refine wpOp_step rfl ?_
          intro K' hK'
          have e4 := hI.f4 (by simp [hc])
          subst e4
          have hb8 : b8 = false := by
            cases b8 with
            | false => rfl
            | true => exact absurd (hI.d.2.2.1 ((hI.d.2.1 (hI.d.1 rfl)).2)) (by simp [hc])
          subst hb8
          have q : Kept [] W0 W := hI.wi
          have C1 := hide (escaped_ok vl W (HG0.out.kept q) z2)
          go_simp
          refine C1.out.mono ?_
          rintro e W2 ⟨rfl, hk2⟩
          refine hK' _ _ ⟨_, _, _, _, _, _, _, _, _, _, _, _, _, _, _, _, _, _, rfl, rfl, ?_⟩
          exact ⟨hI.f0, hI.f1, hI.f2, hI.f3, hI.f4, fun _ => rfl, hI.f6, fun h => absurd (hI.d.2.2.1 (hI.d.2.1 h).2) (by simp [hc]), hI.f8, ⟨hI.d.1, hI.d.2.1, fun _ => rfl, fun _ => by simp [hc]⟩, (by simp only [Bool.false_eq_true, ↓reduceIte]; exact q.trans hk2)⟩
        · refine wpOp_step rfl ?_
          intro K' hK'
          have e5 := hI.f5 (by simp [hc])
          subst e5
          have hb8 : b8 = false := by
            cases b8 with
            | false => rfl
            | true => exact absurd ((hI.d.2.1 (hI.d.1 rfl)).2) (by simp [hc])
          subst hb8
          have q : Kept [] W0 W := hI.wi
          have C1 := hide (rep_ok (escd vl) ⟨#[34]⟩ ⟨#[38, 113, 117, 111, 116, 59]⟩ W (HG0.out.kept q) (by have := escd_size vl z2; omega) (by decide) (by decide))
          go_simp
          refine C1.out.mono ?_
          rintro e W2 ⟨rfl, hk2⟩
          refine hK' _ _ ⟨_, _, _, _, _, _, _, _, _, _, _, _, _, _, _, _, _, _, rfl, rfl, ?_⟩
          exact ⟨hI.f0, hI.f1, hI.f2, hI.f3, hI.f4, hI.f5, fun _ => rfl, fun h => absurd (hI.d.2.1 h).2 (by simp [hc]), hI.f8, ⟨hI.d.1, fun h => ⟨(hI.d.2.1 h).1, rfl⟩, fun _ => by simp [hc], hI.d.2.2.2⟩, (by simp only [Bool.false_eq_true, ↓reduceIte]; exact q.trans hk2)⟩
        · refine wpOp_step rfl ?_
          intro K' hK'
          have e2 := hI.f2 (by simp [hc])
          subst e2
          have e6 := hI.f6 (by simp [hc])
          subst e6
          have hb8 : b8 = false := by
            cases b8 with
            | false => rfl
            | true => exact absurd (hI.d.1 rfl) (by simp [hc])
          subst hb8
          have q : Kept [] W0 W := hI.wi
          go_simp
          refine hK' _ _ ⟨_, _, _, _, _, _, _, _, _, _, _, _, _, _, _, _, _, _, rfl, rfl, ?_⟩
          exact ⟨hI.f0, hI.f1, hI.f2, hI.f3, hI.f4, hI.f5, hI.f6, fun _ => ⟨_, rfl, fun _ => heap_alloc_at W _⟩, hI.f8, ⟨fun _ => rfl, fun _ => ⟨by simp [hc], by simp [hc]⟩, hI.d.2.2.1, hI.d.2.2.2⟩, (by simp only [Bool.false_eq_true, ↓reduceIte]; exact q.alloc _)⟩
        · refine wpOp_step rfl ?_
          intro K' hK'
          have e0 := hI.f0 (by simp [hc])
          subst e0
          have e7 := hI.f7 (by simp [hc])
          have hb8 : b8 = false := by simp [hc]
          subst hb8
          have q : Kept [] W0 W := hI.wi
          obtain ⟨g', e7a, e7b⟩ := e7
          subst e7a
          have C1 := hide (HWr.out W g' q (e7b rfl))
          go_simp
          refine C1.out.mono ?_
          rintro e W2 ⟨rfl, hG2⟩
          refine hK' _ _ ⟨_, _, _, _, _, _, _, _, _, _, _, _, _, _, _, _, _, _, rfl, rfl, ?_⟩
          exact ⟨hI.f0, hI.f1, hI.f2, hI.f3, hI.f4, hI.f5, hI.f6, fun _ => ⟨_, rfl, by simp⟩, fun _ => rfl, ⟨fun _ => by simp [hc], hI.d.2.1, hI.d.2.2.1, hI.d.2.2.2⟩, hG2⟩
      · rintro listed a W ⟨b0, b1, b2, b3, b4, b5, b6, b7, b8, s19, s20, s21, s22, s23, s24, s25, s26, s27, rfl, rfl, hI⟩ hr
        simp only [Region.ready, List.filter_eq_nil_iff, List.mem_range] at hr
        have q0 := hr 0 (by decide)
        simp [Region.binds] at q0
        subst q0
        have q1 := hr 1 (by decide)
        simp [Region.binds] at q1
        subst q1
        have q2 := hr 2 (by decide)
        simp [Region.binds] at q2
        subst q2
        have q3 := hr 3 (by decide)
        simp [Region.binds] at q3
        subst q3
        have q4 := hr 4 (by decide)
        simp [Region.binds] at q4
        subst q4
        have q5 := hr 5 (by decide)
        simp [Region.binds] at q5
        subst q5
        have q6 := hr 6 (by decide)
        simp [Region.binds] at q6
        subst q6
        have q7 := hr 7 (by decide)
        simp [Region.binds] at q7
        subst q7
        have q8 := hr 8 (by decide)
        simp [Region.binds] at q8
        subst q8
        have HGf := hide (show G W from hI.wi)
        clear hI hr
        rename_i KK hKK
        refine hKK _ _ ?_
        clear hKK KK
        go_wp2
        go_roundw
        case rel =>
          have hf := HGf.out
          rw [HGd.out] at hf
          obtain ⟨l2, r1, r2, r3, r4, r5⟩ := hf
          exact ⟨ix + 1, l2, by go_num, by omega, r1, r2, r3, r4, r5⟩
        case measure => simp [intOf]; omega
      · decide
      · exact ⟨_, _, _, _, _, _, _, _, _, _, _, _, _, _, _, _, _, _, rfl, rfl, by simp, by simp, by simp, by simp, by simp, by simp, by simp, by simp, by simp, by simp, (Kept.refl [] W0).drew⟩
    · have e : ix = ats.length := by omega
      have D2 := hide (C2.out wr l' hW (by omega) hkw)
      clear C2 hW hkw hAw
      go_wp2_with fail
      refine D2.out.mono ?_
      rintro e w2 ⟨rfl, h2, k2, _⟩
      obtain ⟨p, v, hb, hBb⟩ := h2.cells
      have c3 : w2.cell? ⟨b, 3, none⟩ = some (.bool false) := by rw [cell_at hb]; rfl
      have c2 : w2.cell? ⟨b, 2, none⟩ = some (.func (.func kv) #[] lb) := by rw [cell_at hb]; rfl
      have f3 := free_at hb 3
      have hltb := lt_of_block hb
      have HSm := hide h2.same
      have D3 := hide (HC.out w2 k2 s)
      have HN2 := hide (show l' ++ J2 ≠ [] from fun e => hne' (List.append_eq_nil_iff.1 e).1)
      have HL2 := hide (show (l' ++ J2).length ≤ l.length + 64 + ats.length * 310000 by rw [List.length_append, EZ2.out]; subst e; omega)
      have H2 := hide h2
      have K2 := hide k2
      clear h2 k2 hb HC
      generalize hq : vd s = q at D3
      have HQ := hide hq
      clear hq
      go_wp2_with fail
      rw [HSm.out]
      refine D3.out.mono ?_
      rintro e w3 ⟨rfl, rfl⟩
      go_wp2
      go_ret
      exact ⟨by rw [HQ.out]; rfl, ⟨_, H2.out, HL2.out, HN2.out⟩, K2.out⟩
end Go.Proofs.YtlhhgenpcjjajaaGreatDoor
namespace Go.Proofs.YtlhhgenpcjjajaaGreatDoor
open Go.RowKit
def plainEv : Ev → Bool
  | .dt _ => false
  | .cm _ => false
  | .tx s => decide (s.size ≤ 1024)
  | .enter s ats => decide (ats.length ≤ 16) && (ats.all fun a => decide (a.1.size ≤ 1024) && decide (a.2.size ≤ 1024)) && decide (s.size ≤ 16) && !(s.toList == [115, 116, 121, 108, 101])
  | .leave s => decide (s.size ≤ 16)
def wgt : Ev → Nat
  | .tx _ => 1076249
  | .enter _ ats => 64 + 16 * 310000 + ats.length * 310000
  | _ => 64
def wgts (es : List Ev) : Nat := (es.map wgt).sum
theorem wgts_snoc (es : List Ev) (e : Ev) : wgts (es ++ [e]) = wgts es + wgt e := by simp [wgts]
theorem wgts_pre {a b : List Ev} (h : a <+: b) : wgts a ≤ wgts b := by
  obtain ⟨r, rfl⟩ := h
  simp [wgts]
def isTag : Ev → Bool
  | .tx _ => false
  | _ => true
theorem writer_vis (B b : Nat) (vv : Value) (vd : ByteArray → Bool) (tot : List Ev) (w0 : World) (hv : AskW w0 vv vd) (hg : GlW w0) (hw0 : w0.heap.size ≤ B) (ht : ∀ e ∈ tot, plainEv e = true) (hw : wgts tot ≤ 1073741824) :
    Vis 88 (.pointer (some ⟨b, 0, none⟩)) vd tot w0 (fun pre W => ∃ l, Wt W B b vv l ∧ l.length ≤ wgts pre ∧ (pre.any isTag = true → l ≠ [])) := by
  have last : ∀ {pre ev}, pre ++ [ev] <+: tot → plainEv ev = true ∧ wgts pre + wgt ev ≤ 1073741824 := by
    intro pre ev h
    refine ⟨ht ev (h.subset (by simp)), ?_⟩
    have := wgts_pre h
    rw [wgts_snoc] at this
    omega
  refine { mono := ?_, dt := fun s => ?_, cm := fun s => ?_, tx := fun s => ?_, leave := fun s => ?_, enter := ?_ }
  · rintro pre W W' ⟨l, h1, h2⟩ hk
    exact ⟨l, h1.kept hk, h2⟩
  · refine ⟨447, .pointer (some ⟨b, 0, none⟩), fun w => by kernel_rfl, fun w => by kernel_rfl, enters_of Tryz.func447 (by kernel_rfl) rfl, fun pre W hK hJ hp => ?_⟩
    have := (last hp).1
    simp [plainEv] at this
  · refine ⟨416, .pointer (some ⟨b, 0, none⟩), fun w => by kernel_rfl, fun w => by kernel_rfl, enters_of Tryz.func416 (by kernel_rfl) rfl, fun pre W hK hJ hp => ?_⟩
    have := (last hp).1
    simp [plainEv] at this
  · refine ⟨448, .pointer (some ⟨b, 0, none⟩), fun w => by kernel_rfl, fun w => by kernel_rfl, enters_of Tryz.func448 (by kernel_rfl) rfl, fun pre W hK hJ hp => ?_⟩
    obtain ⟨h1, h2⟩ := last hp
    simp only [plainEv, decide_eq_true_eq, wgt] at h1 h2
    obtain ⟨l, hl, hz, hne⟩ := hJ
    refine (wText B b vv l s W w0 hl hg h1 (by omega) hK hw0).mono ?_
    rintro e W' ⟨rfl, h3, h4⟩
    refine ⟨rfl, ⟨_, h3, ?_, ?_⟩, h4⟩
    · rw [wgts_snoc, List.length_append, show (escT s).data.toList.length = (escT s).size from Array.length_toList]
      have := escT_size s h1
      simp only [wgt]
      omega
    · intro h
      rw [List.any_append] at h
      have h7 : pre.any isTag = true := by simpa [isTag] using h
      have := hne h7
      intro e
      exact this (List.append_eq_nil_iff.1 e).1
  · refine ⟨418, .pointer (some ⟨b, 0, none⟩), fun w => by kernel_rfl, fun w => by kernel_rfl, enters_of Tryz.func418 (by kernel_rfl) rfl, fun pre W hK hJ hp => ?_⟩
    obtain ⟨h1, h2⟩ := last hp
    simp only [plainEv, decide_eq_true_eq, wgt] at h1 h2
    obtain ⟨l, hl, hz, hne⟩ := hJ
    refine (wLeave B b vv l s W w0 hl h1 (by omega) hK hw0).mono ?_
    rintro e W' ⟨rfl, h3, h4⟩
    refine ⟨rfl, ⟨_, h3, ?_, ?_⟩, h4⟩
    · rw [wgts_snoc, List.length_append]
      have : (joinB [⟨#[60, 47]⟩, s, ⟨#[62]⟩]).length = s.size + 3 := by
        simp only [joinB, List.flatMap_cons, List.flatMap_nil, List.append_nil, List.length_append]
        rw [show s.data.toList.length = s.size from Array.length_toList]
        simp
        omega
      simp only [wgt]
      omega
    · intro _
      simp [joinB]
  · refine ⟨417, .pointer (some ⟨b, 0, none⟩), fun w => by kernel_rfl, fun w => by kernel_rfl, enters_of Tryz.func417 (by kernel_rfl) rfl, fun pre W s av ats hK hJ hp hA hal => ?_⟩
    obtain ⟨h1, h2⟩ := last hp
    simp only [plainEv, Bool.and_eq_true, decide_eq_true_eq, List.all_eq_true, Bool.not_eq_true', wgt] at h1 h2
    obtain ⟨⟨⟨h7, h8⟩, h5⟩, h6⟩ := h1
    obtain ⟨l, hl, hz, hne⟩ := hJ
    refine (wEnterA B b vv vd l s av ats W w0 hl hv hg h5 h6 hA h7 h8 (by omega) hK hw0).mono ?_
    rintro e W' ⟨rfl, ⟨l', h3, h9, h10⟩, h4⟩
    refine ⟨rfl, ⟨l', h3, ?_, fun _ => h10⟩, h4⟩
    rw [wgts_snoc]
    simp only [wgt]
    omega
end Go.Proofs.YtlhhgenpcjjajaaGreatDoor
namespace Go.Proofs.YtlhhgenpcjjajaaGreatDoor
open Go.RowKit
attribute [local go_sem] Oper.semAt_some
def PCl (w : World) (bx : Nat) (c : Array Value) (k : Nat) : Prop := w.heap[bx]? = some (.cells c 76 (0, 0)) ∧ c[8]? = some (.pointer (some ⟨k, 0, none⟩))
theorem PCl.kept {w w' : World} {bx k : Nat} {c : Array Value} (h : PCl w bx c k) (hk : Kept [] w w') : PCl w' bx c k := ⟨hk.at h.1 (by simp), h.2⟩
theorem PCl.doc {w : World} {bx k : Nat} {c : Array Value} (h : PCl w bx c k) : w.cell? ⟨bx, 8, none⟩ = some (.pointer (some ⟨k, 0, none⟩)) := by rw [cell_at h.1, h.2]
set_option maxHeartbeats 1000000 in
theorem hasTree_yes (w : World) (bx k : Nat) (c : Array Value) (h : PCl w bx c k) :
    Calls Tryz.prog 31 #[.pointer (some ⟨bx, 0, none⟩)] w fun e w' => e = .returned (.bool true) ∧ w' = w := by
  have c8 := h.doc
  have hlt := lt_of_block h.1
  clear h
  go_enter Tryz.func31, Tryz.ntmps31
  go_wp2
  go_ret
  exact ⟨rfl, rfl⟩
set_option maxHeartbeats 1000000 in
theorem items_val (w : World) (bx : Nat) :
    Calls Tryz.prog 30 #[.pointer (some ⟨bx, 0, none⟩)] w fun e w' => e = .returned (.func (.func 39) #[.pointer (some ⟨bx, 0, none⟩)] #[]) ∧ w' = w := by
  have hmf : ∀ (fn : Fn) (first cap : Array Value) (w : World), (Instr.makeFunc fn first cap).run Tryz.prog w = .ok (.func fn first cap) w := fun _ _ _ _ => rfl
  go_enter Tryz.func30, Tryz.ntmps30
  go_wp2
  go_ret
  exact ⟨rfl, rfl⟩
set_option maxHeartbeats 1000000 in
theorem itemsEl (l k : Nat) (name : ByteArray) (ats : List (ByteArray × ByteArray)) (ts : List Tn) (w0 : World) (h : IsTn w0 (.el name ats ts) (.el k)) (J : List It → World → Prop) (hY : Rnd l (itemsE (evS (fun _ => false) ts)) w0 J) (hm : ∀ pre W W', J pre W → Kept [] W W' → J pre W') (W : World) (hK : Kept [] w0 W) (hJ : J [] W) :
    Calls Tryz.prog 61 #[.pointer (some ⟨k, 0, none⟩), .func (.yield l) #[] #[]] W fun e W' => e = .returned (.tuple #[]) ∧ J (itemsE (evS (fun _ => false) ts)) W' ∧ Kept [] w0 W' := by
  have kk := (Kept.refl [] W).alloc (.cells #[.func (.yield l) #[] #[], .bool false] 203 (0, 0))
  have hw := heap_alloc_at W (.cells #[.func (.yield l) #[] #[], .bool false] 203 (0, 0))
  have C := hide (visitChildren_ok (walker_vis l W.heap.size _ w0 J hY hm) k name ats ts h rfl _ (hK.trans kk) ⟨hm _ _ _ hJ kk, hw⟩)
  clear h hY hm hK hJ kk hw
  generalize J (itemsE (evS (fun _ => false) ts)) = J' at C ⊢
  go_enter Tryz.func61, Tryz.ntmps61
  go_wp2_with fail
  refine C.out.mono ?_
  rintro e W2 ⟨rfl, ⟨hj, _⟩, hk⟩
  have HJ := hide hj
  have HK := hide hk
  clear hj hk
  go_wp2
  go_end0
  exact ⟨rfl, HJ.out, HK.out⟩
set_option maxHeartbeats 1000000 in
theorem walk_ok (l bx k : Nat) (c : Array Value) (name : ByteArray) (ats : List (ByteArray × ByteArray)) (ts : List Tn) (w0 : World) (hp : PCl w0 bx c k) (h : IsTn w0 (.el name ats ts) (.el k)) (J : List It → World → Prop) (hY : Rnd l (itemsE (evS (fun _ => false) ts)) w0 J) (hm : ∀ pre W W', J pre W → Kept [] W W' → J pre W') (W : World) (hK : Kept [] w0 W) (hJ : J [] W) :
    Calls Tryz.prog 39 #[.pointer (some ⟨bx, 0, none⟩), .func (.yield l) #[] #[]] W fun e W' => e = .returned (.tuple #[]) ∧ J (itemsE (evS (fun _ => false) ts)) W' ∧ Kept [] w0 W' := by
  have C1 := hide (hasTree_yes W bx k c (hp.kept hK))
  have C2 := hide (itemsEl l k name ats ts w0 h J hY hm W hK hJ)
  have c8 := (hp.kept hK).doc
  have hlt := lt_of_block (hp.kept hK).1
  clear hp h hY hm hK hJ
  generalize J (itemsE (evS (fun _ => false) ts)) = J' at C2 ⊢
  go_enter Tryz.func39, Tryz.ntmps39
  go_wp2_with fail
  refine C1.out.mono ?_
  rintro e W2 ⟨rfl, rfl⟩
  go_wp2_with fail
  refine C2.out.mono ?_
  rintro e W3 ⟨rfl, hj, hk⟩
  have HJ := hide hj
  have HK := hide hk
  clear hj hk
  go_wp2
  go_end0
  exact ⟨rfl, HJ.out, HK.out⟩
end Go.Proofs.YtlhhgenpcjjajaaGreatDoor
namespace Go.Proofs.YtlhhgenpcjjajaaGreatDoor
open Go.RowKit
set_option maxRecDepth 100000 in
set_option maxHeartbeats 2000000 in
theorem stringW (B b : Nat) (vv : Value) (l : List UInt8) (w w0 : World) (h : Wt w B b vv l) (h0 : l ≠ []) (hk0 : Kept [] w0 w) (hw0 : w0.heap.size ≤ B) (hlen : l.length ≤ 1073741824) :
    Calls Tryz.prog 43 #[.pointer (some ⟨b, 0, none⟩)] w fun e w' => e = .returned (.string ⟨l.toArray⟩) ∧ Kept [] w0 w' := by
  obtain ⟨p, hB, v, hbk, hown, hne⟩ : ∃ p, WtP w B b vv p l := by
    rcases h with h | h
    · exact ⟨_, h⟩
    · exact ⟨_, h⟩
  have hl0 : l.length ≠ 0 := by simpa using h0
  obtain ⟨g, cap, cur, rfl, hbg, hg, hnc, hcm, hcs, htake⟩ : ∃ g cap cur, v = .slice (some ⟨g, 0, none⟩) l.length cap ∧ B ≤ g ∧ w.heap[g]? = some (.cells cur 5 (0, 0)) ∧ l.length ≤ cap ∧ cap ≤ maxLen ∧ cur.size = cap * 1 ∧ cur.toList.take (l.length * 1) = Lib.byteCells l := by
    rcases hown.2 with ⟨_, hz⟩ | ⟨g, cap, cur, hv, r⟩
    · exact absurd hz hl0
    · exact ⟨g, cap, cur, hv, r⟩
  have c1 : w.drew.cell? ⟨b, 1, none⟩ = some (.slice (some ⟨g, 0, none⟩) l.length cap) := by
    have : w.drew.heap[b]? = some (.cells #[p, .slice (some ⟨g, 0, none⟩) l.length cap, vv, .bool false] 100 (0, 0)) := hbk
    rw [Lib.cell_of_heap this]; rfl
  have hlt := lt_of_block hbk
  have hSD : (Builtin.unsafeSliceData_ #[55] 143 #[.slice (some ⟨g, 0, none⟩) l.length cap]).run Tryz.prog w.drew = .ok (.pointer (some ⟨g, 0, none⟩)) w.drew :=
    Lib.run_unsafeSliceData_row _ _ _ _ _ _ (by omega)
  have hUS : (Builtin.unsafeString_ #[143, 3] 9 #[.pointer (some ⟨g, 0, none⟩), .int .i64 l.length]).run Tryz.prog w.drew = .ok (.string ⟨l.toArray⟩) (w.drew.freeze ⟨g, 0, none⟩ l.length) := by
    refine Lib.run_unsafeString_row w.drew 143 3 9 5 Tryz.underlying143 (by kernel_rfl) g cur.size (by have hg' : w.drew.heap[g]? = some (.cells cur 5 (0, 0)) := hg; simp [World.shape?, hg']) l h0 ?_ ?_ ?_
    · omega
    · omega
    · intro j x hx
      have := hown.cells (g := g) rfl j (.int .u8 x.toNat) (by simp [Lib.byteCells, hx])
      exact this
  have HF : Hid (Kept [] w0 (w.drew.freeze ⟨g, 0, none⟩ l.length)) := hide (kept_below (Lib.below_freeze (Below.drew ⟨hk0.os, hk0.tape, hk0.output, hk0.size, fun k hk => hk0.block k hk (by simp)⟩) (p := ⟨g, 0, none⟩) (by show w0.heap.size ≤ g; omega) _))
  clear hown hne hbk hg htake hcs hcm hnc h hk0
  go_enter Tryz.func43, Tryz.ntmps43
  go_wp2
  go_region
  all_goals (go_wp2; go_ret; exact ⟨rfl, HF.out⟩)
end Go.Proofs.YtlhhgenpcjjajaaGreatDoor
namespace Go.Proofs.YtlhhgenpcjjajaaGreatDoor
open Go.RowKit
theorem Ask.toW {bm : Nat} {v : Value} {q : ByteArray → Bool} {w : World} (h : Ask bm v q w) : AskW w v q := by
  obtain ⟨k, lb, hv, he, ha⟩ := h.call
  exact ⟨k, lb, hv, he, fun W hk s => ha W (.of_kept0 hk) s⟩
set_option maxRecDepth 100000 in
set_option maxHeartbeats 2000000 in
theorem written_ok (w : World) (k : Nat) (name : ByteArray) (ats : List (ByteArray × ByteArray)) (ts : List Tn) (h : IsTn w (.el name ats ts) (.el k)) (hb : Blanks w) (hg : GlW w)
    (hev : ∀ vd, (∀ e ∈ evS vd ts, plainEv e = true) ∧ wgts (evS vd ts) ≤ 1073741824 ∧ (evS vd ts).any isTag = true) :
    Calls Tryz.prog 32 #[.pointer (some ⟨k, 0, none⟩)] w fun e w' => ∃ s, e = .returned (.string s) ∧ Kept [] w w' := by
  have C1 := hide (newClasses_ok w hb)
  have C2 := hide (fun bm W (hm : MapS W bm (encN classL)) => are_Ask bm 1 classL W hm (by decide) class16)
  have HT := hide h
  have HG := hide hg
  have HE := hide hev
  clear h hb hg hev
  go_enter Tryz.func32, Tryz.ntmps32
  go_wp2_with fail
  refine C1.out.mono ?_
  rintro e w1 ⟨bm, rfl, hm, hk1, _⟩
  have D2 := hide (C2.out bm w1 hm)
  have HK1 := hide hk1
  clear hm hk1 C2
  go_wp2_with fail
  refine D2.out.mono ?_
  rintro e w2 ⟨⟨v, rfl, hv⟩, hk2⟩
  have hvw := hv.toW
  obtain ⟨kk, lb, hvv, _⟩ := hv.call
  subst hvv
  have hk12 := HK1.out.trans hk2
  obtain ⟨h1, h2, h3⟩ := HE.out (isC classL 1)
  have kk3 := (Kept.refl [] w2).alloc (.cells #[.pointer none, .slice none 0 0, .func (.func kk) #[] lb, .bool false] 100 (0, 0))
  have hw3 : Wt (w2.alloc (.cells #[.pointer none, .slice none 0 0, .func (.func kk) #[] lb, .bool false] 100 (0, 0))) w2.heap.size w2.heap.size (.func (.func kk) #[] lb) [] := .inl ⟨Nat.le_refl _, _, heap_alloc_at w2 _, World.ownsRow_nil _ _ _ _, by simp [Value.ownBlock]⟩
  have V := writer_vis w2.heap.size w2.heap.size _ _ (evS (isC classL 1) ts) w2 hvw (HG.out.kept hk12) (Nat.le_refl _) h1 h2
  have C3 := hide (visitChildren_ok V k name ats ts (IsTn.kept hk12 HT.out) rfl _ kk3 ⟨[], hw3, Nat.zero_le _, by simp⟩)
  have HK2 := hide hk12
  have H3 := hide h3
  have H2 := hide h2
  clear hv hvw hk2 hk12 h1 h2 h3 kk3 hw3 V D2
  go_wp2_with fail
  refine C3.out.mono ?_
  rintro e w4 ⟨rfl, ⟨l, hl, hz, hne⟩, hk4⟩
  obtain ⟨p, vv, hbk, _⟩ := hl.cells
  have hlt := lt_of_block hbk
  have C4 := hide (stringW _ _ _ l w4 w2 hl (hne H3.out) hk4 (Nat.le_refl _) (Nat.le_trans hz H2.out))
  clear hl hz hne hk4 hbk
  go_wp2_with fail
  refine C4.out.mono ?_
  rintro e w5 ⟨rfl, hk5⟩
  have HK5 := hide (HK2.out.trans hk5)
  clear hk5
  go_wp2
  go_ret
  exact ⟨_, rfl, HK5.out⟩
set_option maxHeartbeats 1000000 in
theorem text_ok (w : World) (bx k : Nat) (c : Array Value) (name : ByteArray) (ats : List (ByteArray × ByteArray)) (ts : List Tn) (hp : PCl w bx c k) (h : IsTn w (.el name ats ts) (.el k)) (hb : Blanks w) (hg : GlW w)
    (hev : ∀ vd, (∀ e ∈ evS vd ts, plainEv e = true) ∧ wgts (evS vd ts) ≤ 1073741824 ∧ (evS vd ts).any isTag = true) :
    Calls Tryz.prog 19 #[.pointer (some ⟨bx, 0, none⟩)] w fun e w' => ∃ s, e = .returned (.string s) ∧ Kept [] w w' := by
  have C1 := hide (hasTree_yes w bx k c hp)
  have C2 := hide (written_ok w k name ats ts h hb hg hev)
  have c8 := hp.doc
  have hlt := lt_of_block hp.1
  clear hp h hb hg hev
  go_enter Tryz.func19, Tryz.ntmps19
  go_wp2_with fail
  refine C1.out.mono ?_
  rintro e w1 ⟨rfl, rfl⟩
  go_wp2_with fail
  refine C2.out.mono ?_
  rintro e w2 ⟨s, rfl, hk⟩
  have HK := hide hk
  clear hk
  go_wp2
  go_ret
  exact ⟨_, rfl, HK.out⟩
end Go.Proofs.YtlhhgenpcjjajaaGreatDoor
