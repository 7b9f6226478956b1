import Derived.Test.YtlhhgenpcjjajaaGreatDoorRlB
import Derived.Test.YtlhhgenpcjjajaaGreatDoorLsI
set_option linter.unusedSimpArgs false
set_option linter.unusedVariables false
namespace Go.Proofs.YtlhhgenpcjjajaaGreatDoor
open Go.RowKit
attribute [local go_sem] Oper.semAt_some
structure It where
  k : Int
  s : ByteArray
  t : ByteArray
abbrev It.val (x : It) : Value := .agg #[.int .i64 x.k, .string x.s, .string x.t]
def itemsOf : Ev → List It
  | .dt s => [⟨1, s, ⟨#[]⟩⟩]
  | .cm s => [⟨2, s, ⟨#[]⟩⟩]
  | .tx s => [⟨3, s, ⟨#[]⟩⟩]
  | .enter s ats => ⟨4, s, ⟨#[]⟩⟩ :: ats.map fun a => ⟨5, a.1, a.2⟩
  | .leave s => [⟨6, s, ⟨#[]⟩⟩]
def itemsE (es : List Ev) : List It := es.flatMap itemsOf
def Wk (w : World) (b l : Nat) : Prop := w.heap[b]? = some (.cells #[.func (.yield l) #[] #[], .bool false] 203 (0, 0))
theorem setCell_same {w : World} {b : Nat} {c : Array Value} {t : TypeId} {m : Nat × Nat} (h : w.heap[b]? = some (.cells c t m)) (j : Nat) (v : Value) (hj : c[j]? = some v) : w.setCell ⟨b, j, none⟩ v = w := by
  obtain ⟨hlt, hb⟩ := Array.getElem?_eq_some_iff.1 h
  have hs : c.setIfInBounds j v = c := by
    apply Array.ext
    · simp
    · intro k k1 k2
      rw [Array.getElem_setIfInBounds]
      split
      · rename_i e
        subst e
        rw [Array.getElem?_eq_getElem k2] at hj
        exact (Option.some.inj hj).symm
      · rfl
  have e : ∀ f : Obj → Obj, f (.cells c t m) = .cells c t m → w.heap.modify b f = w.heap := by
    intro f hf
    apply Array.ext
    · simp
    · intro i h1 h2
      rw [Array.getElem_modify]
      split
      · rename_i e
        subst e
        rw [hb]
        exact hf
      · rfl
  unfold World.setCell
  rw [e _ (by simp [hs])]
def KW (W W' : World) : Prop := ∀ (k : Nat) (c : Array Value) (t : TypeId), W.heap[k]? = some (.cells c t (0, 0)) → t ∉ [25, 57] → W'.heap[k]? = some (.cells c t (0, 0))
theorem KW.wk {W W' : World} (h : KW W W') {b l : Nat} (hw : Wk W b l) : Wk W' b l := h b _ _ hw (by decide)
theorem KW.atr {W W' : World} (h : KW W W') {v : Value} {ats : List (ByteArray × ByteArray)} (ha : AtrA W v ats) : AtrA W' v ats := by
  refine ⟨ha.1, ?_⟩
  rcases ha.2 with e | ⟨g, cap, cur, e, h1, hc, r⟩
  · exact .inl e
  · exact .inr ⟨g, cap, cur, e, h1, h g _ _ hc (by decide), r⟩
def Rnd (l : Nat) (tot : List It) (w0 : World) (J : List It → World → Prop) : Prop := ∀ pre x W, Kept [] w0 W → J pre W → pre ++ [x] <+: tot → YieldAt Fence.wide 3 Tryz.prog l #[It.val x] W fun e W' => e = .returned (.bool true) ∧ J (pre ++ [x]) W' ∧ Kept [] w0 W' ∧ KW W W'
set_option maxHeartbeats 2000000 in
theorem tell_ok (l b : Nat) (tot : List It) (w0 : World) (J : List It → World → Prop) (hY : Rnd l tot w0 J) (pre : List It) (x : It) (W : World) (hK : Kept [] w0 W) (hJ : J pre W) (hW : Wk W b l) (hp : pre ++ [x] <+: tot) :
    Calls Tryz.prog 442 #[.pointer (some ⟨b, 0, none⟩), .int .i64 x.k, .string x.s, .string x.t] W fun e W' => e = .returned (.tuple #[]) ∧ ((J (pre ++ [x]) W' ∧ Wk W' b l) ∧ Kept [] w0 W') ∧ KW W W' := by
  refine (callsIn_wide (n := 4)).1 ?_
  have c0 : W.cell? ⟨b, 0, none⟩ = some (.func (.yield l) #[] #[]) := by rw [cell_at hW]; rfl
  have c1 : W.cell? ⟨b, 1, none⟩ = some (.bool false) := by rw [cell_at hW]; rfl
  obtain ⟨fn, tmps, assign, body, hy, hR⟩ := hY pre x W hK hJ hp
  have HR := hide hR
  dsimp only [It.val] at hy
  have hlt := lt_of_block hW
  have HW := hide hW
  clear hR hY hK hJ hp hW
  obtain ⟨k, s, t⟩ := x
  refine callsIn_of_wp Tryz.func442 rfl trivial ?_ rfl
  simp only [Tryz.ntmps442, List.size_toArray, List.length_cons, List.length_nil, Nat.reduceAdd, Nat.reduceSub, Array.replicate_succ, Array.replicate_zero, List.push_toArray, List.append_toArray, List.nil_append, List.cons_append]
  gi_wp2
  refine HR.out.mono ?_
  rintro e W2 ⟨rfl, hj2, hk2, hw2⟩
  have hw3 := hw2.wk HW.out
  have c2 : W2.cell? ⟨b, 1, none⟩ = some (.bool false) := by rw [cell_at hw3]; rfl
  have f2 := free_at hw3 1
  have HS := hide (setCell_same hw3 1 (.bool false) rfl)
  have HJ := hide (And.intro (And.intro (And.intro hj2 hw3) hk2) hw2)
  clear hj2 hk2 hw2 hw3
  gi_wp2
  go_end0
  rw [HS.out]
  exact ⟨rfl, HJ.out⟩
set_option maxHeartbeats 1000000 in
theorem wdt (l b : Nat) (tot : List It) (w0 : World) (J : List It → World → Prop) (hY : Rnd l tot w0 J) (s : ByteArray) (pre : List It) (W : World) (hK : Kept [] w0 W) (hJ : J pre W) (hW : Wk W b l) (hp : pre ++ [⟨1, s, ⟨#[]⟩⟩] <+: tot) :
    Calls Tryz.prog 438 #[.pointer (some ⟨b, 0, none⟩), .string s] W fun e W' => e = .returned (.tuple #[]) ∧ (J (pre ++ [⟨1, s, ⟨#[]⟩⟩]) W' ∧ Wk W' b l) ∧ Kept [] w0 W' := by
  have C := hide (tell_ok l b tot w0 J hY pre ⟨1, s, ⟨#[]⟩⟩ W hK hJ hW hp)
  clear hY hK hJ hW hp
  generalize J (pre ++ [⟨1, s, ⟨#[]⟩⟩]) = J' at C ⊢
  go_enter Tryz.func438, Tryz.ntmps438
  go_wp2_with fail
  refine C.out.mono ?_
  rintro e W2 ⟨rfl, hj, _⟩
  have HJ := hide hj
  clear hj
  go_wp2
  go_end0
  exact ⟨rfl, HJ.out⟩
set_option maxHeartbeats 1000000 in
theorem wcm (l b : Nat) (tot : List It) (w0 : World) (J : List It → World → Prop) (hY : Rnd l tot w0 J) (s : ByteArray) (pre : List It) (W : World) (hK : Kept [] w0 W) (hJ : J pre W) (hW : Wk W b l) (hp : pre ++ [⟨2, s, ⟨#[]⟩⟩] <+: tot) :
    Calls Tryz.prog 437 #[.pointer (some ⟨b, 0, none⟩), .string s] W fun e W' => e = .returned (.tuple #[]) ∧ (J (pre ++ [⟨2, s, ⟨#[]⟩⟩]) W' ∧ Wk W' b l) ∧ Kept [] w0 W' := by
  have C := hide (tell_ok l b tot w0 J hY pre ⟨2, s, ⟨#[]⟩⟩ W hK hJ hW hp)
  clear hY hK hJ hW hp
  generalize J (pre ++ [⟨2, s, ⟨#[]⟩⟩]) = J' at C ⊢
  go_enter Tryz.func437, Tryz.ntmps437
  go_wp2_with fail
  refine C.out.mono ?_
  rintro e W2 ⟨rfl, hj, _⟩
  have HJ := hide hj
  clear hj
  go_wp2
  go_end0
  exact ⟨rfl, HJ.out⟩
set_option maxHeartbeats 1000000 in
theorem wtx (l b : Nat) (tot : List It) (w0 : World) (J : List It → World → Prop) (hY : Rnd l tot w0 J) (s : ByteArray) (pre : List It) (W : World) (hK : Kept [] w0 W) (hJ : J pre W) (hW : Wk W b l) (hp : pre ++ [⟨3, s, ⟨#[]⟩⟩] <+: tot) :
    Calls Tryz.prog 441 #[.pointer (some ⟨b, 0, none⟩), .string s] W fun e W' => e = .returned (.tuple #[]) ∧ (J (pre ++ [⟨3, s, ⟨#[]⟩⟩]) W' ∧ Wk W' b l) ∧ Kept [] w0 W' := by
  have C := hide (tell_ok l b tot w0 J hY pre ⟨3, s, ⟨#[]⟩⟩ W hK hJ hW hp)
  clear hY hK hJ hW hp
  generalize J (pre ++ [⟨3, s, ⟨#[]⟩⟩]) = J' at C ⊢
  go_enter Tryz.func441, Tryz.ntmps441
  go_wp2_with fail
  refine C.out.mono ?_
  rintro e W2 ⟨rfl, hj, _⟩
  have HJ := hide hj
  clear hj
  go_wp2
  go_end0
  exact ⟨rfl, HJ.out⟩
set_option maxHeartbeats 1000000 in
theorem wlv (l b : Nat) (tot : List It) (w0 : World) (J : List It → World → Prop) (hY : Rnd l tot w0 J) (s : ByteArray) (pre : List It) (W : World) (hK : Kept [] w0 W) (hJ : J pre W) (hW : Wk W b l) (hp : pre ++ [⟨6, s, ⟨#[]⟩⟩] <+: tot) :
    Calls Tryz.prog 440 #[.pointer (some ⟨b, 0, none⟩), .string s] W fun e W' => e = .returned (.tuple #[]) ∧ (J (pre ++ [⟨6, s, ⟨#[]⟩⟩]) W' ∧ Wk W' b l) ∧ Kept [] w0 W' := by
  have C := hide (tell_ok l b tot w0 J hY pre ⟨6, s, ⟨#[]⟩⟩ W hK hJ hW hp)
  clear hY hK hJ hW hp
  generalize J (pre ++ [⟨6, s, ⟨#[]⟩⟩]) = J' at C ⊢
  go_enter Tryz.func440, Tryz.ntmps440
  go_wp2_with fail
  refine C.out.mono ?_
  rintro e W2 ⟨rfl, hj, _⟩
  have HJ := hide hj
  clear hj
  go_wp2
  go_end0
  exact ⟨rfl, HJ.out⟩
theorem itemsE_append (a b : List Ev) : itemsE (a ++ b) = itemsE a ++ itemsE b := List.flatMap_append ..
theorem itemsE_pre {a b : List Ev} (h : a <+: b) : itemsE a <+: itemsE b := by
  obtain ⟨r, rfl⟩ := h
  exact ⟨itemsE r, (itemsE_append a r).symm⟩
theorem flatA_get (L : List (ByteArray × ByteArray)) (i : Nat) (h : i < L.length) : (flatA L)[i * 2]? = some (.string L[i].1) ∧ (flatA L)[i * 2 + 1]? = some (.string L[i].2) := by
  induction L generalizing i with
  | nil => simp at h
  | cons a L ih =>
    cases i with
    | zero => exact ⟨rfl, rfl⟩
    | succ i =>
      have := ih i (by simpa using h)
      have e1 : (i + 1) * 2 = i * 2 + 2 := by omega
      have e2 : (i + 1) * 2 + 1 = i * 2 + 1 + 2 := by omega
      rw [e2, e1]
      simpa [flatA] using this
set_option maxRecDepth 100000 in
set_option maxHeartbeats 4000000 in
theorem wen (l b : Nat) (tot : List It) (w0 : World) (J : List It → World → Prop) (hY : Rnd l tot w0 J) (hm : ∀ pre W W', J pre W → Kept [] W W' → J pre W') (s : ByteArray) (av : Value) (ats : List (ByteArray × ByteArray)) (pre : List It) (W : World) (hK : Kept [] w0 W) (hJ : J pre W) (hW : Wk W b l) (hp : pre ++ itemsOf (.enter s ats) <+: tot) (hA : AtrA W av ats) (hal : ats.length ≤ 4096) :
    Calls Tryz.prog 439 #[.pointer (some ⟨b, 0, none⟩), .string s, av] W fun e W' => e = .returned (.bool true) ∧ (J (pre ++ itemsOf (.enter s ats)) W' ∧ Wk W' b l) ∧ Kept [] w0 W' := by
  have hp1 : pre ++ [(⟨4, s, ⟨#[]⟩⟩ : It)] <+: tot := by
    obtain ⟨r, hr⟩ := hp
    exact ⟨_, by rw [← hr]; simp [itemsOf]; rfl⟩
  have C := hide (tell_ok l b tot w0 J hY pre ⟨4, s, ⟨#[]⟩⟩ W hK hJ hW hp1)
  obtain ⟨ao, cap, hav⟩ := owns_shape hA
  have HA := hide hA
  have HP := hide hp
  have HY := hide hY
  have HM := hide hm
  obtain ⟨n, hn⟩ : ∃ n, n = ats.length := ⟨_, rfl⟩
  rw [← hn] at hal hav
  have HN := hide hn
  subst hav
  clear hY hK hJ hW hp hp1 hA hm hn
  go_enter Tryz.func439, Tryz.ntmps439
  go_wp2_with fail
  refine C.out.mono ?_
  rintro e W2 ⟨rfl, ⟨⟨hj, hw⟩, hk⟩, hx⟩
  have HA2 := hide (hx.atr HA.out)
  have HJ2 := hide hj
  have HW2 := hide hw
  have HK2 := hide hk
  clear hj hw hk hx C HA
  go_wp2_with fail
  go_loopw [14] (fun v wr => ∃ i : Nat, v = .int .i64 i ∧ i ≤ n ∧ J (pre ++ (⟨4, s, ⟨#[]⟩⟩ :: (ats.take i).map fun a => (⟨5, a.1, a.2⟩ : It))) wr ∧ Wk wr b l ∧ Kept [] w0 wr ∧ AtrA wr (.slice ao n cap) ats) (fun v _ => n - (intOf v).toNat)
  case atStart => exact ⟨0, rfl, Nat.zero_le _, by simpa using HJ2.out, HW2.out, HK2.out, HA2.out⟩
  case round =>
    obtain ⟨i, rfl, hi, hj, hw, hk, ha⟩ := hrel
    by_cases hlt : i < n
    · have h1 : i < ats.length := by rw [← HN.out]; exact hlt
      obtain ⟨g, hao⟩ : ∃ g, ao = some ⟨g, 0, none⟩ := by
        rcases ha.2 with ⟨e, h0⟩ | ⟨g, cap', cur, e, _⟩
        · omega
        · injection e with e1; exact ⟨g, e1⟩
      subst hao
      have hc0 : wr.cell? ⟨g, i * 2, none⟩ = some (.string ats[i].1) := by
        have := ha.cells (g := g) rfl (i * 2) _ (flatA_get ats i h1).1
        rw [addr_add] at this
        simpa using this
      have hc1 : wr.cell? ⟨g, i * 2 + 1, none⟩ = some (.string ats[i].2) := by
        have := ha.cells (g := g) rfl (i * 2 + 1) _ (flatA_get ats i h1).2
        rw [addr_add] at this
        simpa using this
      have hstep : (pre ++ (⟨4, s, ⟨#[]⟩⟩ :: (ats.take i).map fun a => (⟨5, a.1, a.2⟩ : It))) ++ [⟨5, ats[i].1, ats[i].2⟩] = pre ++ (⟨4, s, ⟨#[]⟩⟩ :: (ats.take (i + 1)).map fun a => (⟨5, a.1, a.2⟩ : It)) := by
        have : (ats.take (i + 1)) = ats.take i ++ [ats[i]] := by rw [List.take_add_one, List.getElem?_eq_getElem h1]; rfl
        rw [this, List.map_append]
        simp only [List.append_assoc, List.cons_append, List.map_cons, List.map_nil]
      have hpre : (pre ++ (⟨4, s, ⟨#[]⟩⟩ :: (ats.take i).map fun a => (⟨5, a.1, a.2⟩ : It))) ++ [⟨5, ats[i].1, ats[i].2⟩] <+: tot := by
        rw [hstep]
        obtain ⟨r, hr⟩ := HP.out
        refine ⟨((ats.drop (i + 1)).map fun a => (⟨5, a.1, a.2⟩ : It)) ++ r, ?_⟩
        rw [← hr]
        have e := congrArg (List.map fun a : ByteArray × ByteArray => (⟨5, a.1, a.2⟩ : It)) (List.take_append_drop (i + 1) ats)
        rw [List.map_append] at e
        show _ = pre ++ (⟨4, s, ⟨#[]⟩⟩ :: ats.map fun a => (⟨5, a.1, a.2⟩ : It)) ++ r
        rw [← e]
        simp only [List.append_assoc, List.cons_append]
      have kk : ∀ o, Kept [] wr (wr.alloc o) := fun o => (Kept.refl [] wr).alloc o
      have CT := hide (fun o => tell_ok l b tot w0 J HY.out _ ⟨5, ats[i].1, ats[i].2⟩ (wr.alloc o) (hk.trans (kk o)) (HM.out _ _ _ hj (kk o)) ((kk o).at hw (by simp)) hpre)
      have HAA := hide (fun o => ha.kept (kk o))
      simp only [hstep] at CT
      generalize ats[i].1 = u1 at *
      generalize ats[i].2 = u2 at *
      clear hstep hpre kk hj hw hk ha
      go_wp2_with fail
      refine (CT.out _).mono ?_
      rintro e W3 ⟨rfl, ⟨⟨hj, hw⟩, hk⟩, hx⟩
      have HJ3 := hide hj
      have HW3 := hide hw
      have HK3 := hide hk
      have HA3 := hide (hx.atr (HAA.out _))
      clear hj hw hk hx CT HAA
      go_wp2
      go_roundw
      case rel => exact ⟨i + 1, by go_num, by omega, HJ3.out, HW3.out, HK3.out, HA3.out⟩
      case measure => simp [intOf]; omega
    · have he : ats.take i = ats := List.take_of_length_le (by rw [← HN.out]; omega)
      rw [he] at hj
      have hw1 : wr.cell? ⟨b, 1, none⟩ = some (.bool false) := by rw [cell_at hw]; rfl
      have hbl := lt_of_block hw
      have HJ3 := hide hj
      have HW3 := hide hw
      have HK3 := hide hk
      clear hj hw hk ha he
      go_wp2
      go_ret
      exact ⟨rfl, ⟨HJ3.out, HW3.out⟩, HK3.out⟩
theorem walker_vis (l b : Nat) (tot : List Ev) (w0 : World) (J : List It → World → Prop) (hY : Rnd l (itemsE tot) w0 J) (hm : ∀ pre W W', J pre W → Kept [] W W' → J pre W') :
    Vis 201 (.pointer (some ⟨b, 0, none⟩)) (fun _ => false) tot w0 (fun pre W => J (itemsE pre) W ∧ Wk W b l) := by
  have one : ∀ pre ev, itemsE (pre ++ [ev]) = itemsE pre ++ itemsOf ev := fun pre ev => by rw [itemsE_append]; simp [itemsE]
  refine { mono := fun pre W W' h hk => ⟨hm _ _ _ h.1 hk, hk.at h.2 (by simp)⟩, dt := fun s => ?_, cm := fun s => ?_, tx := fun s => ?_, leave := fun s => ?_, enter := ?_ }
  · refine ⟨438, .pointer (some ⟨b, 0, none⟩), fun w => by kernel_rfl, fun w => by kernel_rfl, enters_of Tryz.func438 (by kernel_rfl) rfl, fun pre W hK hJ hp => ?_⟩
    have hp2 := itemsE_pre hp
    rw [one] at hp2
    try simp only []
    rw [one]
    exact wdt l b _ w0 J hY s _ W hK hJ.1 hJ.2 hp2
  · refine ⟨437, .pointer (some ⟨b, 0, none⟩), fun w => by kernel_rfl, fun w => by kernel_rfl, enters_of Tryz.func437 (by kernel_rfl) rfl, fun pre W hK hJ hp => ?_⟩
    have hp2 := itemsE_pre hp
    rw [one] at hp2
    try simp only []
    rw [one]
    exact wcm l b _ w0 J hY s _ W hK hJ.1 hJ.2 hp2
  · refine ⟨441, .pointer (some ⟨b, 0, none⟩), fun w => by kernel_rfl, fun w => by kernel_rfl, enters_of Tryz.func441 (by kernel_rfl) rfl, fun pre W hK hJ hp => ?_⟩
    have hp2 := itemsE_pre hp
    rw [one] at hp2
    try simp only []
    rw [one]
    exact wtx l b _ w0 J hY s _ W hK hJ.1 hJ.2 hp2
  · refine ⟨440, .pointer (some ⟨b, 0, none⟩), fun w => by kernel_rfl, fun w => by kernel_rfl, enters_of Tryz.func440 (by kernel_rfl) rfl, fun pre W hK hJ hp => ?_⟩
    have hp2 := itemsE_pre hp
    rw [one] at hp2
    try simp only []
    rw [one]
    exact wlv l b _ w0 J hY s _ W hK hJ.1 hJ.2 hp2
  · refine ⟨439, .pointer (some ⟨b, 0, none⟩), fun w => by kernel_rfl, fun w => by kernel_rfl, enters_of Tryz.func439 (by kernel_rfl) rfl, fun pre W s av ats hK hJ hp hA hal => ?_⟩
    have hp2 := itemsE_pre hp
    rw [one] at hp2
    try simp only []
    rw [one]
    exact wen l b _ w0 J hY hm s av ats _ W hK hJ.1 hJ.2 hp2 hA hal
end Go.Proofs.YtlhhgenpcjjajaaGreatDoor
namespace Go.Proofs.YtlhhgenpcjjajaaGreatDoor
open Go.RowKit
def noSigns (cs : ByteArray) : Prop := ∀ i, i < cs.size → pre (cs.extract i cs.size) ⟨#[60]⟩ = false ∧ pre (cs.extract i cs.size) ⟨#[38]⟩ = false ∧ isNulS (chOf cs i) = false
def PlainRead (w : World) (d f l : Nat) (s : ByteArray) (e : Ending) (w' : World) : Prop :=
  ∃ v k L E fl a, e = .returned (.tuple #[.agg #[v, .pointer (some ⟨k, 0, none⟩)], .pointer none]) ∧ fl 0 = k ∧ RF E fl (SB d f l a (bodyT (csOf s))) w' ∧ w'.ownsRow w.heap.size 53 3 v L.length (scells L) ∧ L.length ≤ 1024 ∧ Kept [] w w'
set_option maxRecDepth 100000 in
set_option maxHeartbeats 8000000 in
theorem read_plain (s : ByteArray) (tv : Value) (base d f l : Nat) (w : World) (ho : w.ownsRow base 5 1 tv s.size (bcells s)) (hs : s.size ≤ 1024) (hd : 4 ≤ d ∧ d ≤ 64) (hf : f ≤ 32) (hl : l ≤ 16) (hT : Tab w) (hn : noSigns (csOf s)) :
    Calls Tryz.prog 38 #[tv, .agg #[.int .i64 (d : Int), .int .i64 (f : Int), .int .i64 (l : Int)]] w (PlainRead w d f l s) := by
  have hmf : ∀ (fn : Fn) (first cap : Array Value) (w : World), (Instr.makeFunc fn first cap).run Tryz.prog w = .ok (.func fn first cap) w := fun _ _ _ _ => rfl
  obtain ⟨w0, hw0⟩ : ∃ w0, w0 = ((w.alloc (.cells #[.int .i64 (d : Int), .int .i64 (f : Int), .int .i64 (l : Int)] 71 (0, 0))).alloc (.cells #[.slice none 0 0, .pointer none] 74 (0, 0))).alloc (.cells #[.pointer none] 78 (0, 0)) := ⟨_, rfl⟩
  have k0 : Kept [] w w0 := by rw [hw0]; exact (((Kept.refl _ _).alloc _).alloc _).alloc _
  have z0 : w0.heap.size = w.heap.size + 3 := by rw [hw0]; simp
  have g0 : w0.heap[w.heap.size]? = some (.cells #[.int .i64 (d : Int), .int .i64 (f : Int), .int .i64 (l : Int)] 71 (0, 0)) := by
    rw [hw0, Below.heap_alloc _ _ _ (by simp; omega), Below.heap_alloc _ _ _ (by simp)]; exact heap_alloc_at w _
  have s0 : w0.heap[w.heap.size + 1]? = some (.cells #[.slice none 0 0, .pointer none] 74 (0, 0)) := by
    rw [hw0, Below.heap_alloc _ _ _ (by simp)]
    have := heap_alloc_at (w.alloc (.cells #[.int .i64 (d : Int), .int .i64 (f : Int), .int .i64 (l : Int)] 71 (0, 0))) (.cells #[.slice none 0 0, .pointer none] 74 (0, 0))
    simpa using this
  have t0 : w0.heap[w.heap.size + 2]? = some (.cells #[.pointer none] 78 (0, 0)) := by
    have := heap_alloc_at ((w.alloc (.cells #[.int .i64 (d : Int), .int .i64 (f : Int), .int .i64 (l : Int)] 71 (0, 0))).alloc (.cells #[.slice none 0 0, .pointer none] 74 (0, 0))) (.cells #[.pointer none] 78 (0, 0))
    rw [hw0]; simpa using this
  have CN := hide (newReader_any s tv base (l : Int) w0 (k0.ownsRow ho (fun _ _ => by simp)) hs)
  have c0 : w0.cell? ⟨w.heap.size, 0, none⟩ = some (.int .i64 (d : Int)) := by rw [cell_at g0]; rfl
  have c1 : w0.cell? ⟨w.heap.size, 1, none⟩ = some (.int .i64 (f : Int)) := by rw [cell_at g0]; rfl
  have c2 : w0.cell? ⟨w.heap.size, 2, none⟩ = some (.int .i64 (l : Int)) := by rw [cell_at g0]; rfl
  obtain ⟨ao, cp, htv⟩ := owns_shape ho
  subst htv
  have HW := hide hw0.symm
  have HK0 := hide k0
  have HZ := hide z0
  have HG0 := hide g0
  have HS0 := hide s0
  have HT0 := hide t0
  have HTab := hide hT
  clear hw0 k0 z0 g0 s0 t0 ho hT
  go_enter_defers Tryz.func38, Tryz.ntmps38
  go_wp2_with fail
  rw [HW.out]
  refine CN.out.mono ?_
  rintro e w1 ⟨r, b, av, g, cap, rfl, hr, hb, hgg, hrd, hats, hlk, hbr, hty, hk1⟩
  have g1 := hk1.at HG0.out (by simp)
  have d0 : w1.cell? ⟨w.heap.size, 0, none⟩ = some (.int .i64 (d : Int)) := by rw [cell_at g1]; rfl
  have d1 : w1.cell? ⟨w.heap.size, 1, none⟩ = some (.int .i64 (f : Int)) := by rw [cell_at g1]; rfl
  have d2 : w1.cell? ⟨w.heap.size, 2, none⟩ = some (.int .i64 (l : Int)) := by rw [cell_at g1]; rfl
  have HT1 := hide (HTab.out.fr (bm := 0) (.of_kept0 (HK0.out.trans hk1)))
  have CB := hide (new_ok (d : Int) (f : Int) (l : Int) (.func 55) #[.pointer (some ⟨r, 0, none⟩)] #[] w1 HT1.out)
  have HRd := hide hrd
  have HAt := hide hats
  have HTy := hide hty
  have HK1 := hide hk1
  have HB := hide (And.intro hr (And.intro hb hgg))
  clear hr hb hgg hrd hats hlk hbr hty hk1 g1 CN c0 c1 c2
  go_wp2_with fail
  refine CB.out.mono ?_
  rintro e w2 ⟨bm, bB, bD, rfl, hN⟩
  have hk2 := hN.k
  have hRd2 : Rd w2 r (rcOf s l av b) 0 0 := HRd.out.kept hk2 (by simp)
  obtain ⟨C, fl, hfl, hrf⟩ := new_rf w.heap.size bm bB bD r d f l w1 w2 (rcOf s l av b) hN hRd2 rfl rfl hd.2 hf hl (by have := HK0.out.size; have := HK1.out.size; omega) (by have := HB.out.1; have := HZ.out; omega)
  obtain ⟨R, hR⟩ : ∃ R, R = rcOf s l av b := ⟨_, rfl⟩
  have hcs : R.cs = csOf s := by rw [hR]; rfl
  have hof : R.ofT = ⟨#[]⟩ := by rw [hR]; rfl
  have hpl : R.plT = false := by rw [hR]; rfl
  have hmv : R.mv = .map (some b) := by rw [hR]; rfl
  have hsz : R.cs.size ≤ 1024 := by rw [hcs, csOf_size]; have := ats_len s s.size; omega
  rw [← hR] at hrf
  have st0 : stI d f l R.cs 0 0 = S0 d f l 0 := by unfold stI; rw [if_pos (Nat.zero_le _)]
  have HR0 : Hid (RgP w bm bB bD r C R g cap (cutOf s) d f l w2.heap.size 0 0 (.slice none 0 0) [] w2) := hide
    { rel := ⟨fl, 0, w2, hfl, by rw [st0]; exact hrf⟩
      ats := by have := HAt.out; rw [← hR] at this; exact this.kept (hk2.mono (by simp))
      aty := by obtain ⟨cA, hA⟩ := HTy.out; exact ⟨cA, hk2.at hA (by simp)⟩
      tb := hk2.at (HK1.out.at HS0.out (by simp)) (by simp)
      sb := hk2.at (HK1.out.at HT0.out (by simp)) (by simp)
      own := World.ownsRow_nil _ _ _ _
      kept := (HK0.out.trans HK1.out).trans hk2
      le := Nat.zero_le _
      len := Nat.le_refl _
      big := ⟨Nat.le_trans (Nat.le_trans HK0.out.size HK1.out.size) hk2.size, Nat.le_refl _⟩
      rge := by have := HB.out.1; have := HZ.out; omega }
  have hns : noSigns R.cs := by rw [hcs]; exact hn
  have HN := hide hns
  have HCS := hide hcs
  clear hN hk2 hRd2 hfl hrf hR st0 hns hcs HRd HAt HTy HTab HT1 CB d0 d1 d2
  go_wp2_with fail
  go_loopw [] (fun wr => ∃ bg ps v L, RgP w bm bB bD r C R g cap (cutOf s) d f l w2.heap.size bg ps v L wr) (fun wr => R.cs.size - (match wr.cell? ⟨r, 3, none⟩ with | some v => (intOf v).toNat | none => 0))
  case atStart => exact ⟨0, 0, _, [], HR0.out⟩
  case round =>
    obtain ⟨bg, ps, v, L, h1⟩ := hrel
    have hrd := h1.rd hof hpl
    have P0 := hrd.ps
    have H1 := hide h1
    obtain ⟨d', hd'⟩ : ∃ d', d = d' + 4 := ⟨d - 4, by omega⟩
    have HD := hide hd'
    clear hd'
    by_cases hlt : ps < R.cs.size
    · obtain ⟨n1, n2, n3⟩ := HN.out ps hlt
      have CX := hide (next_char r R bg ps g cap b (cutOf s) wr hrd h1.ats hmv hof hlt hsz n1 n2)
      rw [show R.cs.extract ps (ps + 1) = chOf R.cs ps from rfl] at CX
      have HN3 := hide n3
      clear h1 hrd n1 n2 n3
      go_wp2_with fail
      refine CX.out.mono ?_
      rintro e w3 ⟨rfl, hk3, hr3⟩
      obtain ⟨⟨fl, a, hfl, hrf⟩, hat3, hty3, tb3, sb3, ow3, kw3⟩ := H1.out.next hof hpl hk3 hr3
      have hT : TakeM takeP ⟨cutOf s ps, cutOf s (ps + 1), .char (chOf R.cs ps), []⟩ (stI d f l R.cs ps a) = .ok () (stI d f l R.cs (ps + 1) (cutOf s ps)) := by rw [HD.out]; exact step_char d' f l R.cs ps a _ _ hlt HN3.out hsz
      have D := Take_char (envOf w.heap.size bm bB r C R ps (ps + 1) w3) takeP (fun m t ht => takeP_p _ m t ht) (cutOf s ps) (cutOf s (ps + 1)) (chOf R.cs ps) [] (fun h => by cases h) fl _ w3 hrf (by rw [hT]; simp)
      rw [hT] at D
      have hpos := stI_pos d f l R.cs ps a
      have C2 : Hid (Calls Tryz.prog 57 #[.pointer (some ⟨bB, 0, none⟩), .iface 188 (.agg #[.int .i64 (cutOf s ps : Int), .int .i64 (cutOf s (ps + 1) : Int), .string (chOf R.cs ps)])] w3 fun e W => e = .returned (.tuple #[]) ∧ ∃ fl', fl' 0 = bD ∧ RF (envOf w.heap.size bm bB r C R ps (ps + 1) w3) fl' (stI d f l R.cs (ps + 1) (cutOf s ps)) W ∧ Fr w.heap.size w3 W) :=
        hide (D.mono (fun e W hL => by
          obtain ⟨fl', h5, h6, h7, h8, h9⟩ := hL
          exact ⟨h7, fl', (h5 0 hpos).trans hfl, h8, h9⟩))
      have HQ := hide (And.intro hat3 (And.intro hty3 (And.intro tb3 (And.intro sb3 (And.intro ow3 kw3)))))
      have HZ3 := hide hk3.size
      clear hk3 hr3 hrf hat3 hty3 tb3 sb3 ow3 kw3 hT D hpos hfl
      go_wp2_with fail
      refine C2.out.mono ?_
      rintro e w4 ⟨rfl, fl4, hfl4, hrf4, hfr4⟩
      obtain ⟨hat3, hty3, tb3, sb3, ow3, kw3⟩ := HQ.out
      have tb4 := hfr4.cellF tb3 (by decide)
      have sb4 := hfr4.cellF sb3 (by decide)
      have kw4 := hfr4.kept kw3 (Nat.le_refl _)
      obtain ⟨cA, hA3⟩ := hty3
      have hA4 := hfr4.cellF hA3 (by decide)
      have hat4 : Ats w4 r R g cap (cutOf s) := ⟨hat3.av, hat3.ne, lt_of_block hA4, fun i hi => by rw [cell_at hA4, ← cell_at hA3]; exact hat3.at_ i hi⟩
      have ow4 : w4.ownsRow w2.heap.size 53 3 v L.length (scells L) := by
        refine ⟨ow3.1, ?_⟩
        rcases ow3.2 with e | ⟨q, cap', cur, e, h1, hc, r'⟩
        · exact .inl e
        · exact .inr ⟨q, cap', cur, e, h1, hfr4.cellF hc (by decide), r'⟩
      have CK := hide (kind_char (envOf w.heap.size bm bB r C R ps (ps + 1) w3) (cutOf s ps) (cutOf s (ps + 1)) (chOf R.cs ps) w4)
      simp only [tokV] at CK
      have hmeth : ∀ w, (Go.method 500 188 (.agg #[.int .i64 (cutOf s ps : Int), .int .i64 (cutOf s (ps + 1) : Int), .string (chOf R.cs ps)]) "Bytes").run Tryz.prog w = .ok (436, .agg #[.int .i64 (cutOf s ps : Int), .int .i64 (cutOf s (ps + 1) : Int)]) w := fun w => by kernel_rfl
      have CY := hide (bytes_ok (cutOf s ps : Int) (cutOf s (ps + 1) : Int) w4)
      have big4 : w2.heap.size ≤ w4.heap.size := Nat.le_trans H1.out.big.2 (Nat.le_trans HZ3.out hfr4.size)
      have HX := hide (And.intro hat4 (And.intro hA4 (And.intro tb4 (And.intro sb4 (And.intro ow4 (And.intro kw4 (And.intro hrf4 (And.intro hfl4 big4))))))))
      clear hfr4 tb3 sb3 ow3 kw3 hA3 hat3 tb4 sb4 ow4 kw4 hrf4 hfl4 hA4 hat4 big4
      go_wp2_with fail
      refine CK.out.mono ?_
      rintro e w5 ⟨rfl, rfl⟩
      go_wp2_with fail
      refine CY.out.mono ?_
      rintro e w6 ⟨rfl, hk6⟩
      obtain ⟨hat5, hA5, tb5, sb5, ow5, kw5, hrf5, hfl5, big5⟩ := HX.out
      have tb6 := hk6.at tb5 (by simp)
      have ow6 := hk6.ownsRow ow5 (fun _ _ => by simp)
      obtain ⟨ax, ac, hv⟩ := owns_shape ow6
      subst hv
      have c6 : w6.cell? ⟨w.heap.size + 1, 0, none⟩ = some (.slice ax L.length ac) := by rw [cell_at tb6]; rfl
      have CA := hide (addSpan_any w2.heap.size _ L ⟨1, cutOf s ps, cutOf s (ps + 1)⟩ w6 ow6 (Nat.le_trans big5 hk6.size) (by have := H1.out.len; omega))
      have HP := hide (And.intro (hat5.kept (hk6.mono (by simp))) (And.intro (hk6.at hA5 (by simp)) (And.intro tb6 (And.intro (hk6.at sb5 (by simp)) (And.intro ow6 (And.intro (kw5.trans hk6) (And.intro (hrf5.kept0 hk6) (And.intro hfl5 (Nat.le_trans big5 hk6.size)))))))))
      clear hat5 hA5 tb5 sb5 ow5 kw5 hrf5 hfl5 big5 tb6 ow6 hk6 HX
      go_wp2_with fail
      refine CA.out.mono ?_
      rintro e w7 ⟨v7, rfl, ow7, hk7⟩
      obtain ⟨hat6, hA6, tb6, sb6, ow6, kw6, hrf6, hfl6, big6⟩ := HP.out
      have ne : ∀ {k : Nat} {c : Array Value} {t : TypeId}, w6.heap[k]? = some (.cells c t (0, 0)) → t ≠ 53 → k ∉ (Value.slice ax L.length ac).ownBlock.toList := by
        intro k c t hk' ht hm
        rcases ow6.2 with ⟨e2, _⟩ | ⟨q, cap', cur, e2, _, hc, _⟩
        · rw [e2] at hm; simp [Value.ownBlock] at hm
        · rw [e2] at hm
          simp [Value.ownBlock] at hm
          subst hm
          rw [hk'] at hc
          simp at hc
          exact ht hc.2
      have hrd6 := hrf6.rdR (by rw [hof, (stI_of _ _ _ _ _ _).1]) (by rw [hpl, (stI_of _ _ _ _ _ _).2])
      have tb7 := hk7.at tb6 (ne tb6 (by decide))
      have sb7 := hk7.at sb6 (ne sb6 (by decide))
      have hA7 := hk7.at hA6 (ne hA6 (by decide))
      have hrd7 : Rd w7 r R ps (ps + 1) := hk7.at hrd6 (ne hrd6 (by decide))
      have hat7 : Ats w7 r R g cap (cutOf s) := ⟨hat6.av, hat6.ne, lt_of_block hA7, fun i hi => by rw [cell_at hA7, ← cell_at hA6]; exact hat6.at_ i hi⟩
      have kw7 : Kept [] w w7 := kw6.next hk7 (fun x hx => .inr (by have h7 := (ow6.lt x (by simpa using hx)).1; have h8 := H1.out.big.1; omega))
      have hrf7 := hrf6.turn [53] (.of_kept hk7 (fun k hk' _ => by
        obtain ⟨c, m, hc⟩ := row_typ ow6 (by simpa using hk')
        exact ⟨⟨_, _, _, hc, by simp⟩, by have h7 := (ow6.lt k (by simpa using hk')).1; have h8 := H1.out.big.1; omega⟩)) (by decide) (by decide) hrd7 (by rw [hof, (stI_of _ _ _ _ _ _).1]) (by rw [hpl, (stI_of _ _ _ _ _ _).2])
      obtain ⟨a7, p7, hv7⟩ := owns_shape ow7
      subst hv7
      have c7 : w7.cell? ⟨w.heap.size + 1, 0, none⟩ = some (.slice ax L.length ac) := by rw [cell_at tb7]; rfl
      have f7 := free_at tb7 0
      have hk8 : Kept [w.heap.size + 1] w7 (w7.setCell ⟨w.heap.size + 1, 0, none⟩ (.slice a7 (addSp L ⟨1, cutOf s ps, cutOf s (ps + 1)⟩).length p7)) := (Kept.refl _ _).setCell (.inl (by simp)) _
      have ne8 : ∀ {k : Nat} {c : Array Value} {t : TypeId}, w7.heap[k]? = some (.cells c t (0, 0)) → t ≠ 74 → k ∉ [w.heap.size + 1] := by
        intro k c t hk' ht hm
        have e := List.mem_singleton.1 hm
        subst e
        rw [tb7] at hk'
        simp at hk'
        exact ht hk'.2.symm
      have hrd8 : Rd (w7.setCell ⟨w.heap.size + 1, 0, none⟩ (.slice a7 (addSp L ⟨1, cutOf s ps, cutOf s (ps + 1)⟩).length p7)) r R ps (ps + 1) := hk8.at hrd7 (ne8 hrd7 (by decide))
      have hrf8 := hrf7.turn [74] (.of_kept hk8 (fun k hk' _ => by
        have e := List.mem_singleton.1 hk'
        subst e
        exact ⟨⟨_, _, _, tb7, by simp⟩, by omega⟩)) (by decide) (by decide) hrd8 (by rw [hof, (stI_of _ _ _ _ _ _).1]) (by rw [hpl, (stI_of _ _ _ _ _ _).2])
      have hA8 := hk8.at hA7 (ne8 hA7 (by decide))
      have HE : Hid (RgP w bm bB bD r C R g cap (cutOf s) d f l w2.heap.size ps (ps + 1) (.slice a7 (addSp L ⟨1, cutOf s ps, cutOf s (ps + 1)⟩).length p7) (addSp L ⟨1, cutOf s ps, cutOf s (ps + 1)⟩) (w7.setCell ⟨w.heap.size + 1, 0, none⟩ (.slice a7 (addSp L ⟨1, cutOf s ps, cutOf s (ps + 1)⟩).length p7))) := hide
        { rel := ⟨fl4, _, _, hfl6, hrf8⟩
          ats := ⟨hat7.av, hat7.ne, lt_of_block hA8, fun i hi => by rw [cell_at hA8, ← cell_at hA7]; exact hat7.at_ i hi⟩
          aty := ⟨_, hA8⟩
          tb := block_setCell tb7 0 _
          sb := hk8.at sb7 (ne8 sb7 (by decide))
          own := hk8.ownsRow ow7 (fun q hq => by
            rcases ow7.2 with ⟨e2, _⟩ | ⟨q', cap', cur, e2, _, hc, _⟩
            · rw [e2] at hq; cases hq
            · rw [e2] at hq
              have e3 := Option.some.inj hq
              subst e3
              exact ne8 hc (by decide))
          kept := kw7.setCell (.inr (by simp)) _
          le := hlt
          len := by have h8 := addSp_len L ⟨1, cutOf s ps, cutOf s (ps + 1)⟩; have h9 := H1.out.len; omega
          big := ⟨H1.out.big.1, Nat.le_trans (Nat.le_trans big6 hk7.size) hk8.size⟩
          rge := H1.out.rge }
      have P8 := hrd8.ps
      have hmeas : R.cs.size - (ps + 1) < R.cs.size - ps := by omega
      clear hat6 hA6 tb6 sb6 ow6 kw6 hrf6 hfl6 big6 ne hrd6 tb7 sb7 hA7 hrd7 hat7 kw7 hrf7 hk8 ne8 hrd8 hrf8 hA8 ow7 hk7 HP CA
      generalize (addSp L ⟨1, cutOf s ps, cutOf s (ps + 1)⟩).length = len7 at *
      go_wp2
      go_roundw
      case rel => exact ⟨_, _, _, _, HE.out⟩
      case measure => rw [P8, P0]; simpa [intOf] using hmeas
    · have e : ps = R.cs.size := by have := h1.le; omega
      subst e
      have CX := hide (next_end r R bg g cap (cutOf s) wr hrd h1.ats hsz)
      clear h1 hrd
      go_wp2_with fail
      refine CX.out.mono ?_
      rintro e w3 ⟨rfl, hk3, hr3⟩
      obtain ⟨⟨fl, a, hfl, hrf⟩, hat3, hty3, tb3, sb3, ow3, kw3⟩ := H1.out.next hof hpl hk3 hr3
      have hT : TakeM takeP ⟨cutOf s R.cs.size, cutOf s R.cs.size, .textEnd, []⟩ (stI d f l R.cs R.cs.size a) = .ok () (SB d f l (cutOf s R.cs.size) (bodyT R.cs)) := by rw [HD.out]; exact step_end d' f l R.cs a _ _
      have D := Take_textEnd (envOf w.heap.size bm bB r C R R.cs.size R.cs.size w3) takeP (fun m t ht => takeP_p _ m t ht) (cutOf s R.cs.size) (cutOf s R.cs.size) [] (fun h => by cases h) fl _ w3 hrf (by rw [hT]; simp)
      rw [hT] at D
      have hpos := stI_pos d f l R.cs R.cs.size a
      have C2 : Hid (Calls Tryz.prog 57 #[.pointer (some ⟨bB, 0, none⟩), .iface 186 (.agg #[.int .i64 (cutOf s R.cs.size : Int), .int .i64 (cutOf s R.cs.size : Int)])] w3 fun e W => e = .returned (.tuple #[]) ∧ ∃ fl', fl' 0 = bD ∧ RF (envOf w.heap.size bm bB r C R R.cs.size R.cs.size w3) fl' (SB d f l (cutOf s R.cs.size) (bodyT R.cs)) W ∧ Fr w.heap.size w3 W) :=
        hide (D.mono (fun e W hL => by
          obtain ⟨fl', h5, h6, h7, h8, h9⟩ := hL
          exact ⟨h7, fl', (h5 0 hpos).trans hfl, h8, h9⟩))
      have HQ := hide (And.intro tb3 (And.intro sb3 (And.intro ow3 kw3)))
      clear hk3 hr3 hrf hat3 hty3 tb3 sb3 ow3 kw3 hT D hpos hfl
      go_wp2_with fail
      refine C2.out.mono ?_
      rintro e w4 ⟨rfl, fl4, hfl4, hrf4, hfr4⟩
      obtain ⟨tb3, sb3, ow3, kw3⟩ := HQ.out
      have tb4 := hfr4.cellF tb3 (by decide)
      have sb4 := hfr4.cellF sb3 (by decide)
      have kw4 := hfr4.kept kw3 (Nat.le_refl _)
      have ow4 : w4.ownsRow w2.heap.size 53 3 v L.length (scells L) := by
        refine ⟨ow3.1, ?_⟩
        rcases ow3.2 with e | ⟨q, cap', cur, e, h1, hc, r'⟩
        · exact .inl e
        · exact .inr ⟨q, cap', cur, e, h1, hfr4.cellF hc (by decide), r'⟩
      have CK := hide (kind_end (envOf w.heap.size bm bB r C R R.cs.size R.cs.size w3) (cutOf s R.cs.size) (cutOf s R.cs.size) w4)
      have CD := hide (document_ok _ _ _ _ hrf4)
      simp only [tokV] at CK
      have eD : nV fl4 0 = .pointer (some ⟨bD, 0, none⟩) := by unfold nV; rw [hfl4]
      rw [eD] at CD
      obtain ⟨ax, ac, hv⟩ := owns_shape ow4
      subst hv
      have c0 : w4.cell? ⟨w.heap.size + 1, 0, none⟩ = some (.slice ax L.length ac) := by rw [cell_at tb4]; rfl
      have c1 : w4.cell? ⟨w.heap.size + 1, 1, none⟩ = some (.pointer none) := by rw [cell_at tb4]; rfl
      have c2 : w4.cell? ⟨w.heap.size + 1 + 1, 0, none⟩ = some (.pointer none) := by rw [cell_at (show w4.heap[w.heap.size + 1 + 1]? = _ from sb4)]; rfl
      have f0 := free_at tb4 0
      have f1 := free_at tb4 1
      have f2 := free_at (show w4.heap[w.heap.size + 1 + 1]? = _ from sb4) 0
      clear hfr4 tb3 sb3 ow3 kw3
      have HX := hide (And.intro tb4 (And.intro sb4 (And.intro ow4 (And.intro kw4 (And.intro hrf4 hfl4)))))
      clear tb4 sb4 ow4 kw4 hrf4 hfl4 eD
      go_wp2_with fail
      refine CK.out.mono ?_
      rintro e w5 ⟨rfl, rfl⟩
      go_wp2_with fail
      refine CD.out.mono ?_
      rintro e w5 ⟨rfl, rfl⟩
      obtain ⟨tb5, sb5, ow5, kw5, hrf5, hfl5⟩ := HX.out
      have hne : w.heap.size + 1 + 1 ≠ w.heap.size + 1 := by omega
      have tb6 : (w5.setCell ⟨w.heap.size + 1, 1, none⟩ (.pointer (some ⟨bD, 0, none⟩))).heap[w.heap.size + 1]? = some (.cells #[.slice ax L.length ac, .pointer (some ⟨bD, 0, none⟩)] 74 (0, 0)) := block_setCell tb5 1 _
      have sb6 : (w5.setCell ⟨w.heap.size + 1, 1, none⟩ (.pointer (some ⟨bD, 0, none⟩))).heap[w.heap.size + 1 + 1]? = some (.cells #[.pointer none] 78 (0, 0)) := (Below.heap_setCell _ _ _ _ hne).trans sb5
      have E1 := hide (setCell_same tb6 0 (.slice ax L.length ac) rfl)
      have E2 := hide (setCell_same tb6 1 (.pointer (some ⟨bD, 0, none⟩)) rfl)
      have E3 := hide (setCell_same sb6 0 (.pointer none) rfl)
      have q0 : (w5.setCell ⟨w.heap.size + 1, 1, none⟩ (.pointer (some ⟨bD, 0, none⟩))).cell? ⟨w.heap.size + 1, 0, none⟩ = some (.slice ax L.length ac) := by rw [cell_at tb6]; rfl
      have q1 : (w5.setCell ⟨w.heap.size + 1, 1, none⟩ (.pointer (some ⟨bD, 0, none⟩))).cell? ⟨w.heap.size + 1, 1, none⟩ = some (.pointer (some ⟨bD, 0, none⟩)) := by rw [cell_at tb6]; rfl
      have q2 : (w5.setCell ⟨w.heap.size + 1, 1, none⟩ (.pointer (some ⟨bD, 0, none⟩))).cell? ⟨w.heap.size + 1 + 1, 0, none⟩ = some (.pointer none) := by rw [cell_at sb6]; rfl
      have hk6 : Kept [w.heap.size + 1] w5 (w5.setCell ⟨w.heap.size + 1, 1, none⟩ (.pointer (some ⟨bD, 0, none⟩))) := (Kept.refl _ _).setCell (.inl (by simp)) _
      have hrd5 : Rd w5 r R R.cs.size R.cs.size := hrf5.rdR hof hpl
      have hnr : r ∉ [w.heap.size + 1] := by
        intro hm
        have e := List.mem_singleton.1 hm
        unfold Rd at hrd5
        rw [e, tb5] at hrd5
        simp at hrd5
      have hrf6 := hrf5.turn [74] (.of_kept hk6 (fun k hk' _ => by
        have e := List.mem_singleton.1 hk'
        subst e
        exact ⟨⟨_, _, _, tb5, by simp⟩, by omega⟩)) (by decide) (by decide) (hrd5.kept hk6 hnr) hof hpl
      have HF : Hid (PlainRead w d f l s (.returned (.tuple #[.agg #[.slice ax L.length ac, .pointer (some ⟨bD, 0, none⟩)], .pointer none])) (w5.setCell ⟨w.heap.size + 1, 1, none⟩ (.pointer (some ⟨bD, 0, none⟩)))) := by
        refine hide ⟨_, bD, L, _, fl4, _, rfl, hfl5, by rw [← HCS.out]; exact hrf6, ?_, Nat.le_trans H1.out.len hsz, kw5.setCell (.inr (by simp)) _⟩
        refine ownsRow_base (hk6.ownsRow ow5 (fun q hq => ?_)) H1.out.big.1
        intro hm
        have e := List.mem_singleton.1 hm
        subst e
        rcases ow5.2 with ⟨e2, _⟩ | ⟨q, cap', cur, e2, _, hc, _⟩
        · rw [e2] at hq; cases hq
        · rw [e2] at hq
          have e3 := Option.some.inj hq
          subst e3
          rw [tb5] at hc
          simp at hc
      clear tb5 sb5 ow5 kw5 hrf5 hfl5 tb6 sb6 hk6 hrd5 hnr hrf6 HX HQ H1
      go_wp2
      rw [E1.out, E2.out, E3.out]
      refine leaves_cons (f := 51) (args := #[.pointer (some ⟨w.heap.size + 1, 0, none⟩), .pointer (some ⟨w.heap.size + 1 + 1, 0, none⟩)]) (by simp) (by simp [go_sem]) ?_
      refine (rcatch_idle ⟨w.heap.size + 1, 0, none⟩ ⟨w.heap.size + 1 + 1, 0, none⟩ _).mono ?_
      rintro e u' w'' ⟨rfl, rfl, rfl⟩
      simp [Go.Leaves, settle, results, Tryz.results38, go_sem, q0, q1, q2]
      exact HF.out
end Go.Proofs.YtlhhgenpcjjajaaGreatDoor
