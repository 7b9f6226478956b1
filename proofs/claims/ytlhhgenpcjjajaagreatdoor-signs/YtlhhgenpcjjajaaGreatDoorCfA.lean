import Derived.Test.YtlhhgenpcjjajaaGreatDoorRlA
import Derived.Laws.BytesArg
import Derived.Deep.RegionLaw
import Derived.Deep.AppendLies
import Derived.Test.YtlhhgenpcjjajaaGreatDoorBdR
import Derived.Deep.QuietTactic
import Derived.BigQuiet
import Derived.Laws.StructEq
set_option linter.unusedSimpArgs false
set_option linter.unusedVariables false
namespace Go.Proofs.YtlhhgenpcjjajaaGreatDoor
open Go.RowKit Go.PlainAid
def keepB (s : ByteArray) (i : Nat) : Bool := !(decide (bt s i = 10) && decide (0 < i) && decide (bt s (i - 1) = 13))
def ats (s : ByteArray) (n : Nat) : List Nat := (List.range n).filter (keepB s)
def chI (s : ByteArray) (k : Nat) : Int := if bt s k = 13 then 10 else bt s k
def chB (s : ByteArray) (k : Nat) : UInt8 := (chI s k).toNat.toUInt8
def csOf (s : ByteArray) : ByteArray := ⟨((ats s s.size).map (chB s)).toArray⟩
theorem ats_yes {s : ByteArray} {n : Nat} (h : keepB s n = true) : ats s (n + 1) = ats s n ++ [n] := by unfold ats; rw [List.range_succ, List.filter_append]; simp [h]
theorem ats_no {s : ByteArray} {n : Nat} (h : keepB s n = false) : ats s (n + 1) = ats s n := by unfold ats; rw [List.range_succ, List.filter_append]; simp [h]
theorem ats_len (s : ByteArray) (n : Nat) : (ats s n).length ≤ n := by
  have := List.length_filter_le (keepB s) (List.range n)
  simpa [ats] using this
theorem csOf_size (s : ByteArray) : (csOf s).size = (ats s s.size).length := by show (((ats s s.size).map (chB s)).toArray).size = _; simp
theorem chI_range (s : ByteArray) (k : Nat) : 0 ≤ chI s k ∧ chI s k ≤ 255 := by
  have h0 := bt_nonneg s k
  have h1 := bt_le s k
  unfold chI; split <;> omega
theorem chB_toNat (s : ByteArray) (k : Nat) : ((chB s k).toNat : Int) = chI s k := by
  have := chI_range s k
  unfold chB; simp; omega
def bCells (s : ByteArray) (n : Nat) : List Value := (ats s n).map fun k => .int .u8 (chI s k)
def aCells (s : ByteArray) (n : Nat) : List Value := (ats s n).map fun k : Nat => .int .i64 (k : Int)
theorem own_ne {w : World} {b1 b2 : Nat} {e1 e2 : TypeId} {s1 s2 : Nat} {v1 v2 : Value} {n1 n2 : Nat} {x1 x2 : List Value} (h1 : w.ownsRow b1 e1 s1 v1 n1 x1) (h2 : w.ownsRow b2 e2 s2 v2 n2 x2) (hne : e1 ≠ e2) (k : Nat) (hk : v1.ownBlock = some k) : v2.ownBlock ≠ some k := by
  intro hk2
  rcases h1.2 with ⟨h, _⟩ | ⟨g1, c1, u1, h, _, hc1, _⟩
  · rw [h] at hk; cases hk
  rcases h2.2 with ⟨h', _⟩ | ⟨g2, c2, u2, h', _, hc2, _⟩
  · rw [h'] at hk2; cases hk2
  rw [h] at hk; rw [h'] at hk2
  obtain rfl := Option.some.inj hk
  obtain rfl := Option.some.inj hk2
  exact block_ne hc1 hc2 hne rfl
theorem info_int : (Tryz.prog.info? 3).map (fun i => (i.zero, i.size, i.bytes)) = some (some (.int .i64 0), 1, 8) := by kernel_rfl
theorem run_back {w w' : World} {base n : Nat} {v : Value} {l : List UInt8} (ho : w.ownsRow base 5 1 v n (l.map fun b => .int .u8 (b.toNat : Int))) (hn : l.length = n) (hk : ∀ k, v.ownBlock = some k → w'.heap[k]? = w.heap[k]?) :
    (convert 55 9 v).run Tryz.prog w' = .ok (.string ⟨l.toArray⟩) w' := by
  rcases ho.2 with ⟨rfl, h0⟩ | ⟨g, cap, cur, rfl, hb, hc, hr⟩
  · have : l = [] := List.eq_nil_of_length_eq_zero (by omega)
    subst this
    have := run_convert_bytes_nil (P := Tryz.prog) (w := w') 55 5 Tryz.underlying55 Tryz.underlying5 0 0
    exact this 9 Tryz.underlying9
  · have h := run_convert_bytes_back (P := Tryz.prog) w' 55 9 5 ⟨g, 0, none⟩ cap l Tryz.underlying55 Tryz.underlying5 Tryz.underlying9 (fun j hj => by
      rw [World.cell?_of_block (w := w) (a := (⟨g, 0, none⟩ : Addr).add j) (by rw [addr_add]; exact hk g rfl)]
      exact ho.cells (g := g) rfl j _ (by rw [List.getElem?_map, List.getElem?_eq_getElem hj]; rfl))
    rw [hn] at h
    exact h
structure Half (s : ByteArray) (w : World) (k : Nat) (vb va : Value) (wr : World) : Prop where
  b : wr.ownsRow w.heap.size 5 1 vb (ats s k).length (bCells s k)
  a : wr.ownsRow w.heap.size 3 1 va (ats s k).length (aCells s k)
  kept : Kept [] w wr
set_option maxRecDepth 100000 in
set_option maxHeartbeats 4000000 in
theorem from_any (s : ByteArray) (tv : Value) (base : Nat) (w : World) (ho : w.ownsRow base 5 1 tv s.size (bcells s)) (hs : s.size ≤ 1024) :
    Calls Tryz.prog 68 #[tv] w fun e w' => ∃ av, e = .returned (.tuple #[.string (csOf s), av]) ∧ w'.ownsRow w.heap.size 3 1 av ((ats s s.size).length + 1) (aCells s s.size ++ [.int .i64 (s.size : Int)]) ∧ Kept [] w w' := by
  obtain ⟨iu, hiu, hu0, hu1, hu2⟩ := info_parts info_u8
  obtain ⟨ii, hii, hi0, hi1, hi2⟩ := info_parts info_int
  obtain ⟨ao, cp, htv⟩ := owns_shape ho
  subst htv
  have hcell : ∀ (wr : World), Kept [] w wr → ∀ j, j < s.size → ∃ g, ao = some ⟨g, 0, none⟩ ∧ wr.cell? ⟨g, j, none⟩ = some (.int .u8 (bt s j)) := by
    intro wr hk j hj
    rcases ho.2 with ⟨h, h0⟩ | ⟨g, cap, cur, h, _, hc, _⟩
    · omega
    · have hao : ao = some ⟨g, 0, none⟩ := by simpa using congrArg (fun v => match v with | .slice a _ _ => a | _ => none) h
      refine ⟨g, hao, ?_⟩
      rw [hk.cell (p := ⟨g, j, none⟩) (lt_of_block hc) (by simp)]
      have h1 := ho.cells (g := g) (by rw [h]; rfl) j (.int .u8 (bt s j)) (by
        unfold bcells
        rw [List.getElem?_map, List.getElem?_eq_getElem (by simpa using hj)]
        simp only [Option.map_some]
        rw [show ((s.data.toList[j]'(by simpa using hj)).toNat : Int) = bt s j from by unfold bt; rw [dif_pos hj]; simp; rfl])
      rw [addr_add] at h1
      exact h1
  have HC := hide hcell
  have H0 : Hid (Half s w 0 (.slice none 0 0) (.slice none 0 0) w) := ⟨World.ownsRow_nil _ _ _ _, World.ownsRow_nil _ _ _ _, Kept.refl _ _⟩
  clear hcell ho
  go_enter Tryz.func68, Tryz.ntmps68
  go_wp2_with fail
  go_loopw [4, 5, 10] (fun vb va v wr => ∃ k : Nat, v = .int .i64 k ∧ k ≤ s.size ∧ Half s w k vb va wr) (fun _ _ v _ => s.size - (intOf v).toNat)
  case atStart => exact ⟨0, rfl, Nat.zero_le _, H0.out⟩
  case round =>
    obtain ⟨k, rfl, hk, hh⟩ := hrel
    by_cases hlt : k < s.size
    · obtain ⟨g, hao, c1⟩ := HC.out wr hh.kept k hlt
      subst hao
      have HH := hide hh
      obtain ⟨bo, bc, hvb⟩ := owns_shape hh.b
      obtain ⟨ax, ac, hva⟩ := owns_shape hh.a
      subst hvb hva
      have h0 := bt_nonneg s k
      have h1 := bt_le s k
      have hal := ats_len s k
      clear hh
      by_cases c10 : bt s k = 10
      · by_cases hk0 : k = 0
        · subst hk0
          have hkp : keepB s 0 = true := by unfold keepB; simp
          have hch : chI s 0 = 10 := by unfold chI; rw [c10]; rfl
          rw [c10] at c1
          have hy := ats_yes hkp
          have HY := hide hy
          have HCH := hide hch
          clear hy hch
          go_wp2_with (at_builtin; refine wpList_append_ownF _ rfl _ _ 55 rfl w.heap.size 5 iu (.int .u8 0) 1 1 Tryz.underlying55 hiu hu0 hu1 hu2 rfl (by decide) _ _ _ rfl (HH.out.b.alloc _) ⟨wr.heap.size, 0, none⟩ 1 1 [.int .u8 10] rfl ?c1 ?c2 ?c3 ?c4 ?c5 ?c6 ?_)
          case c1 => rfl
          case c2 =>
            intro j u hj
            match j, hj with
            | 0, hj => simp at hj; subst hj; simp [Addr.add]
          case c3 => intro u hu; simp at hu; subst hu; rfl
          case c4 => unfold maxLen; omega
          case c5 => omega
          case c6 => have := HH.out.kept.size; simp; omega
          intro vb' w2 ho2 hg2 hf2
          obtain ⟨bo', bc', hvb⟩ := owns_shape ho2
          subst hvb
          have k2 : Kept [] w w2 := (HH.out.kept.alloc _).grown hg2 (fun x hx => .inr (HH.out.b.lt x hx).1)
          have a2 : w2.ownsRow w.heap.size 3 1 (.slice ax (ats s 0).length ac) (ats s 0).length (aCells s 0) := by
            have h3 : Kept (Value.slice bo (ats s 0).length bc).ownBlock.toList (wr.alloc (.cells #[.int .u8 10] 5)) w2 := (Kept.refl _ _).grown hg2 (fun x hx => .inl (by simp [hx]))
            exact h3.ownsRow (HH.out.a.alloc _) (fun x hx => by simp; exact fun hb => own_ne HH.out.b HH.out.a (by decide) x hb hx)
          have HO2 := hide ho2
          have HA2 := hide a2
          have HK2 := hide k2
          clear ho2 hg2 hf2 a2 k2 c1
          go_wp2_with (at_builtin; refine wpList_append_ownF _ rfl _ _ 23 rfl w.heap.size 3 ii (.int .i64 0) 1 8 Tryz.underlying23 hii hi0 hi1 hi2 rfl (by decide) _ _ _ rfl (HA2.out.alloc _) ⟨w2.heap.size, 0, none⟩ 1 1 [.int .i64 ((0 : Nat) : Int)] rfl ?c1 ?c2 ?c3 ?c4 ?c5 ?c6 ?_)
          case c1 => rfl
          case c2 =>
            intro j u hj
            match j, hj with
            | 0, hj => simp at hj; subst hj; simp [Addr.add]
          case c3 => intro u hu; simp at hu; subst hu; rfl
          case c4 => unfold maxLen; omega
          case c5 => omega
          case c6 => have := HK2.out.size; simp; omega
          intro va' w3 ho3 hg3 hf3
          obtain ⟨ao', ac', hva⟩ := owns_shape ho3
          subst hva
          have HE : Hid (Half s w (0 + 1) (.slice bo' ((ats s 0).length + 1) bc') (.slice ao' ((ats s 0).length + 1) ac') w3) := by
            have h3 : Kept (Value.slice ax (ats s 0).length ac).ownBlock.toList (w2.alloc (.cells #[.int .i64 ((0 : Nat) : Int)] 3)) w3 := (Kept.refl _ _).grown hg3 (fun x hx => .inl (by simp [hx]))
            refine ⟨?_, ?_, (HK2.out.alloc _).grown hg3 (fun x hx => .inr (HA2.out.lt x hx).1)⟩
            · unfold bCells
              rw [HY.out, List.map_append, List.length_append]
              have := h3.ownsRow (HO2.out.alloc _) (fun x hx => by simp; exact fun hb => own_ne HA2.out HO2.out (by decide) x hb hx)
              simpa [bCells, HCH.out] using this
            · unfold aCells
              rw [HY.out, List.map_append, List.length_append]
              simpa [aCells] using ho3
          clear ho3 hg3 hf3 HY HCH
          generalize (ats s 0).length = len at *
          go_wp2
          go_roundw
          case rel => exact ⟨0 + 1, by go_num, by omega, HE.out⟩
          case measure => simp [intOf]; omega
        · have c2 : wr.cell? ⟨g, k - 1, none⟩ = some (.int .u8 (bt s (k - 1))) := by
            obtain ⟨g', hg', c2⟩ := HC.out wr HH.out.kept (k - 1) (by omega)
            obtain rfl : g = g' := by simpa using hg'
            exact c2
          obtain ⟨m, rfl⟩ : ∃ m, k = m + 1 := ⟨k - 1, by omega⟩
          simp only [Nat.add_sub_cancel] at c2
          by_cases c13 : bt s m = 13
          · have hkp : keepB s (m + 1) = false := by unfold keepB; simp [c10, c13]
            have HE : Hid (Half s w (m + 1 + 1) (.slice bo (ats s (m + 1)).length bc) (.slice ax (ats s (m + 1)).length ac) wr) := by
              have := HH.out
              refine ⟨?_, ?_, this.kept⟩
              · have h := this.b; unfold bCells at h ⊢; rw [ats_no hkp]; exact h
              · have h := this.a; unfold aCells at h ⊢; rw [ats_no hkp]; exact h
            rw [c10] at c1
            rw [c13] at c2
            generalize (ats s (m + 1)).length = len at *
            go_wp2
            go_roundw
            case rel => exact ⟨m + 1 + 1, by go_num, by omega, HE.out⟩
            case measure => simp [intOf]; omega
          · have hkp : keepB s (m + 1) = true := by unfold keepB; simp [c13]
            have hch : chI s (m + 1) = 10 := by unfold chI; rw [c10]; rfl
            have c13' : ¬ bt s m = 13 := c13
            rw [c10] at c1
            have m0 := bt_nonneg s m
            have m1 := bt_le s m
            have hy := ats_yes hkp
            have HY := hide hy
            have HCH := hide hch
            clear hy hch
            go_wp2_with (at_builtin; refine wpList_append_ownF _ rfl _ _ 55 rfl w.heap.size 5 iu (.int .u8 0) 1 1 Tryz.underlying55 hiu hu0 hu1 hu2 rfl (by decide) _ _ _ rfl (HH.out.b.alloc _) ⟨wr.heap.size, 0, none⟩ 1 1 [.int .u8 10] rfl ?c1 ?c2 ?c3 ?c4 ?c5 ?c6 ?_)
            case c1 => rfl
            case c2 =>
              intro j u hj
              match j, hj with
              | 0, hj => simp at hj; subst hj; simp [Addr.add]
            case c3 => intro u hu; simp at hu; subst hu; rfl
            case c4 => unfold maxLen; omega
            case c5 => omega
            case c6 => have := HH.out.kept.size; simp; omega
            intro vb' w2 ho2 hg2 hf2
            obtain ⟨bo', bc', hvb⟩ := owns_shape ho2
            subst hvb
            have k2 : Kept [] w w2 := (HH.out.kept.alloc _).grown hg2 (fun x hx => .inr (HH.out.b.lt x hx).1)
            have a2 : w2.ownsRow w.heap.size 3 1 (.slice ax (ats s (m + 1)).length ac) (ats s (m + 1)).length (aCells s (m + 1)) := by
              have h3 : Kept (Value.slice bo (ats s (m + 1)).length bc).ownBlock.toList (wr.alloc (.cells #[.int .u8 10] 5)) w2 := (Kept.refl _ _).grown hg2 (fun x hx => .inl (by simp [hx]))
              exact h3.ownsRow (HH.out.a.alloc _) (fun x hx => by simp; exact fun hb => own_ne HH.out.b HH.out.a (by decide) x hb hx)
            have HO2 := hide ho2
            have HA2 := hide a2
            have HK2 := hide k2
            clear ho2 hg2 hf2 a2 k2 c1
            go_wp2_with (at_builtin; refine wpList_append_ownF _ rfl _ _ 23 rfl w.heap.size 3 ii (.int .i64 0) 1 8 Tryz.underlying23 hii hi0 hi1 hi2 rfl (by decide) _ _ _ rfl (HA2.out.alloc _) ⟨w2.heap.size, 0, none⟩ 1 1 [.int .i64 (((m + 1) : Nat) : Int)] rfl ?c1 ?c2 ?c3 ?c4 ?c5 ?c6 ?_)
            case c1 => rfl
            case c2 =>
              intro j u hj
              match j, hj with
              | 0, hj => simp at hj; subst hj; simp [Addr.add]
            case c3 => intro u hu; simp at hu; subst hu; rfl
            case c4 => unfold maxLen; omega
            case c5 => omega
            case c6 => have := HK2.out.size; simp; omega
            intro va' w3 ho3 hg3 hf3
            obtain ⟨ao', ac', hva⟩ := owns_shape ho3
            subst hva
            have HE : Hid (Half s w ((m + 1) + 1) (.slice bo' ((ats s (m + 1)).length + 1) bc') (.slice ao' ((ats s (m + 1)).length + 1) ac') w3) := by
              have h3 : Kept (Value.slice ax (ats s (m + 1)).length ac).ownBlock.toList (w2.alloc (.cells #[.int .i64 (((m + 1) : Nat) : Int)] 3)) w3 := (Kept.refl _ _).grown hg3 (fun x hx => .inl (by simp [hx]))
              refine ⟨?_, ?_, (HK2.out.alloc _).grown hg3 (fun x hx => .inr (HA2.out.lt x hx).1)⟩
              · unfold bCells
                rw [HY.out, List.map_append, List.length_append]
                have := h3.ownsRow (HO2.out.alloc _) (fun x hx => by simp; exact fun hb => own_ne HA2.out HO2.out (by decide) x hb hx)
                simpa [bCells, HCH.out] using this
              · unfold aCells
                rw [HY.out, List.map_append, List.length_append]
                simpa [aCells] using ho3
            clear ho3 hg3 hf3 HY HCH
            generalize (ats s (m + 1)).length = len at *
            go_wp2
            go_roundw
            case rel => exact ⟨(m + 1) + 1, by go_num, by omega, HE.out⟩
            case measure => simp [intOf]; omega
      · by_cases c13 : bt s k = 13
        · have hkp : keepB s k = true := by unfold keepB; simp [c10]
          have hch : chI s k = 10 := by unfold chI; rw [c13]; rfl
          rw [c13] at c1
          have hy := ats_yes hkp
          have HY := hide hy
          have HCH := hide hch
          clear hy hch
          go_wp2_with (at_builtin; refine wpList_append_ownF _ rfl _ _ 55 rfl w.heap.size 5 iu (.int .u8 0) 1 1 Tryz.underlying55 hiu hu0 hu1 hu2 rfl (by decide) _ _ _ rfl (HH.out.b.alloc _) ⟨wr.heap.size, 0, none⟩ 1 1 [.int .u8 10] rfl ?c1 ?c2 ?c3 ?c4 ?c5 ?c6 ?_)
          case c1 => rfl
          case c2 =>
            intro j u hj
            match j, hj with
            | 0, hj => simp at hj; subst hj; simp [Addr.add]
          case c3 => intro u hu; simp at hu; subst hu; rfl
          case c4 => unfold maxLen; omega
          case c5 => omega
          case c6 => have := HH.out.kept.size; simp; omega
          intro vb' w2 ho2 hg2 hf2
          obtain ⟨bo', bc', hvb⟩ := owns_shape ho2
          subst hvb
          have k2 : Kept [] w w2 := (HH.out.kept.alloc _).grown hg2 (fun x hx => .inr (HH.out.b.lt x hx).1)
          have a2 : w2.ownsRow w.heap.size 3 1 (.slice ax (ats s k).length ac) (ats s k).length (aCells s k) := by
            have h3 : Kept (Value.slice bo (ats s k).length bc).ownBlock.toList (wr.alloc (.cells #[.int .u8 10] 5)) w2 := (Kept.refl _ _).grown hg2 (fun x hx => .inl (by simp [hx]))
            exact h3.ownsRow (HH.out.a.alloc _) (fun x hx => by simp; exact fun hb => own_ne HH.out.b HH.out.a (by decide) x hb hx)
          have HO2 := hide ho2
          have HA2 := hide a2
          have HK2 := hide k2
          clear ho2 hg2 hf2 a2 k2 c1
          go_wp2_with (at_builtin; refine wpList_append_ownF _ rfl _ _ 23 rfl w.heap.size 3 ii (.int .i64 0) 1 8 Tryz.underlying23 hii hi0 hi1 hi2 rfl (by decide) _ _ _ rfl (HA2.out.alloc _) ⟨w2.heap.size, 0, none⟩ 1 1 [.int .i64 ((k : Nat) : Int)] rfl ?c1 ?c2 ?c3 ?c4 ?c5 ?c6 ?_)
          case c1 => rfl
          case c2 =>
            intro j u hj
            match j, hj with
            | 0, hj => simp at hj; subst hj; simp [Addr.add]
          case c3 => intro u hu; simp at hu; subst hu; rfl
          case c4 => unfold maxLen; omega
          case c5 => omega
          case c6 => have := HK2.out.size; simp; omega
          intro va' w3 ho3 hg3 hf3
          obtain ⟨ao', ac', hva⟩ := owns_shape ho3
          subst hva
          have HE : Hid (Half s w (k + 1) (.slice bo' ((ats s k).length + 1) bc') (.slice ao' ((ats s k).length + 1) ac') w3) := by
            have h3 : Kept (Value.slice ax (ats s k).length ac).ownBlock.toList (w2.alloc (.cells #[.int .i64 ((k : Nat) : Int)] 3)) w3 := (Kept.refl _ _).grown hg3 (fun x hx => .inl (by simp [hx]))
            refine ⟨?_, ?_, (HK2.out.alloc _).grown hg3 (fun x hx => .inr (HA2.out.lt x hx).1)⟩
            · unfold bCells
              rw [HY.out, List.map_append, List.length_append]
              have := h3.ownsRow (HO2.out.alloc _) (fun x hx => by simp; exact fun hb => own_ne HA2.out HO2.out (by decide) x hb hx)
              simpa [bCells, HCH.out] using this
            · unfold aCells
              rw [HY.out, List.map_append, List.length_append]
              simpa [aCells] using ho3
          clear ho3 hg3 hf3 HY HCH
          generalize (ats s k).length = len at *
          go_wp2
          go_roundw
          case rel => exact ⟨k + 1, by go_num, by omega, HE.out⟩
          case measure => simp [intOf]; omega
        · have hkp : keepB s k = true := by unfold keepB; simp [c10]
          have hch : chI s k = bt s k := by unfold chI; rw [if_neg c13]
          have hy := ats_yes hkp
          have HY := hide hy
          have HCH := hide hch
          clear hy hch
          go_wp2_with (at_builtin; refine wpList_append_ownF _ rfl _ _ 55 rfl w.heap.size 5 iu (.int .u8 0) 1 1 Tryz.underlying55 hiu hu0 hu1 hu2 rfl (by decide) _ _ _ rfl (HH.out.b.alloc _) ⟨wr.heap.size, 0, none⟩ 1 1 [.int .u8 (bt s k)] rfl ?c1 ?c2 ?c3 ?c4 ?c5 ?c6 ?_)
          case c1 => rfl
          case c2 =>
            intro j u hj
            match j, hj with
            | 0, hj => simp at hj; subst hj; simp [Addr.add]
          case c3 => intro u hu; simp at hu; subst hu; rfl
          case c4 => unfold maxLen; omega
          case c5 => omega
          case c6 => have := HH.out.kept.size; simp; omega
          intro vb' w2 ho2 hg2 hf2
          obtain ⟨bo', bc', hvb⟩ := owns_shape ho2
          subst hvb
          have k2 : Kept [] w w2 := (HH.out.kept.alloc _).grown hg2 (fun x hx => .inr (HH.out.b.lt x hx).1)
          have a2 : w2.ownsRow w.heap.size 3 1 (.slice ax (ats s k).length ac) (ats s k).length (aCells s k) := by
            have h3 : Kept (Value.slice bo (ats s k).length bc).ownBlock.toList (wr.alloc (.cells #[.int .u8 (bt s k)] 5)) w2 := (Kept.refl _ _).grown hg2 (fun x hx => .inl (by simp [hx]))
            exact h3.ownsRow (HH.out.a.alloc _) (fun x hx => by simp; exact fun hb => own_ne HH.out.b HH.out.a (by decide) x hb hx)
          have HO2 := hide ho2
          have HA2 := hide a2
          have HK2 := hide k2
          clear ho2 hg2 hf2 a2 k2 c1
          go_wp2_with (at_builtin; refine wpList_append_ownF _ rfl _ _ 23 rfl w.heap.size 3 ii (.int .i64 0) 1 8 Tryz.underlying23 hii hi0 hi1 hi2 rfl (by decide) _ _ _ rfl (HA2.out.alloc _) ⟨w2.heap.size, 0, none⟩ 1 1 [.int .i64 ((k : Nat) : Int)] rfl ?c1 ?c2 ?c3 ?c4 ?c5 ?c6 ?_)
          case c1 => rfl
          case c2 =>
            intro j u hj
            match j, hj with
            | 0, hj => simp at hj; subst hj; simp [Addr.add]
          case c3 => intro u hu; simp at hu; subst hu; rfl
          case c4 => unfold maxLen; omega
          case c5 => omega
          case c6 => have := HK2.out.size; simp; omega
          intro va' w3 ho3 hg3 hf3
          obtain ⟨ao', ac', hva⟩ := owns_shape ho3
          subst hva
          have HE : Hid (Half s w (k + 1) (.slice bo' ((ats s k).length + 1) bc') (.slice ao' ((ats s k).length + 1) ac') w3) := by
            have h3 : Kept (Value.slice ax (ats s k).length ac).ownBlock.toList (w2.alloc (.cells #[.int .i64 ((k : Nat) : Int)] 3)) w3 := (Kept.refl _ _).grown hg3 (fun x hx => .inl (by simp [hx]))
            refine ⟨?_, ?_, (HK2.out.alloc _).grown hg3 (fun x hx => .inr (HA2.out.lt x hx).1)⟩
            · unfold bCells
              rw [HY.out, List.map_append, List.length_append]
              have := h3.ownsRow (HO2.out.alloc _) (fun x hx => by simp; exact fun hb => own_ne HA2.out HO2.out (by decide) x hb hx)
              simpa [bCells, HCH.out] using this
            · unfold aCells
              rw [HY.out, List.map_append, List.length_append]
              simpa [aCells] using ho3
          clear ho3 hg3 hf3 HY HCH
          generalize (ats s k).length = len at *
          go_wp2
          go_roundw
          case rel => exact ⟨k + 1, by go_num, by omega, HE.out⟩
          case measure => simp [intOf]; omega
    · have hk2 : k = s.size := by omega
      subst hk2
      have HH := hide hh
      obtain ⟨bo, bc, hvb⟩ := owns_shape hh.b
      obtain ⟨ax, ac, hva⟩ := owns_shape hh.a
      subst hvb hva
      have hal := ats_len s s.size
      have hbl : bCells s s.size = ((ats s s.size).map (chB s)).map fun b => .int .u8 (b.toNat : Int) := by
        unfold bCells
        rw [List.map_map]
        refine List.map_congr_left fun k _ => ?_
        simp only [Function.comp]
        rw [chB_toNat]
      have hob := hh.b
      rw [hbl] at hob
      obtain ⟨wa, hwa⟩ : ∃ wa, wa = (wr.alloc (.cells #[.int .i64 (s.size : Int)] 3)).drew := ⟨_, rfl⟩
      have ka : Kept [] wr wa := by rw [hwa]; exact ((Kept.refl [] wr).alloc _).drew
      have oa := ka.ownsRow hh.a (fun _ _ => by simp)
      have za : wa.heap.size = wr.heap.size + 1 := by rw [hwa]; simp
      have hsz := hh.kept.size
      have HOA := hide oa
      have HNW : Hid (∀ (j : Nat) (u : Value), [Value.int .i64 (s.size : Int)][j]? = some u → wa.cell? ((⟨wr.heap.size, 0, none⟩ : Addr).add j) = some u) := by
        intro j u hj
        match j, hj with
        | 0, hj =>
          simp at hj; subst hj
          have := heap_alloc_at wr (.cells #[.int .i64 (s.size : Int)] 3)
          rw [addr_add, hwa]
          rw [cell_at (w := (wr.alloc (.cells #[.int .i64 (s.size : Int)] 3)).drew) (b := wr.heap.size) this]
          rfl
      have hne : ∀ k, (Value.slice bo (ats s s.size).length bc).ownBlock = some k → some k ≠ (Value.slice ax (ats s s.size).length ac).ownBlock := fun k hk h => own_ne hh.b hh.a (by decide) k hk h.symm
      have cv1 := run_back (w' := wr.drew) hob (by simp) (fun _ _ => rfl)
      have cv2 := run_back (w' := wa) hob (by simp) (fun k hk => ka.block k (hob.lt k hk).2 (by simp))
      have HCV : Hid (∀ wz : World, wa.grownBy wz (Value.slice ax (ats s s.size).length ac).ownBlock → (convert 55 9 (.slice bo (ats s s.size).length bc)).run Tryz.prog wz = .ok (.string (csOf s)) wz) := fun wz hg' =>
        run_back (w' := wz) hob (by simp) (fun k hk => (hg'.block k (by have := (hob.lt k hk).2; omega) (hne k hk)).trans (ka.block k (hob.lt k hk).2 (by simp)))
      have HKZ : Hid (∀ wz : World, wa.grownBy wz (Value.slice ax (ats s s.size).length ac).ownBlock → Kept [] w wz) := fun wz hg' => (hh.kept.trans ka).grown hg' (fun x hx => .inr (hh.a.lt x hx).1)
      have HBS := hide (show w.heap.size ≤ wa.heap.size by omega)
      rw [hwa] at cv2 HCV HKZ HOA HNW HBS
      clear hh hbl hob hwa ka oa za hsz hne HC
      have hcs : (⟨((ats s s.size).map (chB s)).toArray⟩ : ByteArray) = csOf s := rfl
      rw [hcs] at cv1 cv2
      clear hcs
      go_wp2_with fail
      go_region_law (refine step_append_lies _ rfl (.tmp 42) (.tmp 45) 23 rfl w.heap.size 3 ii (.int .i64 0) 1 8 Tryz.underlying23 hii hi0 hi1 hi2 rfl (by decide) _ _ _ (by simp [Act.eval]) HOA.out ⟨wr.heap.size, 0, none⟩ 1 1 [.int .i64 (s.size : Int)] (by simp [Act.eval, Act.put]) rfl HNW.out (by intro u hu; simp at hu; subst hu; rfl) (by decide) (by unfold maxLen; omega) (by omega) HBS.out (wr.heap.size + 1) (by simp) ?_; intro g cap wz ho' hg' hat hlt'; have cv3 := HCV.out wz hg'; have HKW := hide (HKZ.out wz hg'); have HOZ := hide ho'; clear ho' hg' hat hlt')
      all_goals (try go_wp2)
      all_goals (try go_ret2)
      all_goals exact ⟨_, rfl, HOZ.out, HKW.out⟩
end Go.Proofs.YtlhhgenpcjjajaaGreatDoor
namespace Go.Proofs.YtlhhgenpcjjajaaGreatDoor
open Go.RowKit Go.PlainAid
def cutOf (s : ByteArray) (i : Nat) : Nat := (ats s s.size ++ [s.size]).getD i 0
theorem aCells_at (s : ByteArray) (i : Nat) (h : i ≤ (csOf s).size) : (aCells s s.size ++ [.int .i64 (s.size : Int)])[i]? = some (.int .i64 (cutOf s i : Int)) := by
  rw [csOf_size] at h
  have e : (aCells s s.size ++ [Value.int .i64 (s.size : Int)]) = (ats s s.size ++ [s.size]).map fun k : Nat => .int .i64 (k : Int) := by unfold aCells; simp
  rw [e, List.getElem?_map]
  have hl : i < (ats s s.size ++ [s.size]).length := by simp; omega
  rw [List.getElem?_eq_getElem hl]
  unfold cutOf
  rw [List.getD_eq_getElem?_getD, List.getElem?_eq_getElem hl]
  rfl
def rcOf (s : ByteArray) (lim : Int) (av : Value) (b : Nat) : RC := { cs := csOf s, av := av, at_ := lim, mv := .map (some b), lg := 8 }
set_option maxRecDepth 100000 in
set_option maxHeartbeats 1000000 in
theorem newReader_any (s : ByteArray) (tv : Value) (base : Nat) (lim : Int) (w : World) (ho : w.ownsRow base 5 1 tv s.size (bcells s)) (hs : s.size ≤ 1024) :
    Calls Tryz.prog 53 #[tv, .int .i64 lim] w fun e w' => ∃ r b av g cap, e = .returned (.pointer (some ⟨r, 0, none⟩)) ∧ w.heap.size ≤ r ∧ w.heap.size ≤ b ∧ w.heap.size ≤ g ∧ Rd w' r (rcOf s lim av b) 0 0 ∧ Ats w' r (rcOf s lim av b) g cap (cutOf s) ∧ Lk w' b (lookL KV) ∧ b ≠ r ∧ (∃ cA, w'.heap[g]? = some (.cells cA 3 (0, 0))) ∧ Kept [] w w' := by
  obtain ⟨ao, cp, htv⟩ := owns_shape ho
  subst htv
  have HO := hide ho
  clear ho
  go_enter Tryz.func53, Tryz.ntmps53
  go_wp2_with fail
  refine (refsNew_any w).mono ?_
  rintro e w1 ⟨b, rfl, hb, hL, hk1⟩
  have k2 : Kept [] w1 (w1.alloc (.cells #[.string ⟨#[]⟩, .slice none 0 0, .int .i64 0, .int .i64 0, .int .i64 lim, .map (some b), .int .i64 8, .string ⟨#[]⟩, .bool false] 165)) := (Kept.refl _ _).alloc _
  have hR := heap_alloc_at w1 (.cells #[.string ⟨#[]⟩, .slice none 0 0, .int .i64 0, .int .i64 0, .int .i64 lim, .map (some b), .int .i64 8, .string ⟨#[]⟩, .bool false] 165)
  have CF := hide (from_any s (.slice ao s.size cp) base _ ((hk1.trans k2).ownsRow HO.out (fun _ _ => by simp)) hs)
  have HL := hide hL
  have HK2 := hide (hk1.trans k2)
  have HR := hide hR
  have Hb := hide hb
  have HS1 := hide hk1.size
  clear hL hk1 k2 hR hb
  go_wp2_with fail
  refine CF.out.mono ?_
  rintro e w2 ⟨av, rfl, hav, hk2⟩
  have hr2 := hk2.at HR.out (by simp)
  have c0 : w2.cell? ⟨w1.heap.size, 0, none⟩ = some (.string ⟨#[]⟩) := by rw [cell_at hr2]; rfl
  have c1 : w2.cell? ⟨w1.heap.size, 1, none⟩ = some (.slice none 0 0) := by rw [cell_at hr2]; rfl
  have f0 := free_at hr2 0
  have f1 := free_at hr2 1
  obtain ⟨ax, ac, hv⟩ := owns_shape hav
  subst hv
  obtain ⟨wz, hwz⟩ : ∃ wz, wz = (w2.setCell ⟨w1.heap.size, 0, none⟩ (.string (csOf s))).setCell ⟨w1.heap.size, 1, none⟩ (.slice ax ((ats s s.size).length + 1) ac) := ⟨_, rfl⟩
  have kz : Kept [w1.heap.size] w2 wz := by rw [hwz]; exact ((Kept.refl _ _).setCell (.inl (by simp)) _).setCell (.inl (by simp)) _
  have rz : Rd wz w1.heap.size (rcOf s lim (.slice ax ((ats s s.size).length + 1) ac) b) 0 0 := by
    rw [hwz]
    exact block_setCell (block_setCell hr2 0 _) 1 _
  have hb1 : b < w1.heap.size := HL.out.lt
  have hLz : Lk wz b (lookL KV) := ((HL.out.kept ((Kept.refl [] w1).alloc _) (by simp)).kept hk2 (by simp)).kept kz (by simp; omega)
  have hAz : ∃ g cap, (w.heap.size ≤ g ∧ ∃ cA, wz.heap[g]? = some (.cells cA 3 (0, 0))) ∧ Ats wz w1.heap.size (rcOf s lim (.slice ax ((ats s s.size).length + 1) ac) b) g cap (cutOf s) := by
    rcases hav.2 with ⟨_, h0⟩ | ⟨g, cap, cur, h, hbg, hc, _⟩
    · omega
    · have hgw : w1.heap.size < g := by simp at hbg; omega
      refine ⟨g, cap, ⟨by have := HS1.out; omega, ⟨_, kz.at hc (by simp; omega)⟩⟩, ?_, by omega, Nat.lt_of_lt_of_le (lt_of_block hc) kz.size, fun i hi => ?_⟩
      · show Value.slice ax _ ac = _
        rw [h]; show Value.slice _ _ _ = Value.slice _ ((csOf s).size + 1) _; rw [csOf_size]
      · rw [kz.cell (p := ⟨g, i, none⟩) (lt_of_block hc) (by simp; omega)]
        have := hav.cells (g := g) (by rw [h]; rfl) i _ (aCells_at s i hi)
        rw [addr_add] at this
        exact this
  obtain ⟨g, cap, ⟨hgl, hgt⟩, hA⟩ := hAz
  have kwz : Kept [] w wz := (HK2.out.trans hk2).next kz (by simp; exact HS1.out)
  have HF : Hid (∃ r b av g cap, Ending.returned (.pointer (some ⟨w1.heap.size, 0, none⟩)) = .returned (.pointer (some ⟨r, 0, none⟩)) ∧ w.heap.size ≤ r ∧ w.heap.size ≤ b ∧ w.heap.size ≤ g ∧ Rd wz r (rcOf s lim av b) 0 0 ∧ Ats wz r (rcOf s lim av b) g cap (cutOf s) ∧ Lk wz b (lookL KV) ∧ b ≠ r ∧ (∃ cA, wz.heap[g]? = some (.cells cA 3 (0, 0))) ∧ Kept [] w wz) := by
    exact ⟨_, b, _, g, cap, rfl, HS1.out, Hb.out, hgl, rz, hA, hLz, by omega, hgt, kwz⟩
  rw [hwz] at HF
  clear hLz rz kz hwz hA kwz hr2 hk2 hav
  go_wp2
  go_ret
  exact HF.out
end Go.Proofs.YtlhhgenpcjjajaaGreatDoor
namespace Go.Proofs.YtlhhgenpcjjajaaGreatDoor
open Go.RowKit
structure Sp where
  k : Int
  a : Int
  b : Int
end Go.Proofs.YtlhhgenpcjjajaaGreatDoor
namespace Go.Proofs.YtlhhgenpcjjajaaGreatDoor
open Go.RowKit Go.PlainAid
theorem ownsRow_set {w : World} {base : Nat} {e : TypeId} {size n cap g j : Nat} {xs : List Value} (h : w.ownsRow base e size (.slice (some ⟨g, 0, none⟩) n cap) n xs) (u : Value) : (w.setCell ⟨g, j, none⟩ u).ownsRow base e size (.slice (some ⟨g, 0, none⟩) n cap) n (xs.set j u) := by
  obtain ⟨h1, h2⟩ := h
  refine ⟨by rw [List.length_set]; exact h1, ?_⟩
  rcases h2 with ⟨h2, _⟩ | ⟨g', cap', cur, hv, hb, hc, h3, h4, h5, h6⟩
  · cases h2
  · simp only [Value.slice.injEq, Option.some.injEq, Addr.mk.injEq, and_true, true_and] at hv
    obtain ⟨rfl, rfl⟩ := hv
    refine .inr ⟨g, cap, cur.setIfInBounds j u, rfl, hb, block_setCell hc j u, h3, h4, by rw [Array.size_setIfInBounds]; exact h5, ?_⟩
    rw [Array.toList_setIfInBounds, List.take_set, h6]
def scells (L : List Sp) : List Value := L.flatMap fun p => [.int .i64 p.k, .int .i64 p.a, .int .i64 p.b]
theorem scells_append (L M : List Sp) : scells (L ++ M) = scells L ++ scells M := by unfold scells; rw [List.flatMap_append]
theorem scells_length (L : List Sp) : (scells L).length = L.length * 3 := by
  induction L with
  | nil => rfl
  | cons p L ih => show (Value.int .i64 p.k :: .int .i64 p.a :: .int .i64 p.b :: scells L).length = _; simp [ih]; omega
theorem scells_at (M : List Sp) (l : Sp) (i : Nat) (hi : i < 3) : (scells (M ++ [l]))[M.length * 3 + i]? = [Value.int .i64 l.k, .int .i64 l.a, .int .i64 l.b][i]? := by
  rw [scells_append, List.getElem?_append_right (by rw [scells_length]; omega), scells_length, show M.length * 3 + i - M.length * 3 = i by omega]
  rfl
theorem scells_set (M : List Sp) (l : Sp) (b : Int) : (scells (M ++ [l])).set (M.length * 3 + 2) (.int .i64 b) = scells (M ++ [⟨l.k, l.a, b⟩]) := by
  rw [scells_append, scells_append, List.set_append_right _ _ (by rw [scells_length]; omega), scells_length, show M.length * 3 + 2 - M.length * 3 = 2 by omega]
  rfl
def addSp (L : List Sp) (s : Sp) : List Sp := match L.getLast? with
  | some l => if s.k = 1 ∧ l.k = 1 then L.dropLast ++ [⟨l.k, l.a, s.b⟩] else L ++ [s]
  | none => L ++ [s]
theorem addSp_nil (s : Sp) : addSp [] s = [s] := rfl
theorem addSp_yes (M : List Sp) (l s : Sp) (h : s.k = 1 ∧ l.k = 1) : addSp (M ++ [l]) s = M ++ [⟨l.k, l.a, s.b⟩] := by unfold addSp; simp [h]
theorem addSp_no (M : List Sp) (l s : Sp) (h : ¬ (s.k = 1 ∧ l.k = 1)) : addSp (M ++ [l]) s = M ++ [l] ++ [s] := by unfold addSp; simp [h]
theorem addSp_len (L : List Sp) (s : Sp) : (addSp L s).length ≤ L.length + 1 := by
  rcases List.eq_nil_or_concat L with rfl | ⟨M, l, rfl⟩
  · simp [addSp_nil]
  · by_cases h : s.k = 1 ∧ l.k = 1
    · rw [List.concat_eq_append, addSp_yes M l s h]; simp
    · rw [List.concat_eq_append, addSp_no M l s h]; simp
theorem info_span : (Tryz.prog.info? 53).map (fun i => (i.zero, i.size, i.bytes)) = some (some (.agg #[.int .i64 0, .int .i64 0, .int .i64 0]), 3, 24) := by kernel_rfl
def AddPost (base : Nat) (w : World) (v : Value) (L : List Sp) (s : Sp) (e : Ending) (w' : World) : Prop :=
  ∃ v', e = .returned v' ∧ w'.ownsRow base 53 3 v' (addSp L s).length (scells (addSp L s)) ∧ Kept v.ownBlock.toList w w'
set_option maxRecDepth 100000 in
set_option maxHeartbeats 2000000 in
theorem addSpan_nil (base : Nat) (v : Value) (s : Sp) (w : World) (ho : w.ownsRow base 53 3 v 0 (scells [])) (hb : base ≤ w.heap.size) :
    Calls Tryz.prog 60 #[v, .agg #[.int .i64 s.k, .int .i64 s.a, .int .i64 s.b]] w fun e w' => AddPost base w v [] s e w' := by
  obtain ⟨i0, hi, hz0, hz1, hz2⟩ := info_parts info_span
  obtain ⟨ao, cp, hv⟩ := owns_shape ho
  subst hv
  obtain ⟨sk, sa, sb⟩ := s
  have hadd : addSp [] ⟨sk, sa, sb⟩ = [] ++ [⟨sk, sa, sb⟩] := addSp_nil _
  simp only
  have HO := hide ho
  have HA := hide hadd
  have kb : Kept [] w (w.alloc (.cells #[.int .i64 sk, .int .i64 sa, .int .i64 sb] 53)) := (Kept.refl _ _).alloc _
  have ob := kb.ownsRow ho (fun _ _ => by simp)
  have HOB := hide ob
  clear hadd ob
  have hlt0 : w.heap.size < w.heap.size + 1 := by omega
  go_enter Tryz.func60, Tryz.ntmps60
  go_wp2_with (at_builtin; refine wpList_append_ownF _ rfl _ _ 26 rfl base 53 i0 (.agg #[.int .i64 0, .int .i64 0, .int .i64 0]) 3 24 Tryz.underlying26 hi hz0 hz1 hz2 rfl (by decide) _ _ _ rfl (HOB.out.alloc _) ⟨w.heap.size + 1, 0, none⟩ 1 1 [.int .i64 sk, .int .i64 sa, .int .i64 sb] rfl ?c1 ?c2 ?c3 ?c4 ?c5 ?c6 ?_)
  case c1 => rfl
  case c2 =>
    intro j u hj
    have hb := heap_alloc_at (w.alloc (.cells #[.int .i64 sk, .int .i64 sa, .int .i64 sb] 53)) (.cells #[.int .i64 sk, .int .i64 sa, .int .i64 sb] 53)
    simp only [World.size_alloc] at hb
    rw [addr_add, cell_at hb]
    match j, hj with
    | 0, hj => simpa using hj
    | 1, hj => simpa using hj
    | 2, hj => simpa using hj
  case c3 => intro u hu; simp at hu; rcases hu with rfl | rfl | rfl <;> rfl
  case c4 => unfold maxLen; omega
  case c5 => omega
  case c6 => simp; omega
  intro v' w3 ho3 hg3 hf3
  have HF : Hid (AddPost base w (.slice ao 0 cp) [] ⟨sk, sa, sb⟩ (.returned v') w3) := by
    refine ⟨v', rfl, ?_, ?_⟩
    · rw [HA.out, scells_append, List.length_append]; exact ho3
    · exact ((Kept.refl _ _).alloc _ |>.alloc _).grown hg3 (fun x hx => .inl (by simp [hx]))
  clear ho3 hg3 hf3
  go_wp2
  go_ret
  exact HF.out
set_option maxRecDepth 100000 in
set_option maxHeartbeats 2000000 in
theorem addSpan_more (base : Nat) (v : Value) (M : List Sp) (l s : Sp) (w : World) (ho : w.ownsRow base 53 3 v (M.length + 1) (scells (M ++ [l]))) (hb : base ≤ w.heap.size) (hM : M.length ≤ 4096) (hno : ¬ (s.k = 1 ∧ l.k = 1)) :
    Calls Tryz.prog 60 #[v, .agg #[.int .i64 s.k, .int .i64 s.a, .int .i64 s.b]] w fun e w' => AddPost base w v (M ++ [l]) s e w' := by
  obtain ⟨i0, hi, hz0, hz1, hz2⟩ := info_parts info_span
  obtain ⟨g, cp, hv⟩ : ∃ g cp, v = .slice (some ⟨g, 0, none⟩) (M.length + 1) cp := by
    rcases ho.2 with ⟨_, h0⟩ | ⟨g, cap, cur, h, _⟩
    · omega
    · exact ⟨g, cap, h⟩
  have hg : g < w.heap.size := by subst hv; exact (ho.lt g rfl).2
  have c0 : w.cell? ⟨g, M.length * 3, none⟩ = some (.int .i64 l.k) := by
    subst hv
    have := ho.cells (g := g) rfl (M.length * 3) _ (by have := scells_at M l 0 (by omega); simpa using this)
    rw [addr_add] at this; exact this
  obtain ⟨ao, hao⟩ : ∃ ao : Option Addr, ao = some ⟨g, 0, none⟩ := ⟨_, rfl⟩
  obtain ⟨sk, sa, sb⟩ := s
  simp only at hno ⊢
  have hadd : addSp (M ++ [l]) ⟨sk, sa, sb⟩ = (M ++ [l]) ++ [⟨sk, sa, sb⟩] := addSp_no M l _ hno
  subst hv
  by_cases hk : sk = 1
  · have hl : ¬ l.k = 1 := fun h => hno ⟨hk, h⟩
    subst hk
    clear hno
    have HO := hide ho
    have HA := hide hadd
    have kb : Kept [] w (w.alloc (.cells #[.int .i64 1, .int .i64 sa, .int .i64 sb] 53)) := (Kept.refl _ _).alloc _
    have ob := kb.ownsRow ho (fun _ _ => by simp)
    have HOB := hide ob
    clear hadd ob
    have hlt0 : w.heap.size < w.heap.size + 1 := by omega
    go_enter Tryz.func60, Tryz.ntmps60
    go_wp2_with (at_builtin; refine wpList_append_ownF _ rfl _ _ 26 rfl base 53 i0 (.agg #[.int .i64 0, .int .i64 0, .int .i64 0]) 3 24 Tryz.underlying26 hi hz0 hz1 hz2 rfl (by decide) _ _ _ rfl (HOB.out.alloc _) ⟨w.heap.size + 1, 0, none⟩ 1 1 [.int .i64 1, .int .i64 sa, .int .i64 sb] rfl ?c1 ?c2 ?c3 ?c4 ?c5 ?c6 ?_)
    case c1 => rfl
    case c2 =>
      intro j u hj
      have hb := heap_alloc_at (w.alloc (.cells #[.int .i64 1, .int .i64 sa, .int .i64 sb] 53)) (.cells #[.int .i64 1, .int .i64 sa, .int .i64 sb] 53)
      simp only [World.size_alloc] at hb
      rw [addr_add, cell_at hb]
      match j, hj with
      | 0, hj => simpa using hj
      | 1, hj => simpa using hj
      | 2, hj => simpa using hj
    case c3 => intro u hu; simp at hu; rcases hu with rfl | rfl | rfl <;> rfl
    case c4 => unfold maxLen; omega
    case c5 => omega
    case c6 => simp; omega
    intro v' w3 ho3 hg3 hf3
    have HF : Hid (AddPost base w (.slice (some ⟨g, 0, none⟩) (M.length + 1) cp) (M ++ [l]) ⟨1, sa, sb⟩ (.returned v') w3) := by
      refine ⟨v', rfl, ?_, ?_⟩
      · rw [HA.out, scells_append, List.length_append]; rw [show (M ++ [l]).length + [(⟨1, sa, sb⟩ : Sp)].length = M.length + 1 + 1 from by simp]; exact ho3
      · exact ((Kept.refl _ _).alloc _ |>.alloc _).grown hg3 (fun x hx => .inl (by simp [hx]))
    clear ho3 hg3 hf3
    go_wp2
    go_ret
    exact HF.out
  · skip
    have HO := hide ho
    have HA := hide hadd
    have kb : Kept [] w (w.alloc (.cells #[.int .i64 sk, .int .i64 sa, .int .i64 sb] 53)) := (Kept.refl _ _).alloc _
    have ob := kb.ownsRow ho (fun _ _ => by simp)
    have HOB := hide ob
    clear hadd ob
    have hlt0 : w.heap.size < w.heap.size + 1 := by omega
    go_enter Tryz.func60, Tryz.ntmps60
    go_wp2_with (at_builtin; refine wpList_append_ownF _ rfl _ _ 26 rfl base 53 i0 (.agg #[.int .i64 0, .int .i64 0, .int .i64 0]) 3 24 Tryz.underlying26 hi hz0 hz1 hz2 rfl (by decide) _ _ _ rfl (HOB.out.alloc _) ⟨w.heap.size + 1, 0, none⟩ 1 1 [.int .i64 sk, .int .i64 sa, .int .i64 sb] rfl ?c1 ?c2 ?c3 ?c4 ?c5 ?c6 ?_)
    case c1 => rfl
    case c2 =>
      intro j u hj
      have hb := heap_alloc_at (w.alloc (.cells #[.int .i64 sk, .int .i64 sa, .int .i64 sb] 53)) (.cells #[.int .i64 sk, .int .i64 sa, .int .i64 sb] 53)
      simp only [World.size_alloc] at hb
      rw [addr_add, cell_at hb]
      match j, hj with
      | 0, hj => simpa using hj
      | 1, hj => simpa using hj
      | 2, hj => simpa using hj
    case c3 => intro u hu; simp at hu; rcases hu with rfl | rfl | rfl <;> rfl
    case c4 => unfold maxLen; omega
    case c5 => omega
    case c6 => simp; omega
    intro v' w3 ho3 hg3 hf3
    have HF : Hid (AddPost base w (.slice (some ⟨g, 0, none⟩) (M.length + 1) cp) (M ++ [l]) ⟨sk, sa, sb⟩ (.returned v') w3) := by
      refine ⟨v', rfl, ?_, ?_⟩
      · rw [HA.out, scells_append, List.length_append]; rw [show (M ++ [l]).length + [(⟨sk, sa, sb⟩ : Sp)].length = M.length + 1 + 1 from by simp]; exact ho3
      · exact ((Kept.refl _ _).alloc _ |>.alloc _).grown hg3 (fun x hx => .inl (by simp [hx]))
    clear ho3 hg3 hf3
    go_wp2
    go_ret
    exact HF.out
set_option maxRecDepth 100000 in
set_option maxHeartbeats 2000000 in
theorem addSpan_join (base : Nat) (v : Value) (M : List Sp) (l s : Sp) (w : World) (ho : w.ownsRow base 53 3 v (M.length + 1) (scells (M ++ [l]))) (hM : M.length ≤ 4096) (hk : s.k = 1) (hl : l.k = 1) :
    Calls Tryz.prog 60 #[v, .agg #[.int .i64 s.k, .int .i64 s.a, .int .i64 s.b]] w fun e w' => AddPost base w v (M ++ [l]) s e w' := by
  obtain ⟨sk, sa, sb⟩ := s
  simp only at hk ⊢
  subst hk
  obtain ⟨g, cp, hv⟩ : ∃ g cp, v = .slice (some ⟨g, 0, none⟩) (M.length + 1) cp := by
    rcases ho.2 with ⟨_, h0⟩ | ⟨g, cap, cur, h, _⟩
    · omega
    · exact ⟨g, cap, h⟩
  subst hv
  have hg : g < w.heap.size := (ho.lt g rfl).2
  have c0 : w.cell? ⟨g, M.length * 3, none⟩ = some (.int .i64 1) := by
    have := ho.cells (g := g) rfl (M.length * 3) _ (by have := scells_at M l 0 (by omega); simpa using this)
    rw [addr_add, hl] at this; exact this
  have c2 : w.cell? ⟨g, M.length * 3 + 2, none⟩ = some (.int .i64 l.b) := by
    have := ho.cells (g := g) rfl (M.length * 3 + 2) _ (by have := scells_at M l 2 (by omega); simpa using this)
    rw [addr_add] at this; exact this
  have f2 : w.frozen? ⟨g, M.length * 3 + 2, none⟩ = false := by
    rcases ho.2 with ⟨h, _⟩ | ⟨g', cap', cur, h, _, hc, _⟩
    · cases h
    · simp only [Value.slice.injEq, Option.some.injEq, Addr.mk.injEq, and_true, true_and] at h
      obtain ⟨rfl, rfl⟩ := h
      exact free_at hc _
  have HF : Hid (AddPost base w (.slice (some ⟨g, 0, none⟩) (M.length + 1) cp) (M ++ [l]) ⟨1, sa, sb⟩ (.returned (.slice (some ⟨g, 0, none⟩) (M.length + 1) cp)) ((w.setCell ⟨g, M.length * 3 + 2, none⟩ (.int .i64 sb)).alloc (.cells #[.int .i64 1, .int .i64 sa, .int .i64 sb] 53))) := by
    refine ⟨_, rfl, ?_, ?_⟩
    · rw [addSp_yes M l _ ⟨rfl, hl⟩]
      have h2 := ownsRow_set (j := M.length * 3 + 2) ho (.int .i64 sb)
      rw [scells_set] at h2
      simpa using h2.alloc _
    · exact ((Kept.refl [g] w).setCell (.inl (by simp)) _).alloc _
  clear ho hl
  go_enter Tryz.func60, Tryz.ntmps60
  go_wp2
  go_ret
  exact HF.out
theorem addSpan_any (base : Nat) (v : Value) (L : List Sp) (s : Sp) (w : World) (ho : w.ownsRow base 53 3 v L.length (scells L)) (hb : base ≤ w.heap.size) (hM : L.length ≤ 4096) :
    Calls Tryz.prog 60 #[v, .agg #[.int .i64 s.k, .int .i64 s.a, .int .i64 s.b]] w fun e w' => AddPost base w v L s e w' := by
  rcases List.eq_nil_or_concat L with rfl | ⟨M, l, rfl⟩
  · exact addSpan_nil base v s w ho hb
  · rw [List.concat_eq_append] at ho hM ⊢
    simp only [List.length_append, List.length_cons, List.length_nil, Nat.zero_add] at ho hM
    by_cases h : s.k = 1 ∧ l.k = 1
    · exact addSpan_join base v M l s w ho (by omega) h.1 h.2
    · exact addSpan_more base v M l s w ho hb (by omega) h
end Go.Proofs.YtlhhgenpcjjajaaGreatDoor
namespace Go.Proofs.YtlhhgenpcjjajaaGreatDoor
open Go.RowKit Go.PlainAid
theorem rcatch_idle (p q : Addr) (w : World) :
    CallsD Tryz.prog 51 #[.pointer (some p), .pointer (some q)] .returning w fun e u' w' => e = .returned (.tuple #[]) ∧ u' = .returning ∧ w' = w := by
  refine callsD_of_wpS Tryz.func51 rfl fun c₀ cs hu => ?_
  apply wpS_seq
  apply wpS_region
  simp [wpOpsS, go_sem, recoverD, hu, Tryz.ntmps51, Exit.thenS]
  apply wpS_seq
  apply wpS_region
  simp [wpOpsS, go_sem, Exit.thenS]
  refine wpS_cond (t := false) (by simp [Act.eval, Array.replicate]) ?_
  simp only [Bool.false_eq_true, if_false]
  refine wpS_of_wp (wp_skip ?_)
  cases c₀
  simp_all [bodyPostS, results, Tryz.results51]
end Go.Proofs.YtlhhgenpcjjajaaGreatDoor
