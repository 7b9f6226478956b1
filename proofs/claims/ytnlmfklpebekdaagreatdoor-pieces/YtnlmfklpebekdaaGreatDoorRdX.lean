import Derived.Test.YtnlmfklpebekdaaGreatDoorRdV
import Derived.RegionDies
set_option linter.unusedSimpArgs false
set_option linter.unusedVariables false
namespace Go.Proofs.YtnlmfklpebekdaaGreatDoor
open Go.RowKit Go.PlainAid

/-- A tag under way, at tb. -/
structure TagAt (w : World) (base tb : Nat) (x y : Int) (nm : ByteArray) (av : Value) (L : List (ByteArray × ByteArray)) : Prop where
  blk : w.heap[tb]? = some (.cells #[.int .i64 x, .int .i64 y, .string nm, av] 138 (0, 0))
  own : w.ownsRow base 179 2 av L.length (acells L)
theorem TagAt.kept {w w' : World} {base tb r : Nat} {x y : Int} {nm : ByteArray} {av : Value} {L : List (ByteArray × ByteArray)} (h : TagAt w base tb x y nm av L) (hk : Kept [r] w w') (hr : r < base) (hb : base ≤ tb) : TagAt w' base tb x y nm av L :=
  ⟨hk.at h.blk (by simp; omega), hk.ownsRow h.own (fun k hk => by have := (h.own.lt k hk).1; simp; omega)⟩

/-- The name of the attribute that begins at ps. -/
def attName (R : RC) (ps : Nat) : ByteArray := noNul (small (R.cs.extract ps (nameEnd R ps)))
/-- One attribute too many. -/
def tooMany (R : RC) (ns : List ByteArray) (ps : Nat) : Bool := !isIn ns (attName R ps) && !decide (nameEnd R ps = R.cs.size) && decide (R.at_ ≤ (ns.length : Int))
def withAtt' (ns : List ByteArray) (na : ByteArray) : List ByteArray := if isIn ns na = true then ns else ns ++ [na]
def withAtt (R : RC) (ns : List ByteArray) (ps : Nat) : List ByteArray := withAtt' ns (attName R ps)

theorem nameEnd_le {R : RC} {ps : Nat} (h : ps < R.cs.size) : nameEnd R ps ≤ R.cs.size := scan_le (by omega)
theorem nameEnd_gt {R : RC} {ps : Nat} : ps < nameEnd R ps := Nat.lt_of_lt_of_le (Nat.lt_succ_self _) scan_ge
theorem Rd.lim {w : World} {r : Nat} {R : RC} {bg ps : Nat} (h : Rd w r R bg ps) : w.cell? ⟨r, 4, none⟩ = some (.int .i64 R.at_) := by rw [cell_at h]; rfl
theorem info_att : (Tryz.prog.info? 179).map (fun i => (i.zero, i.size, i.bytes)) = some (some (.agg #[.string ⟨#[]⟩, .string ⟨#[]⟩]), 2, 32) := by kernel_rfl

/-- A limit that is passed: which, and where. -/
def stopAt (w : World) (k : Nat) (n at_ : Int) : Prop := w.heap[k]? = some (.cells #[.int .i64 n, .int .i64 at_] 73 (0, 0))

set_option maxRecDepth 100000 in
set_option maxHeartbeats 2000000 in
theorem attribute_any (r tb : Nat) (R : RC) (bg ps g cap b lg : Nat) (look : ByteArray → Option ByteArray) (cut : Nat → Nat) (x y : Int) (nm : ByteArray) (av : Value) (L : List (ByteArray × ByteArray)) (w0 w : World)
    (hk0 : Kept [r] w0 w) (hr0 : r < w0.heap.size) (htb : w0.heap.size ≤ tb) (h : Rd w r R bg ps) (hA : Ats w r R g cap cut) (hN : Nm w r R b lg look) (hG : Gl w r) (hT : TagAt w w0.heap.size tb x y nm av L)
    (hb : bg ≤ R.cs.size) (hp : ps < R.cs.size) (hs : R.cs.size ≤ 1024) (hL : L.length ≤ 4096) :
    Calls Tryz.prog 79 #[.pointer (some ⟨r, 0, none⟩), .pointer (some ⟨tb, 0, none⟩)] w fun e w' =>
      if tooMany R (L.map (·.1)) ps = true then ∃ k, e = .panicked [{ v := .iface 68 (.pointer (some ⟨k, 0, none⟩)), recovered := false }] ∧ stopAt w' k 7 (cut bg) ∧ w0.heap.size ≤ k ∧ Kept [r] w0 w'
      else e = .returned (.tuple #[]) ∧ ∃ av' L', L'.map (·.1) = withAtt R (L.map (·.1)) ps ∧ TagAt w' w0.heap.size tb x y nm av' L' ∧ Kept [r] w0 w' ∧ Rd w' r R bg (valEnd R (nameEnd R ps)) := by
  obtain ⟨i0, hi, hz0, hz1, hz2⟩ := info_parts info_att
  have hne := nameEnd_le (R := R) hp
  have HN := hide hN
  have HG := hide hG
  have HA := hide hA
  have HT := hide hT
  have HK0 := hide hk0
  have CN := hide (attributeName_any r R bg ps w h hp hs hG)
  have Hwa0 : withAtt R (L.map (·.1)) ps = withAtt' (L.map (·.1)) (attName R ps) := rfl
  clear h hA hN hG hT hk0
  have htm : tooMany R (L.map (·.1)) ps = (!isIn (L.map (·.1)) (attName R ps) && !decide (nameEnd R ps = R.cs.size) && decide (R.at_ ≤ (L.length : Int))) := by unfold tooMany; rw [List.length_map]
  rw [htm]
  clear htm
  obtain ⟨na, hna⟩ : ∃ na, na = attName R ps := ⟨_, rfl⟩
  have hna2 : noNul (small (R.cs.extract ps (nameEnd R ps))) = na := hna.symm
  rw [hna2] at CN
  clear hna2
  rw [← hna] at Hwa0
  rw [← hna]
  obtain ⟨ns, hns⟩ : ∃ ns, ns = L.map (·.1) := ⟨_, rfl⟩
  rw [← hns] at Hwa0
  rw [← hns]
  have Hwa := hide Hwa0
  clear Hwa0
  have Hms := hide hns
  clear hna hns
  obtain ⟨m, hm⟩ : ∃ m, m = nameEnd R ps := ⟨_, rfl⟩
  rw [← hm] at CN hne
  rw [← hm]
  clear hm
  have HV := hide (fun w' h1 h2 h3 => value_any r R bg m b lg look w' h1 h2 h3 hne hs)
  obtain ⟨ao, cp, hav⟩ := owns_shape HT.out.own
  subst hav
  have hr1 : r ≠ tb := by omega
  cases hin : isIn ns na
  · skip
    by_cases hend : m = R.cs.size
    · have ec : (!false && !decide (m = R.cs.size) && decide (R.at_ ≤ (L.length : Int))) = false := by simp [hend]
      rw [ec]
      clear ec
      have e3 : decide (m = R.cs.size) = true := by simp [hend]
      simp only [Bool.false_eq_true, if_false, if_true]
      go_enter Tryz.func79, Tryz.ntmps79
      go_wp2_with fail
      refine CN.out.mono ?_
      rintro e w1 ⟨rfl, hk1, hr1'⟩
      have HT1 := hide (HT.out.kept hk1 hr0 htb)
      have HK1 := hide (HK0.out.trans hk1)
      have HR1 := hide hr1'
      have HL1 := hide hk1
      have a0 : w1.cell? ⟨tb, 0, none⟩ = some (.int .i64 x) := by rw [cell_at HT1.out.blk]; rfl
      have a1 : w1.cell? ⟨tb, 1, none⟩ = some (.int .i64 y) := by rw [cell_at HT1.out.blk]; rfl
      have a2 : w1.cell? ⟨tb, 2, none⟩ = some (.string nm) := by rw [cell_at HT1.out.blk]; rfl
      have a3 : w1.cell? ⟨tb, 3, none⟩ = some (.slice ao L.length cp) := by rw [cell_at HT1.out.blk]; rfl
      have CH := has_tag w0.heap.size x y nm na _ L w1 HT1.out.own (by omega)
      rw [← Hms.out, hin] at CH
      have HCH := hide CH
      clear CH hk1 hr1' CN
      go_wp2_with fail
      refine HCH.out.mono ?_
      rintro e w2 ⟨rfl, hk2⟩
      have HL2 := hide (HL1.out.trans (hk2.mono (by simp)))
      have HK2 := hide (HK1.out.trans (hk2.mono (by simp)))
      have HR2 := hide (HR1.out.kept hk2 (by simp))
      have HT2 := hide (HT1.out.kept (hk2.mono (by simp)) hr0 htb)
      clear hk2 HCH a0 a1 a2 a3
      have b3 : w2.cell? ⟨tb, 3, none⟩ = some (.slice ao L.length cp) := by rw [cell_at HT2.out.blk]; rfl
      have b4 := HR2.out.lim
      have C := hide (fun w' (h : Rd w' r R bg m) => atEnd_any r R bg m w' h)
      rw [e3] at C
      go_wp2_with fail
      go_quiet ((go_at_call 48; refine Calls.quiet_of (C.out _ ?_); exact HR2.out))
      clear b3 b4
      have HVC := hide (HV.out (w2.drewN nq) (show Rd (w2.drewN nq) r R bg m from HR2.out) (HN.out.kept (HL2.out.drewN _)) (HG.out.kept (HL2.out.drewN _)))
      go_wp2_with fail
      refine HVC.out.mono ?_
      rintro e w3 ⟨⟨vt, rfl⟩, hk3, hr3⟩
      have HK3 := hide ((HK2.out.drewN nq).trans hk3)
      have HR3 := hide hr3
      have HT3 := hide ((HT2.out.kept ((Kept.refl [r] w2).drewN nq) hr0 htb).kept hk3 hr0 htb)
      clear hk3 hr3 HVC
      have c3 : w3.cell? ⟨tb, 3, none⟩ = some (.slice ao L.length cp) := by rw [cell_at HT3.out.blk]; rfl
      have hlt3 := lt_of_block HT3.out.blk
      have hrt3 := lt_of_block HR3.out
      have hbl := HK3.out.size
      go_wp2_with (at_builtin; refine wpList_append_ownF _ rfl _ _ 136 rfl w0.heap.size 179 i0 (.agg #[.string ⟨#[]⟩, .string ⟨#[]⟩]) 2 32 Tryz.underlying136 hi hz0 hz1 hz2 rfl (by decide) _ _ _ rfl (HT3.out.own.alloc _) ⟨w3.heap.size, 0, none⟩ 1 1 [.string na, .string vt] rfl ?c1 ?c2 ?c3 ?c4 ?c5 ?c6 ?_)
      case c1 => rfl
      case c2 =>
        intro j u hj
        match j, hj with
        | 0, hj => simp at hj; subst hj; simp [Addr.add]
        | 1, hj => simp at hj; subst hj; simp [Addr.add]
      case c3 => intro u hu; simp at hu; rcases hu with rfl | rfl <;> rfl
      case c4 => unfold maxLen; omega
      case c5 => omega
      case c6 => simp; omega
      intro v' w4 hown' hgrow hfr
      obtain ⟨ao', cap', hv⟩ := owns_shape hown'
      subst hv
      have hne2 : ∀ k, (Value.slice ao L.length cp).ownBlock = some k → k ≠ tb := by
        intro k hk
        rcases HT3.out.own.2 with ⟨h, _⟩ | ⟨g', cap', cur, h, _, hc, _⟩
        · rw [h] at hk; cases hk
        · rw [h] at hk
          obtain rfl := Option.some.inj hk
          exact block_ne hc HT3.out.blk (by decide)
      have kw4 : Kept [r] w0 w4 := (HK3.out.alloc _).grown hgrow (fun k hk => .inr (HT3.out.own.lt k hk).1)
      have t4 : w4.heap[tb]? = some (.cells #[.int .i64 x, .int .i64 y, .string nm, .slice ao L.length cp] 138 (0, 0)) := by
        rw [hgrow.block tb (by simp; omega) (fun h => hne2 tb h.symm rfl), Below.heap_alloc _ _ _ hlt3]; exact HT3.out.blk
      have r4 : Rd w4 r R bg (valEnd R m) := by
        show w4.heap[r]? = _
        rw [hgrow.block r (by simp; omega) (fun h => by have := (HT3.out.own.lt r h.symm).1; omega), Below.heap_alloc _ _ _ hrt3]; exact HR3.out
      have d3 : w4.cell? ⟨tb, 3, none⟩ = some (.slice ao L.length cp) := by rw [cell_at t4]; rfl
      have f3 := free_at t4 3
      have t5 := block_setCell t4 3 (.slice ao' (L.length + 1) cap')
      have r5 : Rd (w4.setCell ⟨tb, 3, none⟩ (.slice ao' (L.length + 1) cap')) r R bg (valEnd R m) := (Below.heap_setCell w4 ⟨tb, 3, none⟩ _ r (by simpa using hr1)).trans r4
      have o5 : (w4.setCell ⟨tb, 3, none⟩ (.slice ao' (L.length + 1) cap')).ownsRow w0.heap.size 179 2 (.slice ao' (L.length + 1) cap') (L ++ [(na, vt)]).length (acells (L ++ [(na, vt)])) := by
        rw [acells_append, List.length_append]
        refine ownsRow_setCell_other hown' ?_ _
        intro hk
        rcases hown'.2 with ⟨h, _⟩ | ⟨g', cap', cur, h, _, hc, _⟩
        · rw [h] at hk; cases hk
        · rw [h] at hk
          obtain rfl := Option.some.inj hk
          exact block_ne hc t4 (by decide) rfl
      have HF : Hid (∃ av' L', L'.map (·.1) = withAtt' ns na ∧ TagAt (w4.setCell ⟨tb, 3, none⟩ (.slice ao' (L.length + 1) cap')) w0.heap.size tb x y nm av' L' ∧ Kept [r] w0 (w4.setCell ⟨tb, 3, none⟩ (.slice ao' (L.length + 1) cap')) ∧ Rd (w4.setCell ⟨tb, 3, none⟩ (.slice ao' (L.length + 1) cap')) r R bg (valEnd R m)) :=
        ⟨_, L ++ [(na, vt)], by rw [List.map_append, ← Hms.out]; unfold withAtt'; rw [hin]; rfl, ⟨t5, o5⟩, kw4.setCell (.inr htb) _, r5⟩
      clear t5 r5 o5 r4 t4 kw4 hne2 hown' hgrow hfr c3
      go_wp2
      go_end0
      exact ⟨rfl, by rw [Hwa.out]; exact HF.out⟩
    · have e3 : decide (m = R.cs.size) = false := by simp [hend]
      by_cases hlim : R.at_ ≤ (L.length : Int)
      · have ec : (!false && !decide (m = R.cs.size) && decide (R.at_ ≤ (L.length : Int))) = true := by simp [hend, hlim]
        rw [ec]
        clear ec
        simp only [Bool.false_eq_true, if_false, if_true]
        go_enter Tryz.func79, Tryz.ntmps79
        go_wp2_with fail
        refine CN.out.mono ?_
        rintro e w1 ⟨rfl, hk1, hr1'⟩
        have HT1 := hide (HT.out.kept hk1 hr0 htb)
        have HK1 := hide (HK0.out.trans hk1)
        have HR1 := hide hr1'
        have HL1 := hide hk1
        have a0 : w1.cell? ⟨tb, 0, none⟩ = some (.int .i64 x) := by rw [cell_at HT1.out.blk]; rfl
        have a1 : w1.cell? ⟨tb, 1, none⟩ = some (.int .i64 y) := by rw [cell_at HT1.out.blk]; rfl
        have a2 : w1.cell? ⟨tb, 2, none⟩ = some (.string nm) := by rw [cell_at HT1.out.blk]; rfl
        have a3 : w1.cell? ⟨tb, 3, none⟩ = some (.slice ao L.length cp) := by rw [cell_at HT1.out.blk]; rfl
        have CH := has_tag w0.heap.size x y nm na _ L w1 HT1.out.own (by omega)
        rw [← Hms.out, hin] at CH
        have HCH := hide CH
        clear CH hk1 hr1' CN
        go_wp2_with fail
        refine HCH.out.mono ?_
        rintro e w2 ⟨rfl, hk2⟩
        have HL2 := hide (HL1.out.trans (hk2.mono (by simp)))
        have HK2 := hide (HK1.out.trans (hk2.mono (by simp)))
        have HR2 := hide (HR1.out.kept hk2 (by simp))
        have HT2 := hide (HT1.out.kept (hk2.mono (by simp)) hr0 htb)
        clear hk2 HCH a0 a1 a2 a3
        have b3 : w2.cell? ⟨tb, 3, none⟩ = some (.slice ao L.length cp) := by rw [cell_at HT2.out.blk]; rfl
        have b4 := HR2.out.lim
        have C := hide (fun w' (h : Rd w' r R bg m) => atEnd_any r R bg m w' h)
        rw [e3] at C
        go_wp2_with fail
        go_quiet ((go_at_call 48; refine Calls.quiet_of (C.out _ ?_); exact HR2.out))
        clear b3 b4
        have HAA := hide (HA.out.kept HL2.out)
        have p0 : w2.cell? ⟨r, 1, none⟩ = some (.slice (some ⟨g, 0, none⟩) (R.cs.size + 1) cap) := by rw [HR2.out.ats, HA.out.av]
        have p1 : w2.cell? ⟨r, 2, none⟩ = some (.int .i64 (bg : Int)) := HR2.out.bg
        have p2 := HAA.out.at_ bg hb
        have HKP := hide (HK2.out.drewN nq)
        have hsz := HK2.out.size
        generalize R.cs.size = sz at *
        have hb2 : (bg : Int) < (sz : Int) + 1 := by omega
        go_wp2_with fail
        go_region_dies
        all_goals (try go_wp2)
        all_goals exact ⟨rfl, w2.heap.size, rfl, heap_alloc_at (w2.drewN (nq + 1)) _, hsz, (HK2.out.drewN (nq + 1)).alloc _⟩
      · have ec : (!false && !decide (m = R.cs.size) && decide (R.at_ ≤ (L.length : Int))) = false := by simp [hlim]
        rw [ec]
        clear ec
        simp only [Bool.false_eq_true, if_false, if_true]
        go_enter Tryz.func79, Tryz.ntmps79
        go_wp2_with fail
        refine CN.out.mono ?_
        rintro e w1 ⟨rfl, hk1, hr1'⟩
        have HT1 := hide (HT.out.kept hk1 hr0 htb)
        have HK1 := hide (HK0.out.trans hk1)
        have HR1 := hide hr1'
        have HL1 := hide hk1
        have a0 : w1.cell? ⟨tb, 0, none⟩ = some (.int .i64 x) := by rw [cell_at HT1.out.blk]; rfl
        have a1 : w1.cell? ⟨tb, 1, none⟩ = some (.int .i64 y) := by rw [cell_at HT1.out.blk]; rfl
        have a2 : w1.cell? ⟨tb, 2, none⟩ = some (.string nm) := by rw [cell_at HT1.out.blk]; rfl
        have a3 : w1.cell? ⟨tb, 3, none⟩ = some (.slice ao L.length cp) := by rw [cell_at HT1.out.blk]; rfl
        have CH := has_tag w0.heap.size x y nm na _ L w1 HT1.out.own (by omega)
        rw [← Hms.out, hin] at CH
        have HCH := hide CH
        clear CH hk1 hr1' CN
        go_wp2_with fail
        refine HCH.out.mono ?_
        rintro e w2 ⟨rfl, hk2⟩
        have HL2 := hide (HL1.out.trans (hk2.mono (by simp)))
        have HK2 := hide (HK1.out.trans (hk2.mono (by simp)))
        have HR2 := hide (HR1.out.kept hk2 (by simp))
        have HT2 := hide (HT1.out.kept (hk2.mono (by simp)) hr0 htb)
        clear hk2 HCH a0 a1 a2 a3
        have b3 : w2.cell? ⟨tb, 3, none⟩ = some (.slice ao L.length cp) := by rw [cell_at HT2.out.blk]; rfl
        have b4 := HR2.out.lim
        have C := hide (fun w' (h : Rd w' r R bg m) => atEnd_any r R bg m w' h)
        rw [e3] at C
        go_wp2_with fail
        go_quiet ((go_at_call 48; refine Calls.quiet_of (C.out _ ?_); exact HR2.out))
        clear b3 b4
        have HVC := hide (HV.out (w2.drewN nq) (show Rd (w2.drewN nq) r R bg m from HR2.out) (HN.out.kept (HL2.out.drewN _)) (HG.out.kept (HL2.out.drewN _)))
        go_wp2_with fail
        refine HVC.out.mono ?_
        rintro e w3 ⟨⟨vt, rfl⟩, hk3, hr3⟩
        have HK3 := hide ((HK2.out.drewN nq).trans hk3)
        have HR3 := hide hr3
        have HT3 := hide ((HT2.out.kept ((Kept.refl [r] w2).drewN nq) hr0 htb).kept hk3 hr0 htb)
        clear hk3 hr3 HVC
        have c3 : w3.cell? ⟨tb, 3, none⟩ = some (.slice ao L.length cp) := by rw [cell_at HT3.out.blk]; rfl
        have hlt3 := lt_of_block HT3.out.blk
        have hrt3 := lt_of_block HR3.out
        have hbl := HK3.out.size
        go_wp2_with (at_builtin; refine wpList_append_ownF _ rfl _ _ 136 rfl w0.heap.size 179 i0 (.agg #[.string ⟨#[]⟩, .string ⟨#[]⟩]) 2 32 Tryz.underlying136 hi hz0 hz1 hz2 rfl (by decide) _ _ _ rfl (HT3.out.own.alloc _) ⟨w3.heap.size, 0, none⟩ 1 1 [.string na, .string vt] rfl ?c1 ?c2 ?c3 ?c4 ?c5 ?c6 ?_)
        case c1 => rfl
        case c2 =>
          intro j u hj
          match j, hj with
          | 0, hj => simp at hj; subst hj; simp [Addr.add]
          | 1, hj => simp at hj; subst hj; simp [Addr.add]
        case c3 => intro u hu; simp at hu; rcases hu with rfl | rfl <;> rfl
        case c4 => unfold maxLen; omega
        case c5 => omega
        case c6 => simp; omega
        intro v' w4 hown' hgrow hfr
        obtain ⟨ao', cap', hv⟩ := owns_shape hown'
        subst hv
        have hne2 : ∀ k, (Value.slice ao L.length cp).ownBlock = some k → k ≠ tb := by
          intro k hk
          rcases HT3.out.own.2 with ⟨h, _⟩ | ⟨g', cap', cur, h, _, hc, _⟩
          · rw [h] at hk; cases hk
          · rw [h] at hk
            obtain rfl := Option.some.inj hk
            exact block_ne hc HT3.out.blk (by decide)
        have kw4 : Kept [r] w0 w4 := (HK3.out.alloc _).grown hgrow (fun k hk => .inr (HT3.out.own.lt k hk).1)
        have t4 : w4.heap[tb]? = some (.cells #[.int .i64 x, .int .i64 y, .string nm, .slice ao L.length cp] 138 (0, 0)) := by
          rw [hgrow.block tb (by simp; omega) (fun h => hne2 tb h.symm rfl), Below.heap_alloc _ _ _ hlt3]; exact HT3.out.blk
        have r4 : Rd w4 r R bg (valEnd R m) := by
          show w4.heap[r]? = _
          rw [hgrow.block r (by simp; omega) (fun h => by have := (HT3.out.own.lt r h.symm).1; omega), Below.heap_alloc _ _ _ hrt3]; exact HR3.out
        have d3 : w4.cell? ⟨tb, 3, none⟩ = some (.slice ao L.length cp) := by rw [cell_at t4]; rfl
        have f3 := free_at t4 3
        have t5 := block_setCell t4 3 (.slice ao' (L.length + 1) cap')
        have r5 : Rd (w4.setCell ⟨tb, 3, none⟩ (.slice ao' (L.length + 1) cap')) r R bg (valEnd R m) := (Below.heap_setCell w4 ⟨tb, 3, none⟩ _ r (by simpa using hr1)).trans r4
        have o5 : (w4.setCell ⟨tb, 3, none⟩ (.slice ao' (L.length + 1) cap')).ownsRow w0.heap.size 179 2 (.slice ao' (L.length + 1) cap') (L ++ [(na, vt)]).length (acells (L ++ [(na, vt)])) := by
          rw [acells_append, List.length_append]
          refine ownsRow_setCell_other hown' ?_ _
          intro hk
          rcases hown'.2 with ⟨h, _⟩ | ⟨g', cap', cur, h, _, hc, _⟩
          · rw [h] at hk; cases hk
          · rw [h] at hk
            obtain rfl := Option.some.inj hk
            exact block_ne hc t4 (by decide) rfl
        have HF : Hid (∃ av' L', L'.map (·.1) = withAtt' ns na ∧ TagAt (w4.setCell ⟨tb, 3, none⟩ (.slice ao' (L.length + 1) cap')) w0.heap.size tb x y nm av' L' ∧ Kept [r] w0 (w4.setCell ⟨tb, 3, none⟩ (.slice ao' (L.length + 1) cap')) ∧ Rd (w4.setCell ⟨tb, 3, none⟩ (.slice ao' (L.length + 1) cap')) r R bg (valEnd R m)) :=
          ⟨_, L ++ [(na, vt)], by rw [List.map_append, ← Hms.out]; unfold withAtt'; rw [hin]; rfl, ⟨t5, o5⟩, kw4.setCell (.inr htb) _, r5⟩
        clear t5 r5 o5 r4 t4 kw4 hne2 hown' hgrow hfr c3
        go_wp2
        go_end0
        exact ⟨rfl, by rw [Hwa.out]; exact HF.out⟩
  · skip
    have ec : (!true && !decide (m = R.cs.size) && decide (R.at_ ≤ (L.length : Int))) = false := by simp
    rw [ec]
    clear ec
    simp only [Bool.false_eq_true, if_false, if_true]
    go_enter Tryz.func79, Tryz.ntmps79
    go_wp2_with fail
    refine CN.out.mono ?_
    rintro e w1 ⟨rfl, hk1, hr1'⟩
    have HT1 := hide (HT.out.kept hk1 hr0 htb)
    have HK1 := hide (HK0.out.trans hk1)
    have HR1 := hide hr1'
    have HL1 := hide hk1
    have a0 : w1.cell? ⟨tb, 0, none⟩ = some (.int .i64 x) := by rw [cell_at HT1.out.blk]; rfl
    have a1 : w1.cell? ⟨tb, 1, none⟩ = some (.int .i64 y) := by rw [cell_at HT1.out.blk]; rfl
    have a2 : w1.cell? ⟨tb, 2, none⟩ = some (.string nm) := by rw [cell_at HT1.out.blk]; rfl
    have a3 : w1.cell? ⟨tb, 3, none⟩ = some (.slice ao L.length cp) := by rw [cell_at HT1.out.blk]; rfl
    have CH := has_tag w0.heap.size x y nm na _ L w1 HT1.out.own (by omega)
    rw [← Hms.out, hin] at CH
    have HCH := hide CH
    clear CH hk1 hr1' CN
    go_wp2_with fail
    refine HCH.out.mono ?_
    rintro e w2 ⟨rfl, hk2⟩
    have HL2 := hide (HL1.out.trans (hk2.mono (by simp)))
    have HK2 := hide (HK1.out.trans (hk2.mono (by simp)))
    have HR2 := hide (HR1.out.kept hk2 (by simp))
    have HT2 := hide (HT1.out.kept (hk2.mono (by simp)) hr0 htb)
    clear hk2 HCH a0 a1 a2 a3
    have b3 : w2.cell? ⟨tb, 3, none⟩ = some (.slice ao L.length cp) := by rw [cell_at HT2.out.blk]; rfl
    have b4 := HR2.out.lim
    have C := hide (fun w' (h : Rd w' r R bg m) => atEnd_any r R bg m w' h)
    go_wp2_with fail
    go_quiet ((go_at_call 48; refine Calls.quiet_of (C.out _ ?_); exact HR2.out))
    clear b3 b4
    have HVC := hide (HV.out (w2.drewN nq) (show Rd (w2.drewN nq) r R bg m from HR2.out) (HN.out.kept (HL2.out.drewN _)) (HG.out.kept (HL2.out.drewN _)))
    go_wp2_with fail
    refine HVC.out.mono ?_
    rintro e w3 ⟨⟨vt, rfl⟩, hk3, hr3⟩
    have HK3 := hide ((HK2.out.drewN nq).trans hk3)
    have HR3 := hide hr3
    have HT3 := hide ((HT2.out.kept ((Kept.refl [r] w2).drewN nq) hr0 htb).kept hk3 hr0 htb)
    clear hk3 hr3 HVC
    have HF : Hid (∃ av' L', L'.map (·.1) = withAtt' ns na ∧ TagAt w3 w0.heap.size tb x y nm av' L' ∧ Kept [r] w0 w3 ∧ Rd w3 r R bg (valEnd R m)) :=
      ⟨_, L, by rw [← Hms.out]; unfold withAtt'; rw [hin]; rfl, HT3.out, HK3.out, HR3.out⟩
    go_wp2
    go_end0
    exact ⟨rfl, by rw [Hwa.out]; exact HF.out⟩
end Go.Proofs.YtnlmfklpebekdaaGreatDoor
