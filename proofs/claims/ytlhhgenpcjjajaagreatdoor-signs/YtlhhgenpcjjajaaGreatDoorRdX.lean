import Derived.Test.YtlhhgenpcjjajaaGreatDoorRdQ
import Derived.RegionDies
import Derived.Test.YtlhhgenpcjjajaaGreatDoorRd
set_option linter.unusedSimpArgs false
set_option linter.unusedVariables false
namespace Go.Proofs.YtlhhgenpcjjajaaGreatDoor
open Go.RowKit Go.PlainAid
structure TagAt (w : World) (base tb : Nat) (x y : Int) (nm : ByteArray) (av : Value) (L : List (ByteArray × ByteArray)) : Prop where
  blk : w.heap[tb]? = some (.cells #[.int .i64 x, .int .i64 y, .string nm, av] 194 (0, 0))
  own : w.ownsRow base 299 2 av L.length (acells L)
theorem TagAt.kept {w w' : World} {base tb r : Nat} {x y : Int} {nm : ByteArray} {av : Value} {L : List (ByteArray × ByteArray)} (h : TagAt w base tb x y nm av L) (hk : Kept [r] w w') (hr : r < base) (hb : base ≤ tb) : TagAt w' base tb x y nm av L :=
  ⟨hk.at h.blk (by simp; omega), hk.ownsRow h.own (fun k hk => by have := (h.own.lt k hk).1; simp; omega)⟩
def attName (R : RC) (ps : Nat) : ByteArray := noNul (small (R.cs.extract ps (nameEnd R ps)))
def tooMany (R : RC) (ns : List ByteArray) (ps : Nat) : Bool := !isIn ns (attName R ps) && !decide (nameEnd R ps = R.cs.size) && decide (R.at_ ≤ (ns.length : Int))
def addAtt (L : List (ByteArray × ByteArray)) (na v : ByteArray) : List (ByteArray × ByteArray) := if isIn (L.map (·.1)) na = true then L else L ++ [(na, v)]
def withAtt (R : RC) (look : ByteArray → Option ByteArray) (lg : Nat) (L : List (ByteArray × ByteArray)) (ps : Nat) : List (ByteArray × ByteArray) := addAtt L (attName R ps) (valText look lg R (nameEnd R ps))
theorem nameEnd_le {R : RC} {ps : Nat} (h : ps < R.cs.size) : nameEnd R ps ≤ R.cs.size := scan_le (by omega)
theorem nameEnd_gt {R : RC} {ps : Nat} : ps < nameEnd R ps := Nat.lt_of_lt_of_le (Nat.lt_succ_self _) scan_ge
theorem Rd.lim {w : World} {r : Nat} {R : RC} {bg ps : Nat} (h : Rd w r R bg ps) : w.cell? ⟨r, 4, none⟩ = some (.int .i64 R.at_) := by rw [cell_at h]; rfl
theorem info_att : (Tryz.prog.info? 299).map (fun i => (i.zero, i.size, i.bytes)) = some (some (.agg #[.string ⟨#[]⟩, .string ⟨#[]⟩]), 2, 32) := by kernel_rfl
def stopAt (w : World) (k : Nat) (n at_ : Int) : Prop := w.heap[k]? = some (.cells #[.int .i64 n, .int .i64 at_] 83 (0, 0))
set_option maxRecDepth 100000 in
set_option maxHeartbeats 2000000 in
theorem attribute_any (r tb : Nat) (R : RC) (bg ps g cap b lg : Nat) (look : ByteArray → Option ByteArray) (cut : Nat → Nat) (x y : Int) (nm : ByteArray) (av : Value) (L : List (ByteArray × ByteArray)) (w0 w : World)
    (hk0 : Kept [r] w0 w) (hr0 : r < w0.heap.size) (htb : w0.heap.size ≤ tb) (h : Rd w r R bg ps) (hA : Ats w r R g cap cut) (hN : Nm w r R b lg look) (hG : Gl w r) (hT : TagAt w w0.heap.size tb x y nm av L)
    (hb : bg ≤ R.cs.size) (hp : ps < R.cs.size) (hs : R.cs.size ≤ 1024) (hL : L.length ≤ 4096) :
    Calls Tryz.prog 302 #[.pointer (some ⟨r, 0, none⟩), .pointer (some ⟨tb, 0, none⟩)] w fun e w' =>
      if tooMany R (L.map (·.1)) ps = true then ∃ k, e = .panicked [{ v := .iface 78 (.pointer (some ⟨k, 0, none⟩)), recovered := false }] ∧ stopAt w' k 7 (cut bg) ∧ w0.heap.size ≤ k ∧ Kept [r] w0 w'
      else e = .returned (.tuple #[]) ∧ ∃ av', TagAt w' w0.heap.size tb x y nm av' (withAtt R look lg L ps) ∧ Kept [r] w0 w' ∧ Rd w' r R bg (valEnd R (nameEnd R ps)) := by
  obtain ⟨i0, hi, hz0, hz1, hz2⟩ := info_parts info_att
  have hne := nameEnd_le (R := R) hp
  have HN := hide hN
  have HG := hide hG
  have HA := hide hA
  have HT := hide hT
  have HK0 := hide hk0
  have CN := hide (attributeName_any r R bg ps w h hp hs hG)
  have Hwa0 : withAtt R look lg L ps = addAtt L (attName R ps) (valText look lg R (nameEnd R ps)) := rfl
  clear h hA hN hG hT hk0
  have htm : tooMany R (L.map (·.1)) ps = (!isIn (L.map (·.1)) (attName R ps) && !decide (nameEnd R ps = R.cs.size) && decide (R.at_ ≤ (L.length : Int))) := by unfold tooMany; rw [List.length_map]
  rw [htm]
  clear htm
  obtain ⟨na, hna⟩ : ∃ na, na = attName R ps := ⟨_, rfl⟩
  have hna2 : noNul (small (R.cs.extract ps (nameEnd R ps))) = na := hna.symm
  rw [hna2] at CN
  clear hna2
  rw [← hna] at Hwa0
  rw [← hna]
  obtain ⟨ns, hns⟩ : ∃ ns, ns = L.map (·.1) := ⟨_, rfl⟩
  rw [← hns]
  have Hms := hide hns
  clear hna hns
  obtain ⟨m, hm⟩ : ∃ m, m = nameEnd R ps := ⟨_, rfl⟩
  rw [← hm] at CN hne Hwa0
  rw [← hm]
  clear hm
  have HV := (fun w' h1 h2 h3 => value_any r R bg m b lg look w' h1 h2 h3 hne hs)
  obtain ⟨vt, hvt⟩ : ∃ vt, vt = valText look lg R m := ⟨_, rfl⟩
  rw [← hvt] at HV Hwa0
  clear hvt
  have HV := hide HV
  have Hwa := hide Hwa0
  clear Hwa0
  obtain ⟨ao, cp, hav⟩ := owns_shape HT.out.own
  subst hav
  have hr1 : r ≠ tb := by omega
  cases hin : isIn ns na
  · skip
    by_cases hend : m = R.cs.size
    · have ec : (!false && !decide (m = R.cs.size) && decide (R.at_ ≤ (L.length : Int))) = false := by simp [hend]
      rw [ec]
      clear ec
      have e3 : decide (m = R.cs.size) = true := by simp [hend]
      simp only [Bool.false_eq_true, if_false, if_true]
      go_enter Tryz.func302, Tryz.ntmps302
      go_wp2_with fail
      refine CN.out.mono ?_
      rintro e w1 ⟨rfl, hk1, hr1'⟩
      have HT1 := hide (HT.out.kept hk1 hr0 htb)
      have HK1 := hide (HK0.out.trans hk1)
      have HR1 := hide hr1'
      have HL1 := hide hk1
      have a0 : w1.cell? ⟨tb, 0, none⟩ = some (.int .i64 x) := by rw [cell_at HT1.out.blk]; rfl
      have a1 : w1.cell? ⟨tb, 1, none⟩ = some (.int .i64 y) := by rw [cell_at HT1.out.blk]; rfl
      have a2 : w1.cell? ⟨tb, 2, none⟩ = some (.string nm) := by rw [cell_at HT1.out.blk]; rfl
      have a3 : w1.cell? ⟨tb, 3, none⟩ = some (.slice ao L.length cp) := by rw [cell_at HT1.out.blk]; rfl
      have CH := has_tag w0.heap.size x y nm na _ L w1 HT1.out.own (by omega)
      rw [← Hms.out, hin] at CH
      have HCH := hide CH
      clear CH hk1 hr1' CN
      go_wp2_with fail
      refine HCH.out.mono ?_
      rintro e w2 ⟨rfl, hk2⟩
      have HL2 := hide (HL1.out.trans (hk2.mono (by simp)))
      have HK2 := hide (HK1.out.trans (hk2.mono (by simp)))
      have HR2 := hide (HR1.out.kept hk2 (by simp))
      have HT2 := hide (HT1.out.kept (hk2.mono (by simp)) hr0 htb)
      clear hk2 HCH a0 a1 a2 a3
      have b3 : w2.cell? ⟨tb, 3, none⟩ = some (.slice ao L.length cp) := by rw [cell_at HT2.out.blk]; rfl
      have b4 := HR2.out.lim
      have C := hide (fun w' (h : Rd w' r R bg m) => atEnd_any r R bg m w' h)
      rw [e3] at C
      go_wp2_with fail
      go_quiet ((go_at_call 87; refine Calls.quiet_of (C.out _ ?_); exact HR2.out))
      clear b3 b4
      have HVC := hide (HV.out (w2.drewN nq) (show Rd (w2.drewN nq) r R bg m from HR2.out) (HN.out.kept (HL2.out.drewN _)) (HG.out.kept (HL2.out.drewN _)))
      go_wp2_with fail
      refine HVC.out.mono ?_
      rintro e w3 ⟨rfl, hk3, hr3⟩
      have HK3 := hide ((HK2.out.drewN nq).trans hk3)
      have HR3 := hide hr3
      have HT3 := hide ((HT2.out.kept ((Kept.refl [r] w2).drewN nq) hr0 htb).kept hk3 hr0 htb)
      clear hk3 hr3 HVC
      have c3 : w3.cell? ⟨tb, 3, none⟩ = some (.slice ao L.length cp) := by rw [cell_at HT3.out.blk]; rfl
      have hlt3 := lt_of_block HT3.out.blk
      have hrt3 := lt_of_block HR3.out
      have hbl := HK3.out.size
      go_wp2_with (at_builtin; refine wpList_append_ownF _ rfl _ _ 137 rfl w0.heap.size 299 i0 (.agg #[.string ⟨#[]⟩, .string ⟨#[]⟩]) 2 32 Tryz.underlying137 hi hz0 hz1 hz2 rfl (by decide) _ _ _ rfl (HT3.out.own.alloc _) ⟨w3.heap.size, 0, none⟩ 1 1 [.string na, .string vt] rfl ?c1 ?c2 ?c3 ?c4 ?c5 ?c6 ?_)
      case c1 => rfl
      case c2 =>
        intro j u hj
        match j, hj with
        | 0, hj => simp at hj; subst hj; simp [Addr.add]
        | 1, hj => simp at hj; subst hj; simp [Addr.add]
      case c3 => intro u hu; simp at hu; rcases hu with rfl | rfl <;> rfl
      case c4 => unfold maxLen; omega
      case c5 => omega
      case c6 => simp; omega
      intro v' w4 hown' hgrow hfr
      obtain ⟨ao', cap', hv⟩ := owns_shape hown'
      subst hv
      have hne2 : ∀ k, (Value.slice ao L.length cp).ownBlock = some k → k ≠ tb := by
        intro k hk
        rcases HT3.out.own.2 with ⟨h, _⟩ | ⟨g', cap', cur, h, _, hc, _⟩
        · rw [h] at hk; cases hk
        · rw [h] at hk
          obtain rfl := Option.some.inj hk
          exact block_ne hc HT3.out.blk (by decide)
      have kw4 : Kept [r] w0 w4 := (HK3.out.alloc _).grown hgrow (fun k hk => .inr (HT3.out.own.lt k hk).1)
      have t4 : w4.heap[tb]? = some (.cells #[.int .i64 x, .int .i64 y, .string nm, .slice ao L.length cp] 194 (0, 0)) := by
        rw [hgrow.block tb (by simp; omega) (fun h => hne2 tb h.symm rfl), Below.heap_alloc _ _ _ hlt3]; exact HT3.out.blk
      have r4 : Rd w4 r R bg (valEnd R m) := by
        show w4.heap[r]? = _
        rw [hgrow.block r (by simp; omega) (fun h => by have := (HT3.out.own.lt r h.symm).1; omega), Below.heap_alloc _ _ _ hrt3]; exact HR3.out
      have d3 : w4.cell? ⟨tb, 3, none⟩ = some (.slice ao L.length cp) := by rw [cell_at t4]; rfl
      have f3 := free_at t4 3
      have t5 := block_setCell t4 3 (.slice ao' (L.length + 1) cap')
      have r5 : Rd (w4.setCell ⟨tb, 3, none⟩ (.slice ao' (L.length + 1) cap')) r R bg (valEnd R m) := (Below.heap_setCell w4 ⟨tb, 3, none⟩ _ r (by simpa using hr1)).trans r4
      have o5 : (w4.setCell ⟨tb, 3, none⟩ (.slice ao' (L.length + 1) cap')).ownsRow w0.heap.size 299 2 (.slice ao' (L.length + 1) cap') (L ++ [(na, vt)]).length (acells (L ++ [(na, vt)])) := by
        rw [acells_append, List.length_append]
        refine ownsRow_setCell_other hown' ?_ _
        intro hk
        rcases hown'.2 with ⟨h, _⟩ | ⟨g', cap', cur, h, _, hc, _⟩
        · rw [h] at hk; cases hk
        · rw [h] at hk
          obtain rfl := Option.some.inj hk
          exact block_ne hc t4 (by decide) rfl
      have HF : Hid (∃ av', TagAt (w4.setCell ⟨tb, 3, none⟩ (.slice ao' (L.length + 1) cap')) w0.heap.size tb x y nm av' (addAtt L na vt) ∧ Kept [r] w0 (w4.setCell ⟨tb, 3, none⟩ (.slice ao' (L.length + 1) cap')) ∧ Rd (w4.setCell ⟨tb, 3, none⟩ (.slice ao' (L.length + 1) cap')) r R bg (valEnd R m)) :=
        ⟨_, by rw [show addAtt L na vt = L ++ [(na, vt)] by unfold addAtt; rw [← Hms.out, hin]; rfl]; exact ⟨t5, o5⟩, kw4.setCell (.inr htb) _, r5⟩
      clear t5 r5 o5 r4 t4 kw4 hne2 hown' hgrow hfr c3
      go_wp2
      go_end0
      exact ⟨rfl, by rw [Hwa.out]; exact HF.out⟩
    · have e3 : decide (m = R.cs.size) = false := by simp [hend]
      by_cases hlim : R.at_ ≤ (L.length : Int)
      · have ec : (!false && !decide (m = R.cs.size) && decide (R.at_ ≤ (L.length : Int))) = true := by simp [hend, hlim]
        rw [ec]
        clear ec
        simp only [Bool.false_eq_true, if_false, if_true]
        go_enter Tryz.func302, Tryz.ntmps302
        go_wp2_with fail
        refine CN.out.mono ?_
        rintro e w1 ⟨rfl, hk1, hr1'⟩
        have HT1 := hide (HT.out.kept hk1 hr0 htb)
        have HK1 := hide (HK0.out.trans hk1)
        have HR1 := hide hr1'
        have HL1 := hide hk1
        have a0 : w1.cell? ⟨tb, 0, none⟩ = some (.int .i64 x) := by rw [cell_at HT1.out.blk]; rfl
        have a1 : w1.cell? ⟨tb, 1, none⟩ = some (.int .i64 y) := by rw [cell_at HT1.out.blk]; rfl
        have a2 : w1.cell? ⟨tb, 2, none⟩ = some (.string nm) := by rw [cell_at HT1.out.blk]; rfl
        have a3 : w1.cell? ⟨tb, 3, none⟩ = some (.slice ao L.length cp) := by rw [cell_at HT1.out.blk]; rfl
        have CH := has_tag w0.heap.size x y nm na _ L w1 HT1.out.own (by omega)
        rw [← Hms.out, hin] at CH
        have HCH := hide CH
        clear CH hk1 hr1' CN
        go_wp2_with fail
        refine HCH.out.mono ?_
        rintro e w2 ⟨rfl, hk2⟩
        have HL2 := hide (HL1.out.trans (hk2.mono (by simp)))
        have HK2 := hide (HK1.out.trans (hk2.mono (by simp)))
        have HR2 := hide (HR1.out.kept hk2 (by simp))
        have HT2 := hide (HT1.out.kept (hk2.mono (by simp)) hr0 htb)
        clear hk2 HCH a0 a1 a2 a3
        have b3 : w2.cell? ⟨tb, 3, none⟩ = some (.slice ao L.length cp) := by rw [cell_at HT2.out.blk]; rfl
        have b4 := HR2.out.lim
        have C := hide (fun w' (h : Rd w' r R bg m) => atEnd_any r R bg m w' h)
        rw [e3] at C
        go_wp2_with fail
        go_quiet ((go_at_call 87; refine Calls.quiet_of (C.out _ ?_); exact HR2.out))
        clear b3 b4
        have HAA := hide (HA.out.kept HL2.out)
        have p0 : w2.cell? ⟨r, 1, none⟩ = some (.slice (some ⟨g, 0, none⟩) (R.cs.size + 1) cap) := by rw [HR2.out.ats, HA.out.av]
        have p1 : w2.cell? ⟨r, 2, none⟩ = some (.int .i64 (bg : Int)) := HR2.out.bg
        have p2 := HAA.out.at_ bg hb
        have HKP := hide (HK2.out.drewN nq)
        have hsz := HK2.out.size
        generalize R.cs.size = sz at *
        have hb2 : (bg : Int) < (sz : Int) + 1 := by omega
        go_wp2_with fail
        go_region_dies
        all_goals (try go_wp2)
        all_goals exact ⟨rfl, w2.heap.size, rfl, heap_alloc_at (w2.drewN (nq + 1)) _, hsz, (HK2.out.drewN (nq + 1)).alloc _⟩
      · have ec : (!false && !decide (m = R.cs.size) && decide (R.at_ ≤ (L.length : Int))) = false := by simp [hlim]
        rw [ec]
        clear ec
        simp only [Bool.false_eq_true, if_false, if_true]
        go_enter Tryz.func302, Tryz.ntmps302
        go_wp2_with fail
        refine CN.out.mono ?_
        rintro e w1 ⟨rfl, hk1, hr1'⟩
        have HT1 := hide (HT.out.kept hk1 hr0 htb)
        have HK1 := hide (HK0.out.trans hk1)
        have HR1 := hide hr1'
        have HL1 := hide hk1
        have a0 : w1.cell? ⟨tb, 0, none⟩ = some (.int .i64 x) := by rw [cell_at HT1.out.blk]; rfl
        have a1 : w1.cell? ⟨tb, 1, none⟩ = some (.int .i64 y) := by rw [cell_at HT1.out.blk]; rfl
        have a2 : w1.cell? ⟨tb, 2, none⟩ = some (.string nm) := by rw [cell_at HT1.out.blk]; rfl
        have a3 : w1.cell? ⟨tb, 3, none⟩ = some (.slice ao L.length cp) := by rw [cell_at HT1.out.blk]; rfl
        have CH := has_tag w0.heap.size x y nm na _ L w1 HT1.out.own (by omega)
        rw [← Hms.out, hin] at CH
        have HCH := hide CH
        clear CH hk1 hr1' CN
        go_wp2_with fail
        refine HCH.out.mono ?_
        rintro e w2 ⟨rfl, hk2⟩
        have HL2 := hide (HL1.out.trans (hk2.mono (by simp)))
        have HK2 := hide (HK1.out.trans (hk2.mono (by simp)))
        have HR2 := hide (HR1.out.kept hk2 (by simp))
        have HT2 := hide (HT1.out.kept (hk2.mono (by simp)) hr0 htb)
        clear hk2 HCH a0 a1 a2 a3
        have b3 : w2.cell? ⟨tb, 3, none⟩ = some (.slice ao L.length cp) := by rw [cell_at HT2.out.blk]; rfl
        have b4 := HR2.out.lim
        have C := hide (fun w' (h : Rd w' r R bg m) => atEnd_any r R bg m w' h)
        rw [e3] at C
        go_wp2_with fail
        go_quiet ((go_at_call 87; refine Calls.quiet_of (C.out _ ?_); exact HR2.out))
        clear b3 b4
        have HVC := hide (HV.out (w2.drewN nq) (show Rd (w2.drewN nq) r R bg m from HR2.out) (HN.out.kept (HL2.out.drewN _)) (HG.out.kept (HL2.out.drewN _)))
        go_wp2_with fail
        refine HVC.out.mono ?_
        rintro e w3 ⟨rfl, hk3, hr3⟩
        have HK3 := hide ((HK2.out.drewN nq).trans hk3)
        have HR3 := hide hr3
        have HT3 := hide ((HT2.out.kept ((Kept.refl [r] w2).drewN nq) hr0 htb).kept hk3 hr0 htb)
        clear hk3 hr3 HVC
        have c3 : w3.cell? ⟨tb, 3, none⟩ = some (.slice ao L.length cp) := by rw [cell_at HT3.out.blk]; rfl
        have hlt3 := lt_of_block HT3.out.blk
        have hrt3 := lt_of_block HR3.out
        have hbl := HK3.out.size
        go_wp2_with (at_builtin; refine wpList_append_ownF _ rfl _ _ 137 rfl w0.heap.size 299 i0 (.agg #[.string ⟨#[]⟩, .string ⟨#[]⟩]) 2 32 Tryz.underlying137 hi hz0 hz1 hz2 rfl (by decide) _ _ _ rfl (HT3.out.own.alloc _) ⟨w3.heap.size, 0, none⟩ 1 1 [.string na, .string vt] rfl ?c1 ?c2 ?c3 ?c4 ?c5 ?c6 ?_)
        case c1 => rfl
        case c2 =>
          intro j u hj
          match j, hj with
          | 0, hj => simp at hj; subst hj; simp [Addr.add]
          | 1, hj => simp at hj; subst hj; simp [Addr.add]
        case c3 => intro u hu; simp at hu; rcases hu with rfl | rfl <;> rfl
        case c4 => unfold maxLen; omega
        case c5 => omega
        case c6 => simp; omega
        intro v' w4 hown' hgrow hfr
        obtain ⟨ao', cap', hv⟩ := owns_shape hown'
        subst hv
        have hne2 : ∀ k, (Value.slice ao L.length cp).ownBlock = some k → k ≠ tb := by
          intro k hk
          rcases HT3.out.own.2 with ⟨h, _⟩ | ⟨g', cap', cur, h, _, hc, _⟩
          · rw [h] at hk; cases hk
          · rw [h] at hk
            obtain rfl := Option.some.inj hk
            exact block_ne hc HT3.out.blk (by decide)
        have kw4 : Kept [r] w0 w4 := (HK3.out.alloc _).grown hgrow (fun k hk => .inr (HT3.out.own.lt k hk).1)
        have t4 : w4.heap[tb]? = some (.cells #[.int .i64 x, .int .i64 y, .string nm, .slice ao L.length cp] 194 (0, 0)) := by
          rw [hgrow.block tb (by simp; omega) (fun h => hne2 tb h.symm rfl), Below.heap_alloc _ _ _ hlt3]; exact HT3.out.blk
        have r4 : Rd w4 r R bg (valEnd R m) := by
          show w4.heap[r]? = _
          rw [hgrow.block r (by simp; omega) (fun h => by have := (HT3.out.own.lt r h.symm).1; omega), Below.heap_alloc _ _ _ hrt3]; exact HR3.out
        have d3 : w4.cell? ⟨tb, 3, none⟩ = some (.slice ao L.length cp) := by rw [cell_at t4]; rfl
        have f3 := free_at t4 3
        have t5 := block_setCell t4 3 (.slice ao' (L.length + 1) cap')
        have r5 : Rd (w4.setCell ⟨tb, 3, none⟩ (.slice ao' (L.length + 1) cap')) r R bg (valEnd R m) := (Below.heap_setCell w4 ⟨tb, 3, none⟩ _ r (by simpa using hr1)).trans r4
        have o5 : (w4.setCell ⟨tb, 3, none⟩ (.slice ao' (L.length + 1) cap')).ownsRow w0.heap.size 299 2 (.slice ao' (L.length + 1) cap') (L ++ [(na, vt)]).length (acells (L ++ [(na, vt)])) := by
          rw [acells_append, List.length_append]
          refine ownsRow_setCell_other hown' ?_ _
          intro hk
          rcases hown'.2 with ⟨h, _⟩ | ⟨g', cap', cur, h, _, hc, _⟩
          · rw [h] at hk; cases hk
          · rw [h] at hk
            obtain rfl := Option.some.inj hk
            exact block_ne hc t4 (by decide) rfl
        have HF : Hid (∃ av', TagAt (w4.setCell ⟨tb, 3, none⟩ (.slice ao' (L.length + 1) cap')) w0.heap.size tb x y nm av' (addAtt L na vt) ∧ Kept [r] w0 (w4.setCell ⟨tb, 3, none⟩ (.slice ao' (L.length + 1) cap')) ∧ Rd (w4.setCell ⟨tb, 3, none⟩ (.slice ao' (L.length + 1) cap')) r R bg (valEnd R m)) :=
          ⟨_, by rw [show addAtt L na vt = L ++ [(na, vt)] by unfold addAtt; rw [← Hms.out, hin]; rfl]; exact ⟨t5, o5⟩, kw4.setCell (.inr htb) _, r5⟩
        clear t5 r5 o5 r4 t4 kw4 hne2 hown' hgrow hfr c3
        go_wp2
        go_end0
        exact ⟨rfl, by rw [Hwa.out]; exact HF.out⟩
  · skip
    have ec : (!true && !decide (m = R.cs.size) && decide (R.at_ ≤ (L.length : Int))) = false := by simp
    rw [ec]
    clear ec
    simp only [Bool.false_eq_true, if_false, if_true]
    go_enter Tryz.func302, Tryz.ntmps302
    go_wp2_with fail
    refine CN.out.mono ?_
    rintro e w1 ⟨rfl, hk1, hr1'⟩
    have HT1 := hide (HT.out.kept hk1 hr0 htb)
    have HK1 := hide (HK0.out.trans hk1)
    have HR1 := hide hr1'
    have HL1 := hide hk1
    have a0 : w1.cell? ⟨tb, 0, none⟩ = some (.int .i64 x) := by rw [cell_at HT1.out.blk]; rfl
    have a1 : w1.cell? ⟨tb, 1, none⟩ = some (.int .i64 y) := by rw [cell_at HT1.out.blk]; rfl
    have a2 : w1.cell? ⟨tb, 2, none⟩ = some (.string nm) := by rw [cell_at HT1.out.blk]; rfl
    have a3 : w1.cell? ⟨tb, 3, none⟩ = some (.slice ao L.length cp) := by rw [cell_at HT1.out.blk]; rfl
    have CH := has_tag w0.heap.size x y nm na _ L w1 HT1.out.own (by omega)
    rw [← Hms.out, hin] at CH
    have HCH := hide CH
    clear CH hk1 hr1' CN
    go_wp2_with fail
    refine HCH.out.mono ?_
    rintro e w2 ⟨rfl, hk2⟩
    have HL2 := hide (HL1.out.trans (hk2.mono (by simp)))
    have HK2 := hide (HK1.out.trans (hk2.mono (by simp)))
    have HR2 := hide (HR1.out.kept hk2 (by simp))
    have HT2 := hide (HT1.out.kept (hk2.mono (by simp)) hr0 htb)
    clear hk2 HCH a0 a1 a2 a3
    have b3 : w2.cell? ⟨tb, 3, none⟩ = some (.slice ao L.length cp) := by rw [cell_at HT2.out.blk]; rfl
    have b4 := HR2.out.lim
    have C := hide (fun w' (h : Rd w' r R bg m) => atEnd_any r R bg m w' h)
    go_wp2_with fail
    go_quiet ((go_at_call 87; refine Calls.quiet_of (C.out _ ?_); exact HR2.out))
    clear b3 b4
    have HVC := hide (HV.out (w2.drewN nq) (show Rd (w2.drewN nq) r R bg m from HR2.out) (HN.out.kept (HL2.out.drewN _)) (HG.out.kept (HL2.out.drewN _)))
    go_wp2_with fail
    refine HVC.out.mono ?_
    rintro e w3 ⟨rfl, hk3, hr3⟩
    have HK3 := hide ((HK2.out.drewN nq).trans hk3)
    have HR3 := hide hr3
    have HT3 := hide ((HT2.out.kept ((Kept.refl [r] w2).drewN nq) hr0 htb).kept hk3 hr0 htb)
    clear hk3 hr3 HVC
    have HF : Hid (∃ av', TagAt w3 w0.heap.size tb x y nm av' (addAtt L na vt) ∧ Kept [r] w0 w3 ∧ Rd w3 r R bg (valEnd R m)) :=
      ⟨_, by rw [show addAtt L na vt = L by unfold addAtt; rw [← Hms.out, hin]; rfl]; exact HT3.out, HK3.out, HR3.out⟩
    go_wp2
    go_end0
    exact ⟨rfl, by rw [Hwa.out]; exact HF.out⟩
end Go.Proofs.YtlhhgenpcjjajaaGreatDoor
namespace Go.Proofs.YtlhhgenpcjjajaaGreatDoor
open Go.RowKit Go.PlainAid
inductive TagOut where
  | stop
  | lost
  | whole (e : Nat) (L : List (ByteArray × ByteArray))
def skipBS (R : RC) (ps : Nat) : Nat := scan (fun c => !inSet ⟨#[32, 9, 10, 12, 47]⟩ c) R.cs ps
theorem skipBS_le {R : RC} {ps : Nat} (h : ps ≤ R.cs.size) : skipBS R ps ≤ R.cs.size := scan_le h
theorem skipBS_ge {R : RC} {ps : Nat} : ps ≤ skipBS R ps := scan_ge
def tagGo (R : RC) (look : ByteArray → Option ByteArray) (lg : Nat) (L : List (ByteArray × ByteArray)) (ps : Nat) : TagOut :=
  if h : skipBS R ps < R.cs.size then
    if pre (R.cs.extract (skipBS R ps) R.cs.size) ⟨#[62]⟩ = true then .whole (skipBS R ps + 1) L
    else if tooMany R (L.map (·.1)) (skipBS R ps) = true then .stop
    else tagGo R look lg (withAtt R look lg L (skipBS R ps)) (valEnd R (nameEnd R (skipBS R ps)))
  else .lost
  termination_by R.cs.size - ps
  decreasing_by
    have h1 := skipBS_ge (R := R) (ps := ps)
    have h2 := nameEnd_gt (R := R) (ps := skipBS R ps)
    have h3 := valEnd_ge (R := R) (ps := nameEnd R (skipBS R ps))
    omega
def tagA (R : RC) (ps : Nat) : Nat := scan (inSet ⟨#[32, 9, 10, 12, 47, 62]⟩) R.cs ps
theorem tagA_le {R : RC} {ps : Nat} (h : ps ≤ R.cs.size) : tagA R ps ≤ R.cs.size := scan_le h
theorem withAtt_len {R : RC} {look : ByteArray → Option ByteArray} {lg : Nat} {L : List (ByteArray × ByteArray)} {ps : Nat} : (withAtt R look lg L ps).length ≤ L.length + 1 := by
  unfold withAtt addAtt; split <;> simp
def tagNm (R : RC) (ps : Nat) : ByteArray := noNul (small (R.cs.extract ps (tagA R ps)))
theorem Rd.setOther {w : World} {r : Nat} {R : RC} {bg ps : Nat} (h : Rd w r R bg ps) {p : Addr} (hp : p.block ≠ r) (u : Value) : Rd (w.setCell p u) r R bg ps := (Below.heap_setCell w p u r (fun e => hp e.symm)).trans h
theorem tagrow_ne {w : World} {base : Nat} {e : TypeId} {sz n : Nat} {v : Value} {xs : List Value} (ho : w.ownsRow base e sz v n xs) {b : Nat} {c : Array Value} {t : TypeId} (hb : w.heap[b]? = some (.cells c t (0, 0))) (hne : e ≠ t) : ∀ k, v.ownBlock = some k → k ≠ b := by
  rintro k hk rfl
  rcases ho.2 with ⟨e2, _⟩ | ⟨q', cap', cur, e2, _, hc, _⟩
  · rw [e2] at hk; cases hk
  · rw [e2] at hk
    obtain rfl := Option.some.inj hk
    rw [hb] at hc
    injection hc with hc
    injection hc with _ h2
    exact hne h2.symm
def TagPost (w : World) (r : Nat) (R : RC) (bg : Nat) (cut : Nat → Nat) (nm : ByteArray) (e : Ending) (w' : World) : TagOut → Prop
  | .stop => ∃ k, e = .panicked [{ v := .iface 78 (.pointer (some ⟨k, 0, none⟩)), recovered := false }] ∧ stopAt w' k 7 (cut bg) ∧ w.heap.size ≤ k ∧ Kept [r] w w'
  | .lost => e = .returned (.tuple #[.agg #[.int .i64 0, .int .i64 0, .string ⟨#[]⟩, .slice none 0 0], .bool false]) ∧ Kept [r] w w' ∧ Rd w' r R bg R.cs.size
  | .whole m L => (∃ ao cp, e = .returned (.tuple #[.agg #[.int .i64 (cut bg), .int .i64 (cut m), .string nm, .slice ao L.length cp], .bool true]) ∧ w'.ownsRow w.heap.size 299 2 (.slice ao L.length cp) L.length (acells L)) ∧ Kept [r] w w' ∧ Rd w' r R bg m
set_option maxRecDepth 100000 in
set_option maxHeartbeats 2000000 in
theorem tag_any (r : Nat) (R : RC) (bg ps g cap b lg : Nat) (look : ByteArray → Option ByteArray) (cut : Nat → Nat) (w : World) (h : Rd w r R bg ps) (hA : Ats w r R g cap cut) (hN : Nm w r R b lg look) (hG : Gl w r)
    (hb : bg ≤ R.cs.size) (hp : ps ≤ R.cs.size) (hs : R.cs.size ≤ 1024) :
    Calls Tryz.prog 253 #[.pointer (some ⟨r, 0, none⟩)] w fun e w' => TagPost w r R bg cut (tagNm R ps) e w' (tagGo R look lg [] (tagA R ps)) := by
  obtain ⟨O, hO⟩ : ∃ O, O = tagGo R look lg [] (tagA R ps) := ⟨_, rfl⟩
  rw [← hO]
  have HO := hide hO
  clear hO
  obtain ⟨nm, hnm⟩ : ∃ nm, nm = tagNm R ps := ⟨_, rfl⟩
  rw [← hnm]
  have hnm2 : noNul (small (R.cs.extract ps (scan (inSet ⟨#[32, 9, 10, 12, 47, 62]⟩) R.cs ps))) = nm := hnm.symm
  have HNM := hide hnm2
  clear hnm hnm2
  have hr := lt_of_block h
  obtain ⟨w0, hw0⟩ : ∃ w0, w0 = w.alloc (.cells #[.int .i64 0, .int .i64 0, .string ⟨#[]⟩, .slice none 0 0] 194) := ⟨_, rfl⟩
  have hrb : w0.heap[w.heap.size]? = some (.cells #[.int .i64 0, .int .i64 0, .string ⟨#[]⟩, .slice none 0 0] 194 (0, 0)) := by rw [hw0]; exact heap_alloc_at w _
  have k0 : Kept [] w w0 := by rw [hw0]; exact (Kept.refl _ _).alloc _
  have z0 : w0.heap.size = w.heap.size + 1 := by rw [hw0]; simp
  have hR0 := h.kept k0 (by simp)
  have ha := tagA_le (R := R) hp
  have CU := hide (upToOne r R bg ps ⟨#[32, 9, 10, 12, 47, 62]⟩ w0 hR0 hp hs)
  have HA := hide (hA.kept (k0.mono (by simp)))
  have HN := hide (hN.kept (k0.mono (by simp)))
  have HG := hide (hG.kept (k0.mono (by simp)))
  have HW := hide hw0.symm
  have HK0 := hide k0
  have HRB := hide hrb
  have hez : (R.cs.extract ps (scan (inSet ⟨#[32, 9, 10, 12, 47, 62]⟩) R.cs ps)).size ≤ 1048576 := by simp; omega
  have HZ := hide z0
  clear h hA hN hG hw0 hrb k0 z0 hR0
  go_enter Tryz.func253, Tryz.ntmps253
  go_wp2_with fail
  rw [HW.out]
  refine (oneOf_any _ w0).mono ?_
  rintro e w1 ⟨rfl, rfl⟩
  go_wp2_with fail
  refine CU.out.mono ?_
  rintro e w2 ⟨rfl, hk2, hr2⟩
  have HK2 := hide hk2
  have HR2 : Hid (Rd w2 r R bg (tagA R ps)) := hr2
  have CR := hide (readName_any r _ w2 hez (HG.out.kept hk2))
  clear hk2 hr2 CU hez
  go_wp2_with fail
  refine CR.out.mono ?_
  rintro e w3 ⟨rfl, hk3⟩
  have HK3 := hide (HK2.out.trans (hk3.mono (by simp)))
  have HR3 := hide (HR2.out.kept hk3 (by simp))
  clear hk3 CR
  rw [HNM.out]
  obtain ⟨w4, hw4⟩ : ∃ w4, w4 = w3.alloc (.cells #[.int .i64 0, .int .i64 0, .string nm, .slice none 0 0] 194) := ⟨_, rfl⟩
  have k34 : Kept [] w3 w4 := by rw [hw4]; exact (Kept.refl _ _).alloc _
  have HT4 : Hid (TagAt w4 w0.heap.size w3.heap.size 0 0 nm (.slice none 0 0) []) := ⟨by rw [hw4]; exact heap_alloc_at w3 _, World.ownsRow_nil _ _ _ _⟩
  have HK4 := hide (HK3.out.trans (k34.mono (by simp)))
  have HR4 := hide (HR3.out.kept k34 (by simp))
  have HZ3 := hide HK3.out.size
  have HW4 := hide hw4.symm
  clear k34 hw4
  go_wp2_with fail
  rw [HW4.out]
  go_loopw [] (fun wr => ∃ (i : Nat) (av : Value) (L : List (ByteArray × ByteArray)), i ≤ R.cs.size ∧ L.length ≤ i ∧ tagGo R look lg L i = O ∧ TagAt wr w0.heap.size w3.heap.size 0 0 nm av L ∧ Kept [r] w0 wr ∧ Rd wr r R bg i) (fun wr => R.cs.size - (match wr.cell? ⟨r, 3, none⟩ with | some v => (intOf v).toNat | none => 0))
  case atStart => exact ⟨tagA R ps, _, [], ha, Nat.zero_le _, HO.out.symm, HT4.out, HK4.out, HR4.out⟩
  case round =>
    obtain ⟨i, av, L, hi, hLi, htg, hT, hkw, hrd⟩ := hrel
    have HTG := hide htg
    have HKW := hide hkw
    have CP := hide (passOver_any r R bg i ⟨#[32, 9, 10, 12, 47]⟩ wr hrd hi hs)
    have HT := hide hT
    have P0 := hrd.ps
    have hle := skipBS_le (R := R) hi
    have hge := skipBS_ge (R := R) (ps := i)
    clear htg hkw hrd hT
    go_wp2_with fail
    refine CP.out.mono ?_
    rintro e w5 ⟨rfl, hk5, hr5⟩
    have HR5 : Hid (Rd w5 r R bg (skipBS R i)) := hr5
    have HK5 := hide (HKW.out.trans hk5)
    have HT5 := hide (HT.out.kept hk5 (by have := HZ.out; omega) HZ3.out)
    have CE := atEnd_any r R bg (skipBS R i) w5 hr5
    clear hk5 hr5 CP
    by_cases hend : skipBS R i = R.cs.size
    · have eO : O = .lost := by rw [← HTG.out, tagGo, dif_neg (by omega)]
      have EO := hide eO
      have e3 : decide (skipBS R i = R.cs.size) = true := by simp [hend]
      rw [e3] at CE
      have HCE := hide CE
      have hb5 := HK5.out.at HRB.out (by simp; omega)
      have d0 : w5.cell? ⟨w.heap.size, 0, none⟩ = some (.int .i64 0) := by rw [cell_at hb5]; rfl
      have d1 : w5.cell? ⟨w.heap.size, 1, none⟩ = some (.int .i64 0) := by rw [cell_at hb5]; rfl
      have d2 : w5.cell? ⟨w.heap.size, 2, none⟩ = some (.string ⟨#[]⟩) := by rw [cell_at hb5]; rfl
      have d3 : w5.cell? ⟨w.heap.size, 3, none⟩ = some (.slice none 0 0) := by rw [cell_at hb5]; rfl
      have f0 := free_at hb5 0
      have f1 := free_at hb5 1
      have f2 := free_at hb5 2
      have f3 := free_at hb5 3
      clear CE e3 eO hb5
      go_wp2_with fail
      refine HCE.out.mono ?_
      rintro e w6 ⟨rfl, q, rfl⟩
      go_wp2
      have HKW2 := hide ((HK0.out.mono (S' := [r]) (by simp)).trans HK5.out)
      have hrn : w.heap.size ≠ r := by omega
      rw [EO.out]
      refine bodyPost_ret (v := .tuple #[.agg #[.int .i64 0, .int .i64 0, .string ⟨#[]⟩, .slice none 0 0], .bool false]) ?_ rfl ⟨rfl, ?_, ?_⟩
      · simp [results, Tryz.results253, asAddr, Result.andThen, go_sem, d0, d1, d2, d3]
      · exact ((((HKW2.out.drewN q).setCell (.inr (Nat.le_refl _)) _).setCell (.inr (Nat.le_refl _)) _).setCell (.inr (Nat.le_refl _)) _).setCell (.inr (Nat.le_refl _)) _
      · have h6 : Rd (w5.drewN q) r R bg R.cs.size := by rw [← hend]; exact HR5.out
        exact (((h6.setOther hrn _).setOther hrn _).setOther hrn _).setOther hrn _
    · have e3 : decide (skipBS R i = R.cs.size) = false := by simp [hend]
      have hlt : skipBS R i < R.cs.size := by omega
      rw [e3] at CE
      have HCE := hide CE
      clear CE e3
      cases hgt : pre (R.cs.extract (skipBS R i) R.cs.size) ⟨#[62]⟩
      · have htk : taken R ⟨#[62]⟩ (skipBS R i) = skipBS R i := by unfold taken; rw [if_neg (by simp [hgt])]
        have CT := fun q => take_any r R bg (skipBS R i) ⟨#[62]⟩ (w5.drewN q) (show Rd (w5.drewN q) r R bg _ from HR5.out) hle hs (by decide)
        rw [hgt, htk] at CT
        have HCT := hide CT
        clear CT htk
        go_wp2_with fail
        refine HCE.out.mono ?_
        rintro e w6 ⟨rfl, q, rfl⟩
        go_wp2_with fail
        refine (HCT.out q).mono ?_
        rintro e w7 ⟨rfl, hk7, hr7⟩
        have HK7 := hide ((HK5.out.drewN q).trans hk7)
        have hT7 := (HT5.out.kept ((Kept.refl [r] w5).drewN q) (by have := HZ.out; omega) HZ3.out).kept hk7 (by have := HZ.out; omega) HZ3.out
        have CA := hide (attribute_any r w3.heap.size R bg (skipBS R i) g cap b lg look cut 0 0 nm av L w0 w7 HK7.out (by have := HZ.out; omega) HZ3.out hr7 (HA.out.kept HK7.out) (HN.out.kept HK7.out) (HG.out.kept HK7.out) hT7 hb hlt hs (by omega))
        clear hk7 hr7 hT7 HCT HCE
        go_wp2_with fail
        refine CA.out.mono ?_
        intro e w8 hpost
        by_cases htm : tooMany R (L.map (·.1)) (skipBS R i) = true
        · rw [if_pos htm] at hpost
          obtain ⟨k, rfl, hst, hkk, hk8⟩ := hpost
          have eO : O = .stop := by rw [← HTG.out, tagGo, dif_pos hlt, if_neg (by simp [hgt]), if_pos htm]
          have HF : Hid (TagPost w r R bg cut nm (.panicked [{ v := .iface 78 (.pointer (some ⟨k, 0, none⟩)), recovered := false }]) w8 O) := by
            rw [eO]; exact ⟨k, rfl, hst, by have := HZ.out; omega, (HK0.out.mono (S' := [r]) (by simp)).trans hk8⟩
          clear hst hk8 eO CA
          go_wp2
          exact ⟨rfl, HF.out⟩
        · rw [if_neg htm] at hpost
          obtain ⟨rfl, av', hT8, hk8, hr8⟩ := hpost
          have hO8 : tagGo R look lg (withAtt R look lg L (skipBS R i)) (valEnd R (nameEnd R (skipBS R i))) = O := by
            rw [← HTG.out, tagGo.eq_1 R look lg L i, dif_pos hlt, if_neg (by simp [hgt]), if_neg htm]
          have hl8 := withAtt_len (R := R) (look := look) (lg := lg) (L := L) (ps := skipBS R i)
          have h2 := nameEnd_gt (R := R) (ps := skipBS R i)
          have h3 := valEnd_ge (R := R) (ps := nameEnd R (skipBS R i))
          have h4 := valEnd_le (R := R) (nameEnd_le (R := R) hlt)
          have HREL : Hid (∃ (i' : Nat) (av : Value) (L : List (ByteArray × ByteArray)), i' ≤ R.cs.size ∧ L.length ≤ i' ∧ tagGo R look lg L i' = O ∧ TagAt w8 w0.heap.size w3.heap.size 0 0 nm av L ∧ Kept [r] w0 w8 ∧ Rd w8 r R bg i') :=
            ⟨_, av', _, h4, by omega, hO8, hT8, hk8, hr8⟩
          have P8 := hr8.ps
          have hlt8 : R.cs.size - valEnd R (nameEnd R (skipBS R i)) < R.cs.size - i := by omega
          clear hT8 hk8 hr8 hO8 hl8 CA h2 h3 h4
          go_wp2
          go_roundw
          case rel => exact HREL.out
          case measure => rw [P8, P0]; simpa [intOf] using hlt8
      · have htk : taken R ⟨#[62]⟩ (skipBS R i) = skipBS R i + 1 := by unfold taken; rw [if_pos hgt]; rfl
        have CT := fun q => take_any r R bg (skipBS R i) ⟨#[62]⟩ (w5.drewN q) (show Rd (w5.drewN q) r R bg _ from HR5.out) hle hs (by decide)
        rw [hgt, htk] at CT
        have HCT := hide CT
        have eO : O = .whole (skipBS R i + 1) L := by rw [← HTG.out, tagGo, dif_pos hlt, if_pos hgt]
        have EO := hide eO
        clear CT htk eO
        go_wp2_with fail
        refine HCE.out.mono ?_
        rintro e w6 ⟨rfl, q, rfl⟩
        go_wp2_with fail
        refine (HCT.out q).mono ?_
        rintro e w7 ⟨rfl, hk7, hr7⟩
        have HK7 := hide ((HK5.out.drewN q).trans hk7)
        have hT7 := (HT5.out.kept ((Kept.refl [r] w5).drewN q) (by have := HZ.out; omega) HZ3.out).kept hk7 (by have := HZ.out; omega) HZ3.out
        have CP2 := hide (place_any r R bg (skipBS R i + 1) g cap cut w7 hr7 (HA.out.kept HK7.out) hb (by omega) hs)
        have HR7 := hide hr7
        have HT7 := hide hT7
        clear hk7 hr7 hT7 HCT HCE
        go_wp2_with fail
        refine CP2.out.mono ?_
        rintro e w8 ⟨rfl, hk8⟩
        have HK8 := hide ((HK0.out.mono (S' := [r]) (by simp)).trans (HK7.out.trans (hk8.mono (by simp))))
        have hT8 := HT7.out.kept (hk8.mono (by simp)) (r := r) (by have := HZ.out; omega) HZ3.out
        have HR8 := hide (HR7.out.kept hk8 (by simp))
        have hb8 := (HK7.out.trans (hk8.mono (by simp))).at HRB.out (by simp; omega)
        obtain ⟨ao, cp, hav⟩ := owns_shape hT8.own
        subst hav
        have t0 : w8.cell? ⟨w3.heap.size, 0, none⟩ = some (.int .i64 0) := by rw [cell_at hT8.blk]; rfl
        have t1 : w8.cell? ⟨w3.heap.size, 1, none⟩ = some (.int .i64 0) := by rw [cell_at hT8.blk]; rfl
        have t2 : w8.cell? ⟨w3.heap.size, 2, none⟩ = some (.string nm) := by rw [cell_at hT8.blk]; rfl
        have t3 : w8.cell? ⟨w3.heap.size, 3, none⟩ = some (.slice ao L.length cp) := by rw [cell_at hT8.blk]; rfl
        have g0 := free_at hT8.blk 0
        have g1 := free_at hT8.blk 1
        have d0 : w8.cell? ⟨w.heap.size, 0, none⟩ = some (.int .i64 0) := by rw [cell_at hb8]; rfl
        have d1 : w8.cell? ⟨w.heap.size, 1, none⟩ = some (.int .i64 0) := by rw [cell_at hb8]; rfl
        have d2 : w8.cell? ⟨w.heap.size, 2, none⟩ = some (.string ⟨#[]⟩) := by rw [cell_at hb8]; rfl
        have d3 : w8.cell? ⟨w.heap.size, 3, none⟩ = some (.slice none 0 0) := by rw [cell_at hb8]; rfl
        have f0 := free_at hb8 0
        have f1 := free_at hb8 1
        have f2 := free_at hb8 2
        have f3 := free_at hb8 3
        have hne : w.heap.size ≠ w3.heap.size := by have := HZ3.out; have := HZ.out; omega
        have hne2 : w3.heap.size ≠ w.heap.size := fun h => hne h.symm
        have HO8 := hide hT8.own
        have HN8 := hide (tagrow_ne hT8.own hT8.blk (by decide))
        clear hT8 hb8 hk8 CP2
        go_wp2
        rw [EO.out]
        have hrn : w.heap.size ≠ r := by omega
        have hrn3 : w3.heap.size ≠ r := by have := HZ3.out; have := HZ.out; omega
        have hl3 : w.heap.size ≤ w3.heap.size := by have := HZ3.out; have := HZ.out; omega
        refine bodyPost_ret (v := .tuple #[.agg #[.int .i64 (cut bg : Int), .int .i64 (cut (skipBS R i + 1) : Int), .string nm, .slice ao L.length cp], .bool true]) ?_ rfl ⟨⟨_, _, rfl, ?_⟩, ?_, ?_⟩
        · simp [results, Tryz.results253, asAddr, Result.andThen, go_sem, d0, d1, d2, d3]
        · have hb' : ∀ (p : Addr) (u : Value) (W : World), (p.block = w.heap.size ∨ p.block = w3.heap.size) → W.ownsRow w0.heap.size 299 2 (.slice ao L.length cp) L.length (acells L) → (W.setCell p u).ownsRow w0.heap.size 299 2 (.slice ao L.length cp) L.length (acells L) := by
            intro p u W hp ho
            refine ownsRow_setCell_other ho ?_ u
            intro e
            rcases hp with hp | hp
            · have := (HO8.out.lt _ e).1; have := HZ.out; omega
            · rw [hp] at e
              exact HN8.out _ e rfl
          refine ownsRow_base (base := w0.heap.size) ?_ (by have := HZ.out; omega)
          exact hb' _ _ _ (.inl rfl) (hb' _ _ _ (.inl rfl) (hb' _ _ _ (.inl rfl) (hb' _ _ _ (.inl rfl) (hb' _ _ _ (.inr rfl) (hb' _ _ _ (.inr rfl) HO8.out)))))
        · exact (((((HK8.out.setCell (.inr hl3) _).setCell (.inr hl3) _).setCell (.inr (Nat.le_refl _)) _).setCell (.inr (Nat.le_refl _)) _).setCell (.inr (Nat.le_refl _)) _).setCell (.inr (Nat.le_refl _)) _
        · exact (((((HR8.out.setOther hrn3 _).setOther hrn3 _).setOther hrn _).setOther hrn _).setOther hrn _).setOther hrn _
end Go.Proofs.YtlhhgenpcjjajaaGreatDoor
namespace Go.Proofs.YtlhhgenpcjjajaaGreatDoor
open Go.RowKit Go.PlainAid
def isLet (R : RC) (ps : Nat) : Bool := decide (ps < R.cs.size) && decide (97 ≤ bt R.cs ps ∧ bt R.cs ps ≤ 122 ∨ 65 ≤ bt R.cs ps ∧ bt R.cs ps ≤ 90)
theorem isNext_letter (r : Nat) (R : RC) (bg ps : Nat) (w : World) (h : Rd w r R bg ps) (hp : ps ≤ R.cs.size) (hs : R.cs.size ≤ 1024) :
    Calls Tryz.prog 161 #[.pointer (some ⟨r, 0, none⟩), .func (.func 162) #[] #[]] w fun e w' => e = .returned (.bool (isLet R ps)) ∧ ∃ n, w' = w.drewN n :=
  isNext_any r R bg ps _ _ _ w h hp hs (letter_asks w [r])
def IsStart (base : Nat) (x y : Int) (nm : ByteArray) (L : List (ByteArray × ByteArray)) (v : Value) (w : World) : Prop :=
  ∃ ao cp, v = .iface 196 (.agg #[.int .i64 x, .int .i64 y, .string nm, .slice ao L.length cp]) ∧ w.ownsRow base 299 2 (.slice ao L.length cp) L.length (acells L)
set_option maxRecDepth 100000 in
set_option maxHeartbeats 1000000 in
theorem startTag_whole (r : Nat) (R : RC) (bg ps g cap b lg m : Nat) (L : List (ByteArray × ByteArray)) (look : ByteArray → Option ByteArray) (cut : Nat → Nat) (w : World) (h : Rd w r R bg ps) (hA : Ats w r R g cap cut) (hN : Nm w r R b lg look) (hG : Gl w r)
    (hb : bg ≤ R.cs.size) (hp : ps ≤ R.cs.size) (hs : R.cs.size ≤ 1024) (hO : tagGo R look lg [] (tagA R ps) = .whole m L) :
    Calls Tryz.prog 163 #[.pointer (some ⟨r, 0, none⟩)] w fun e w' => (∃ v, e = .returned v ∧ IsStart w.heap.size (cut bg) (cut m) (tagNm R ps) L v w') ∧ Kept [r] w w' ∧ Rd w' r R bg m := by
  have C := hide (tag_any r R bg ps g cap b lg look cut w h hA hN hG hb hp hs)
  rw [hO] at C
  clear h hA hN hG hO
  generalize tagNm R ps = nm at *
  go_enter Tryz.func163, Tryz.ntmps163
  go_wp2_with fail
  refine C.out.mono ?_
  rintro e w1 ⟨⟨ao, cp, rfl, ho⟩, hk, hr⟩
  have k2 : Kept [] w1 (w1.alloc (.cells #[.int .i64 (cut bg : Int), .int .i64 (cut m : Int), .string nm, .slice ao L.length cp] 194)) := (Kept.refl _ _).alloc _
  have HR := hide (hr.kept k2 (by simp))
  have HK2 := hide (hk.trans (k2.mono (by simp)))
  have HO := hide (ho.alloc (.cells #[.int .i64 (cut bg : Int), .int .i64 (cut m : Int), .string nm, .slice ao L.length cp] 194))
  clear hk hr k2 ho
  go_wp2
  go_ret
  exact ⟨⟨_, rfl, ao, cp, rfl, HO.out⟩, HK2.out, HR.out⟩
set_option maxRecDepth 100000 in
set_option maxHeartbeats 1000000 in
theorem less_start (r : Nat) (R : RC) (bg ps g cap b lg m : Nat) (L : List (ByteArray × ByteArray)) (look : ByteArray → Option ByteArray) (cut : Nat → Nat) (w : World) (h : Rd w r R bg ps) (hA : Ats w r R g cap cut) (hN : Nm w r R b lg look) (hG : Gl w r)
    (hb : bg ≤ R.cs.size) (hp : ps ≤ R.cs.size) (hs : R.cs.size ≤ 1024) (hl : isLet R ps = true) (hO : tagGo R look lg [] (tagA R ps) = .whole m L) :
    Calls Tryz.prog 92 #[.pointer (some ⟨r, 0, none⟩)] w fun e w' => (∃ v, e = .returned v ∧ IsStart w.heap.size (cut bg) (cut m) (tagNm R ps) L v w') ∧ Kept [r] w w' ∧ Rd w' r R bg m := by
  have CL := isNext_letter r R bg ps w h hp hs
  rw [hl] at CL
  have HCL := hide CL
  have C := hide (fun q => startTag_whole r R bg ps g cap b lg m L look cut (w.drewN q) (show Rd (w.drewN q) r R bg ps from h) (hA.kept ((Kept.refl [r] w).drewN q)) (hN.kept ((Kept.refl [r] w).drewN q)) (hG.kept ((Kept.refl [r] w).drewN q)) hb hp hs hO)
  clear h hA hN hG hO CL hl
  generalize tagNm R ps = nm at *
  go_enter Tryz.func92, Tryz.ntmps92
  go_wp2_with fail
  refine HCL.out.mono ?_
  rintro e w1 ⟨rfl, q, rfl⟩
  go_wp2_with fail
  refine (C.out q).mono ?_
  rintro e w2 ⟨⟨v, rfl, ao, cp, rfl, ho⟩, hk, hr⟩
  have HO := hide ho
  have HK := hide (((Kept.refl [r] w).drewN q).trans hk)
  have HR := hide hr
  clear ho hk hr C
  go_wp2
  go_ret
  exact ⟨⟨_, rfl, ao, cp, rfl, HO.out⟩, HK.out, HR.out⟩
set_option maxRecDepth 100000 in
set_option maxHeartbeats 2000000 in
theorem next_start (r : Nat) (R : RC) (bg ps g cap b lg m : Nat) (L : List (ByteArray × ByteArray)) (look : ByteArray → Option ByteArray) (cut : Nat → Nat) (w : World) (h : Rd w r R bg ps) (hA : Ats w r R g cap cut) (hN : Nm w r R b lg look) (hG : Gl w r) (ho : R.ofT = ⟨#[]⟩) (hs : R.cs.size ≤ 1024)
    (hp : ps < R.cs.size) (h1 : pre (R.cs.extract ps R.cs.size) ⟨#[60]⟩ = true) (hl : isLet R (ps + 1) = true) (hO : tagGo R look lg [] (tagA R (ps + 1)) = .whole m L) :
    Calls Tryz.prog 56 #[.pointer (some ⟨r, 0, none⟩)] w fun e w' => (∃ v, e = .returned v ∧ IsStart w.heap.size (cut ps) (cut m) (tagNm R (ps + 1)) L v w') ∧ Kept [r] w w' ∧ Rd w' r R ps m := by
  have p := h.ps
  have b0 := h.bg
  have fz := h.free 2
  have hr := lt_of_block h
  obtain ⟨W0, hW0⟩ : ∃ W0, W0 = w.setCell ⟨r, 2, none⟩ (.int .i64 (ps : Int)) := ⟨_, rfl⟩
  have R0 : Rd W0 r R ps ps := by rw [hW0]; exact h.setBg _
  have K0 : Kept [r] w W0 := by rw [hW0]; exact (Kept.refl [r] w).setCell (.inl (by simp)) _
  have C1 := hide (atEnd_any r R ps ps W0 R0)
  have hne : decide (ps = R.cs.size) = false := decide_eq_false (by omega)
  rw [hne] at C1
  have C2 := hide (fun W (hk : Kept [] W0 W) => inText_no r R ps ps W (R0.kept hk (by simp)) ho)
  have C3 := hide (fun W (hk : Kept [] W0 W) => take_any r R ps ps ⟨#[60]⟩ W (R0.kept hk (by simp)) (by omega) hs (by decide))
  have ht : taken R ⟨#[60]⟩ ps = ps + 1 := by unfold taken; rw [if_pos h1]; rfl
  rw [ht, h1] at C3
  have C4 := hide (fun W (hk : Kept [r] W0 W) (hR : Rd W r R ps (ps + 1)) => less_start r R ps (ps + 1) g cap b lg m L look cut W hR ((hA.kept K0).kept hk) ((hN.kept K0).kept hk) ((hG.kept K0).kept hk) (by omega) (by omega) hs hl hO)
  have HK0 := hide K0
  have HR0 := hide R0
  have HW0 := hide hW0.symm
  have hz0 := K0.size
  clear h hA hN hG K0 R0 hW0 h1 ht hne hl hO
  generalize tagNm R (ps + 1) = nm at *
  go_enter Tryz.func56, Tryz.ntmps56
  go_wp2_with fail
  rw [HW0.out]
  clear p b0 fz hr
  refine C1.out.mono ?_
  rintro e w1 ⟨rfl, q, rfl⟩
  have C5 := hide (C2.out _ ((Kept.refl [] W0).drewN q))
  go_wp2_with fail
  refine C5.out.mono ?_
  rintro e w2 ⟨rfl, hk2⟩
  have C6 := hide (C3.out _ (((Kept.refl [] W0).drewN q).trans hk2))
  have HK2 := hide ((((Kept.refl [] W0).drewN q).trans hk2).mono (S' := [r]) (by simp))
  clear hk2 C5
  go_wp2_with fail
  refine C6.out.mono ?_
  rintro e w3 ⟨rfl, hk3, hr3⟩
  have C7 := hide (C4.out _ (HK2.out.trans hk3) hr3)
  have HK3 := hide (HK0.out.trans (HK2.out.trans hk3))
  clear hk3 hr3 C6
  go_wp2_with fail
  refine C7.out.mono ?_
  rintro e w4 ⟨⟨v, rfl, ao, cp, rfl, ho4⟩, hk4, hr4⟩
  have HO4 := hide (ownsRow_base ho4 HK3.out.size)
  have HK4 := hide (HK3.out.trans hk4)
  have HR4 := hide hr4
  clear hk4 hr4 ho4 C7
  go_wp2
  go_ret
  exact ⟨⟨_, rfl, ao, cp, rfl, HO4.out⟩, HK4.out, HR4.out⟩
end Go.Proofs.YtlhhgenpcjjajaaGreatDoor
