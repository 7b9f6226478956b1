import Derived.Test.YtnlmfklpebekdaaGreatDoorRdX
set_option linter.unusedSimpArgs false
set_option linter.unusedVariables false
namespace Go.Proofs.YtnlmfklpebekdaaGreatDoor
open Go.RowKit Go.PlainAid

/-- How the reading of a tag ends. -/
inductive TagOut where
  | stop
  | lost
  | whole (e : Nat)
def skipBS (R : RC) (ps : Nat) : Nat := scan (fun c => !inSet ⟨#[32, 9, 10, 12, 47]⟩ c) R.cs ps
theorem skipBS_le {R : RC} {ps : Nat} (h : ps ≤ R.cs.size) : skipBS R ps ≤ R.cs.size := scan_le h
theorem skipBS_ge {R : RC} {ps : Nat} : ps ≤ skipBS R ps := scan_ge
def tagGo (R : RC) (ns : List ByteArray) (ps : Nat) : TagOut :=
  if h : skipBS R ps < R.cs.size then
    if pre (R.cs.extract (skipBS R ps) R.cs.size) ⟨#[62]⟩ = true then .whole (skipBS R ps + 1)
    else if tooMany R ns (skipBS R ps) = true then .stop
    else tagGo R (withAtt R ns (skipBS R ps)) (valEnd R (nameEnd R (skipBS R ps)))
  else .lost
  termination_by R.cs.size - ps
  decreasing_by
    have h1 := skipBS_ge (R := R) (ps := ps)
    have h2 := nameEnd_gt (R := R) (ps := skipBS R ps)
    have h3 := valEnd_ge (R := R) (ps := nameEnd R (skipBS R ps))
    omega
/-- Where a tag's name ends. -/
def tagA (R : RC) (ps : Nat) : Nat := scan (inSet ⟨#[32, 9, 10, 12, 47, 62]⟩) R.cs ps
theorem tagA_le {R : RC} {ps : Nat} (h : ps ≤ R.cs.size) : tagA R ps ≤ R.cs.size := scan_le h
theorem tagA_ge {R : RC} {ps : Nat} : ps ≤ tagA R ps := scan_ge
theorem withAtt_len {R : RC} {ns : List ByteArray} {ps : Nat} : (withAtt R ns ps).length ≤ ns.length + 1 := by
  unfold withAtt withAtt'; split <;> simp

theorem Rd.setOther {w : World} {r : Nat} {R : RC} {bg ps : Nat} (h : Rd w r R bg ps) {p : Addr} (hp : p.block ≠ r) (u : Value) : Rd (w.setCell p u) r R bg ps := (Below.heap_setCell w p u r (fun e => hp e.symm)).trans h

/-- What tag answers. -/
def TagPost (w : World) (r : Nat) (R : RC) (bg : Nat) (cut : Nat → Nat) (e : Ending) (w' : World) : TagOut → Prop
  | .stop => ∃ k, e = .panicked [{ v := .iface 68 (.pointer (some ⟨k, 0, none⟩)), recovered := false }] ∧ stopAt w' k 7 (cut bg) ∧ w.heap.size ≤ k ∧ Kept [r] w w'
  | .lost => e = .returned (.tuple #[.agg #[.int .i64 0, .int .i64 0, .string ⟨#[]⟩, .slice none 0 0], .bool false]) ∧ Kept [r] w w' ∧ Rd w' r R bg R.cs.size
  | .whole m => (∃ nm ao n cp, e = .returned (.tuple #[.agg #[.int .i64 (cut bg), .int .i64 (cut m), .string nm, .slice ao n cp], .bool true])) ∧ Kept [r] w w' ∧ Rd w' r R bg m

set_option maxRecDepth 100000 in
set_option maxHeartbeats 2000000 in
theorem tag_any (r : Nat) (R : RC) (bg ps g cap b lg : Nat) (look : ByteArray → Option ByteArray) (cut : Nat → Nat) (w : World) (h : Rd w r R bg ps) (hA : Ats w r R g cap cut) (hN : Nm w r R b lg look) (hG : Gl w r)
    (hb : bg ≤ R.cs.size) (hp : ps ≤ R.cs.size) (hs : R.cs.size ≤ 1024) :
    Calls Tryz.prog 66 #[.pointer (some ⟨r, 0, none⟩)] w fun e w' => TagPost w r R bg cut e w' (tagGo R [] (tagA R ps)) := by
  obtain ⟨O, hO⟩ : ∃ O, O = tagGo R [] (tagA R ps) := ⟨_, rfl⟩
  rw [← hO]
  have HO := hide hO
  clear hO
  have hr := lt_of_block h
  obtain ⟨w0, hw0⟩ : ∃ w0, w0 = w.alloc (.cells #[.int .i64 0, .int .i64 0, .string ⟨#[]⟩, .slice none 0 0] 138) := ⟨_, rfl⟩
  have hrb : w0.heap[w.heap.size]? = some (.cells #[.int .i64 0, .int .i64 0, .string ⟨#[]⟩, .slice none 0 0] 138 (0, 0)) := by rw [hw0]; exact heap_alloc_at w _
  have k0 : Kept [] w w0 := by rw [hw0]; exact (Kept.refl _ _).alloc _
  have z0 : w0.heap.size = w.heap.size + 1 := by rw [hw0]; simp
  have hR0 := h.kept k0 (by simp)
  have ha := tagA_le (R := R) hp
  have CU := hide (upToOne r R bg ps ⟨#[32, 9, 10, 12, 47, 62]⟩ w0 hR0 hp hs)
  have HA := hide (hA.kept (k0.mono (by simp)))
  have HN := hide (hN.kept (k0.mono (by simp)))
  have HG := hide (hG.kept (k0.mono (by simp)))
  have HW := hide hw0.symm
  have HK0 := hide k0
  have HRB := hide hrb
  have hez : (R.cs.extract ps (scan (inSet ⟨#[32, 9, 10, 12, 47, 62]⟩) R.cs ps)).size ≤ 1048576 := by simp; omega
  have HZ := hide z0
  clear h hA hN hG hw0 hrb k0 z0 hR0
  go_enter Tryz.func66, Tryz.ntmps66
  go_wp2_with fail
  rw [HW.out]
  refine (oneOf_any _ w0).mono ?_
  rintro e w1 ⟨rfl, rfl⟩
  go_wp2_with fail
  refine CU.out.mono ?_
  rintro e w2 ⟨rfl, hk2, hr2⟩
  have HK2 := hide hk2
  have HR2 : Hid (Rd w2 r R bg (tagA R ps)) := hr2
  have CR := hide (readName_any r _ w2 hez (HG.out.kept hk2))
  clear hk2 hr2 CU hez
  go_wp2_with fail
  refine CR.out.mono ?_
  rintro e w3 ⟨rfl, hk3⟩
  have HK3 := hide (HK2.out.trans (hk3.mono (by simp)))
  have HR3 := hide (HR2.out.kept hk3 (by simp))
  clear hk3 CR
  generalize noNul (small (R.cs.extract ps (scan (inSet ⟨#[32, 9, 10, 12, 47, 62]⟩) R.cs ps))) = nm
  obtain ⟨w4, hw4⟩ : ∃ w4, w4 = w3.alloc (.cells #[.int .i64 0, .int .i64 0, .string nm, .slice none 0 0] 138) := ⟨_, rfl⟩
  have k34 : Kept [] w3 w4 := by rw [hw4]; exact (Kept.refl _ _).alloc _
  have HT4 : Hid (TagAt w4 w0.heap.size w3.heap.size 0 0 nm (.slice none 0 0) []) := ⟨by rw [hw4]; exact heap_alloc_at w3 _, World.ownsRow_nil _ _ _ _⟩
  have HK4 := hide (HK3.out.trans (k34.mono (by simp)))
  have HR4 := hide (HR3.out.kept k34 (by simp))
  have HZ3 := hide HK3.out.size
  have HW4 := hide hw4.symm
  clear k34 hw4
  go_wp2_with fail
  rw [HW4.out]
  go_loopw [] (fun wr => ∃ (i : Nat) (av : Value) (L : List (ByteArray × ByteArray)), i ≤ R.cs.size ∧ L.length ≤ i ∧ tagGo R (L.map (·.1)) i = O ∧ TagAt wr w0.heap.size w3.heap.size 0 0 nm av L ∧ Kept [r] w0 wr ∧ Rd wr r R bg i) (fun wr => R.cs.size - (match wr.cell? ⟨r, 3, none⟩ with | some v => (intOf v).toNat | none => 0))
  case atStart => exact ⟨tagA R ps, _, [], ha, Nat.zero_le _, HO.out.symm, HT4.out, HK4.out, HR4.out⟩
  case round =>
    obtain ⟨i, av, L, hi, hLi, htg, hT, hkw, hrd⟩ := hrel
    have HTG := hide htg
    have HKW := hide hkw
    have CP := hide (passOver_any r R bg i ⟨#[32, 9, 10, 12, 47]⟩ wr hrd hi hs)
    have HT := hide hT
    have P0 := hrd.ps
    have hle := skipBS_le (R := R) hi
    have hge := skipBS_ge (R := R) (ps := i)
    clear htg hkw hrd hT
    go_wp2_with fail
    refine CP.out.mono ?_
    rintro e w5 ⟨rfl, hk5, hr5⟩
    have HR5 : Hid (Rd w5 r R bg (skipBS R i)) := hr5
    have HK5 := hide (HKW.out.trans hk5)
    have HT5 := hide (HT.out.kept hk5 (by have := HZ.out; omega) HZ3.out)
    have CE := atEnd_any r R bg (skipBS R i) w5 hr5
    clear hk5 hr5 CP
    by_cases hend : skipBS R i = R.cs.size
    · have eO : O = .lost := by rw [← HTG.out, tagGo, dif_neg (by omega)]
      have EO := hide eO
      have e3 : decide (skipBS R i = R.cs.size) = true := by simp [hend]
      rw [e3] at CE
      have HCE := hide CE
      have hb5 := HK5.out.at HRB.out (by simp; omega)
      have d0 : w5.cell? ⟨w.heap.size, 0, none⟩ = some (.int .i64 0) := by rw [cell_at hb5]; rfl
      have d1 : w5.cell? ⟨w.heap.size, 1, none⟩ = some (.int .i64 0) := by rw [cell_at hb5]; rfl
      have d2 : w5.cell? ⟨w.heap.size, 2, none⟩ = some (.string ⟨#[]⟩) := by rw [cell_at hb5]; rfl
      have d3 : w5.cell? ⟨w.heap.size, 3, none⟩ = some (.slice none 0 0) := by rw [cell_at hb5]; rfl
      have f0 := free_at hb5 0
      have f1 := free_at hb5 1
      have f2 := free_at hb5 2
      have f3 := free_at hb5 3
      clear CE e3 eO hb5
      go_wp2_with fail
      refine HCE.out.mono ?_
      rintro e w6 ⟨rfl, q, rfl⟩
      go_wp2
      have HKW2 := hide ((HK0.out.mono (S' := [r]) (by simp)).trans HK5.out)
      have hrn : w.heap.size ≠ r := by omega
      rw [EO.out]
      refine bodyPost_ret (v := .tuple #[.agg #[.int .i64 0, .int .i64 0, .string ⟨#[]⟩, .slice none 0 0], .bool false]) ?_ rfl ⟨rfl, ?_, ?_⟩
      · simp [results, Tryz.results66, asAddr, Result.andThen, go_sem, d0, d1, d2, d3]
      · exact ((((HKW2.out.drewN q).setCell (.inr (Nat.le_refl _)) _).setCell (.inr (Nat.le_refl _)) _).setCell (.inr (Nat.le_refl _)) _).setCell (.inr (Nat.le_refl _)) _
      · have h6 : Rd (w5.drewN q) r R bg R.cs.size := by rw [← hend]; exact HR5.out
        exact (((h6.setOther hrn _).setOther hrn _).setOther hrn _).setOther hrn _
    · have e3 : decide (skipBS R i = R.cs.size) = false := by simp [hend]
      have hlt : skipBS R i < R.cs.size := by omega
      rw [e3] at CE
      have HCE := hide CE
      clear CE e3
      cases hgt : pre (R.cs.extract (skipBS R i) R.cs.size) ⟨#[62]⟩
      · have htk : taken R ⟨#[62]⟩ (skipBS R i) = skipBS R i := by unfold taken; rw [if_neg (by simp [hgt])]
        have CT := fun q => take_any r R bg (skipBS R i) ⟨#[62]⟩ (w5.drewN q) (show Rd (w5.drewN q) r R bg _ from HR5.out) hle hs (by decide)
        rw [hgt, htk] at CT
        have HCT := hide CT
        clear CT htk
        go_wp2_with fail
        refine HCE.out.mono ?_
        rintro e w6 ⟨rfl, q, rfl⟩
        go_wp2_with fail
        refine (HCT.out q).mono ?_
        rintro e w7 ⟨rfl, hk7, hr7⟩
        have HK7 := hide ((HK5.out.drewN q).trans hk7)
        have hT7 := (HT5.out.kept ((Kept.refl [r] w5).drewN q) (by have := HZ.out; omega) HZ3.out).kept hk7 (by have := HZ.out; omega) HZ3.out
        have CA := hide (attribute_any r w3.heap.size R bg (skipBS R i) g cap b lg look cut 0 0 nm av L w0 w7 HK7.out (by have := HZ.out; omega) HZ3.out hr7 (HA.out.kept HK7.out) (HN.out.kept HK7.out) (HG.out.kept HK7.out) hT7 hb hlt hs (by omega))
        clear hk7 hr7 hT7 HCT HCE
        go_wp2_with fail
        refine CA.out.mono ?_
        intro e w8 hpost
        by_cases htm : tooMany R (L.map (·.1)) (skipBS R i) = true
        · rw [if_pos htm] at hpost
          obtain ⟨k, rfl, hst, hkk, hk8⟩ := hpost
          have eO : O = .stop := by rw [← HTG.out, tagGo, dif_pos hlt, if_neg (by simp [hgt]), if_pos htm]
          have HF : Hid (TagPost w r R bg cut (.panicked [{ v := .iface 68 (.pointer (some ⟨k, 0, none⟩)), recovered := false }]) w8 O) := by
            rw [eO]; exact ⟨k, rfl, hst, by have := HZ.out; omega, (HK0.out.mono (S' := [r]) (by simp)).trans hk8⟩
          clear hst hk8 eO CA
          go_wp2
          exact ⟨rfl, HF.out⟩
        · rw [if_neg htm] at hpost
          obtain ⟨rfl, av', L', hL', hT8, hk8, hr8⟩ := hpost
          have hO8 : tagGo R (L'.map (·.1)) (valEnd R (nameEnd R (skipBS R i))) = O := by
            rw [hL', ← HTG.out, tagGo.eq_1 R (L.map (·.1)) i, dif_pos hlt, if_neg (by simp [hgt]), if_neg htm]
          have hl8 : L'.length ≤ L.length + 1 := by
            have := withAtt_len (R := R) (ns := L.map (·.1)) (ps := skipBS R i)
            rw [← hL'] at this; simpa using this
          have h2 := nameEnd_gt (R := R) (ps := skipBS R i)
          have h3 := valEnd_ge (R := R) (ps := nameEnd R (skipBS R i))
          have h4 := valEnd_le (R := R) (nameEnd_le (R := R) hlt)
          have HREL : Hid (∃ (i' : Nat) (av : Value) (L : List (ByteArray × ByteArray)), i' ≤ R.cs.size ∧ L.length ≤ i' ∧ tagGo R (L.map (·.1)) i' = O ∧ TagAt w8 w0.heap.size w3.heap.size 0 0 nm av L ∧ Kept [r] w0 w8 ∧ Rd w8 r R bg i') :=
            ⟨_, av', L', h4, by omega, hO8, hT8, hk8, hr8⟩
          have P8 := hr8.ps
          have hlt8 : R.cs.size - valEnd R (nameEnd R (skipBS R i)) < R.cs.size - i := by omega
          clear hT8 hk8 hr8 hO8 hl8 hL' CA h2 h3 h4
          go_wp2
          go_roundw
          case rel => exact HREL.out
          case measure => rw [P8, P0]; simpa [intOf] using hlt8
      · have htk : taken R ⟨#[62]⟩ (skipBS R i) = skipBS R i + 1 := by unfold taken; rw [if_pos hgt]; rfl
        have CT := fun q => take_any r R bg (skipBS R i) ⟨#[62]⟩ (w5.drewN q) (show Rd (w5.drewN q) r R bg _ from HR5.out) hle hs (by decide)
        rw [hgt, htk] at CT
        have HCT := hide CT
        have eO : O = .whole (skipBS R i + 1) := by rw [← HTG.out, tagGo, dif_pos hlt, if_pos hgt]
        have EO := hide eO
        clear CT htk eO
        go_wp2_with fail
        refine HCE.out.mono ?_
        rintro e w6 ⟨rfl, q, rfl⟩
        go_wp2_with fail
        refine (HCT.out q).mono ?_
        rintro e w7 ⟨rfl, hk7, hr7⟩
        have HK7 := hide ((HK5.out.drewN q).trans hk7)
        have hT7 := (HT5.out.kept ((Kept.refl [r] w5).drewN q) (by have := HZ.out; omega) HZ3.out).kept hk7 (by have := HZ.out; omega) HZ3.out
        have CP2 := hide (place_any r R bg (skipBS R i + 1) g cap cut w7 hr7 (HA.out.kept HK7.out) hb (by omega) hs)
        have HR7 := hide hr7
        have HT7 := hide hT7
        clear hk7 hr7 hT7 HCT HCE
        go_wp2_with fail
        refine CP2.out.mono ?_
        rintro e w8 ⟨rfl, hk8⟩
        have HK8 := hide ((HK0.out.mono (S' := [r]) (by simp)).trans (HK7.out.trans (hk8.mono (by simp))))
        have hT8 := HT7.out.kept (hk8.mono (by simp)) (r := r) (by have := HZ.out; omega) HZ3.out
        have HR8 := hide (HR7.out.kept hk8 (by simp))
        have hb8 := (HK7.out.trans (hk8.mono (by simp))).at HRB.out (by simp; omega)
        obtain ⟨ao, cp, hav⟩ := owns_shape hT8.own
        subst hav
        have t0 : w8.cell? ⟨w3.heap.size, 0, none⟩ = some (.int .i64 0) := by rw [cell_at hT8.blk]; rfl
        have t1 : w8.cell? ⟨w3.heap.size, 1, none⟩ = some (.int .i64 0) := by rw [cell_at hT8.blk]; rfl
        have t2 : w8.cell? ⟨w3.heap.size, 2, none⟩ = some (.string nm) := by rw [cell_at hT8.blk]; rfl
        have t3 : w8.cell? ⟨w3.heap.size, 3, none⟩ = some (.slice ao L.length cp) := by rw [cell_at hT8.blk]; rfl
        have g0 := free_at hT8.blk 0
        have g1 := free_at hT8.blk 1
        have d0 : w8.cell? ⟨w.heap.size, 0, none⟩ = some (.int .i64 0) := by rw [cell_at hb8]; rfl
        have d1 : w8.cell? ⟨w.heap.size, 1, none⟩ = some (.int .i64 0) := by rw [cell_at hb8]; rfl
        have d2 : w8.cell? ⟨w.heap.size, 2, none⟩ = some (.string ⟨#[]⟩) := by rw [cell_at hb8]; rfl
        have d3 : w8.cell? ⟨w.heap.size, 3, none⟩ = some (.slice none 0 0) := by rw [cell_at hb8]; rfl
        have f0 := free_at hb8 0
        have f1 := free_at hb8 1
        have f2 := free_at hb8 2
        have f3 := free_at hb8 3
        have hne : w.heap.size ≠ w3.heap.size := by have := HZ3.out; have := HZ.out; omega
        have hne2 : w3.heap.size ≠ w.heap.size := fun h => hne h.symm
        clear hT8 hb8 hk8 CP2
        go_wp2
        rw [EO.out]
        have hrn : w.heap.size ≠ r := by omega
        have hrn3 : w3.heap.size ≠ r := by have := HZ3.out; have := HZ.out; omega
        have hl3 : w.heap.size ≤ w3.heap.size := by have := HZ3.out; have := HZ.out; omega
        refine bodyPost_ret (v := .tuple #[.agg #[.int .i64 (cut bg : Int), .int .i64 (cut (skipBS R i + 1) : Int), .string nm, .slice ao L.length cp], .bool true]) ?_ rfl ⟨⟨_, _, _, _, rfl⟩, ?_, ?_⟩
        · simp [results, Tryz.results66, asAddr, Result.andThen, go_sem, d0, d1, d2, d3]
        · exact (((((HK8.out.setCell (.inr hl3) _).setCell (.inr hl3) _).setCell (.inr (Nat.le_refl _)) _).setCell (.inr (Nat.le_refl _)) _).setCell (.inr (Nat.le_refl _)) _).setCell (.inr (Nat.le_refl _)) _
        · exact (((((HR8.out.setOther hrn3 _).setOther hrn3 _).setOther hrn _).setOther hrn _).setOther hrn _).setOther hrn _
end Go.Proofs.YtnlmfklpebekdaaGreatDoor
