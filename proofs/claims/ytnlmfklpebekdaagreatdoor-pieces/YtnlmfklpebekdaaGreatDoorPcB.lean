import Derived.Test.YtnlmfklpebekdaaGreatDoorPcA
set_option linter.unusedSimpArgs false
set_option linter.unusedVariables false
namespace Go.Proofs.YtnlmfklpebekdaaGreatDoor
open Go.RowKit Go.PlainAid

theorem own_len {w : World} {base n : Nat} {v : Value} {xs : List Value} {e : TypeId} {z : Nat} (h : w.ownsRow base e z v n xs) : ∃ a c, v = .slice a n c := owns_shape h

set_option maxRecDepth 100000 in
set_option maxHeartbeats 4000000 in
theorem pieces_ok (s : ByteArray) (a b c : Int) (w : World) (hs : s.size ≤ 140737488355328) (ha : -9223372036854775808 ≤ a ∧ a ≤ 9223372036854775807) (hb : -9223372036854775808 ≤ b ∧ b ≤ 9223372036854775807) (hc : -9223372036854775808 ≤ c ∧ c ≤ 9223372036854775807)
    (hg : MaxL w) (he : errorType w) (hel : 0 < w.heap.size) :
    Calls Tryz.prog 3 #[.string s, .int .i64 a, .int .i64 b, .int .i64 c] w fun e w' => e = .returned (.bool true) ∧ Kept [] w w' := by
  by_cases hlong : 1024 < s.size
  · clear hg he
    go_enter Tryz.func3, Tryz.ntmps3
    go_wp2
    go_ret
    exact ⟨rfl, Kept.refl _ _⟩
  · have hs2 : s.size ≤ 1024 := by omega
    have P1 := hide (pick_any a w ha.1 ha.2)
    have P2 := hide (pick_any b w hb.1 hb.2)
    have P3 := hide (pick_any c w hc.1 hc.2)
    have HG := hide hg
    have HE := hide he
    clear hg he ha hb hc
    go_enter Tryz.func3, Tryz.ntmps3
    go_wp2_with fail
    refine P1.out.mono ?_
    rintro e w1 ⟨⟨m1, hm1, rfl⟩, rfl⟩
    go_wp2_with fail
    refine P2.out.mono ?_
    rintro e w2 ⟨⟨m2, hm2, rfl⟩, rfl⟩
    go_wp2_with fail
    refine P3.out.mono ?_
    rintro e w3 ⟨⟨m3, hm3, rfl⟩, rfl⟩
    obtain ⟨wa, hwa⟩ : ∃ wa, wa = w3.alloc (.cells #[.int .i64 (m1 : Int), .int .i64 (m2 : Int), .int .i64 (m3 : Int)] 3) := ⟨_, rfl⟩
    have ka : Kept [] w3 wa := by rw [hwa]; exact (Kept.refl _ _).alloc _
    have hbk : wa.heap[w3.heap.size]? = some (.cells #[.int .i64 (m1 : Int), .int .i64 (m2 : Int), .int .i64 (m3 : Int)] 3 (0, 0)) := by rw [hwa]; exact heap_alloc_at w3 _
    have hcu : Cuts wa w3.heap.size := by
      refine ⟨lt_of_block hbk, fun k hk => ?_⟩
      match k, hk with
      | 0, _ => exact ⟨m1, hm1, by rw [cell_at hbk]; rfl⟩
      | 1, _ => exact ⟨m2, hm2, by rw [cell_at hbk]; rfl⟩
      | 2, _ => exact ⟨m3, hm3, by rw [cell_at hbk]; rfl⟩
    have za : w3.heap.size < wa.heap.size := lt_of_block hbk
    have C1 := hide (kread_nil s wa hs2 (HG.out.kept ka (by simp)) (HE.out.kept ka (by simp)) (by omega))
    have HWA := hide hwa.symm
    have HKA := hide ka
    have HCU := hide hcu
    have HZA := hide za
    clear hwa ka hbk hcu P1 P2 P3 za
    go_wp2_with fail
    rw [HWA.out]
    refine C1.out.mono ?_
    rintro e wb ⟨av, bb, hpost⟩
    cases hO : readGo (rcOf s 16 av bb) (lookL KV) 8 (cutOf s) [] 0 with
    | stop at_ =>
      rw [hO] at hpost
      obtain ⟨rfl, hkb⟩ := hpost
      obtain ⟨wc, hwc⟩ : ∃ wc, wc = wb.alloc (.cells #[.int .i64 7, .int .i64 (at_ : Int), .slice none 0 0, .string ⟨#[]⟩, .slice none 0 0] 28) := ⟨_, rfl⟩
      have kc : Kept [] wb wc := by rw [hwc]; exact (Kept.refl _ _).alloc _
      have bc := show wc.heap[wb.heap.size]? = some (.cells #[.int .i64 7, .int .i64 (at_ : Int), .slice none 0 0, .string ⟨#[]⟩, .slice none 0 0] 28 (0, 0)) by rw [hwc]; exact heap_alloc_at wb _
      have kall : Kept [] w3 wc := (HKA.out.trans hkb).trans kc
      have C2 := hide (kread_cuts s w3.heap.size wc hs2 (HCU.out.kept (hkb.trans kc) (by simp)) (HG.out.kept kall (by simp)) (HE.out.kept kall (by simp)) (by have := kall.size; omega))
      have HWC := hide hwc.symm
      have HBC := hide bc
      have HKC := hide kall
      clear hwc kc bc kall hkb C1
      go_wp2_with fail
      rw [HWC.out]
      refine C2.out.mono ?_
      rintro e wd ⟨av', bb', hpost⟩
      rw [readGo_one s 16 av' av bb' bb, hO] at hpost
      obtain ⟨rfl, hkd⟩ := hpost
      have bd := hkd.at HBC.out (by simp)
      have c0 : wd.cell? ⟨wb.heap.size, 0, none⟩ = some (.int .i64 7) := by rw [cell_at bd]; rfl
      have c1 : wd.cell? ⟨wb.heap.size, 1, none⟩ = some (.int .i64 (at_ : Int)) := by rw [cell_at bd]; rfl
      have c2 : wd.cell? ⟨wb.heap.size, 2, none⟩ = some (.slice none 0 0) := by rw [cell_at bd]; rfl
      have c3 : wd.cell? ⟨wb.heap.size, 3, none⟩ = some (.string ⟨#[]⟩) := by rw [cell_at bd]; rfl
      have c4 : wd.cell? ⟨wb.heap.size, 4, none⟩ = some (.slice none 0 0) := by rw [cell_at bd]; rfl
      have hlt := lt_of_block bd
      have ke : Kept [] wd (wd.alloc (.cells #[.int .i64 7, .int .i64 (at_ : Int), .slice none 0 0, .string ⟨#[]⟩, .slice none 0 0] 28)) := (Kept.refl _ _).alloc _
      have CS := hide (same_any 7 at_ 0 0 (.slice none 0 0) (.slice none 0 0) [] (wd.alloc (.cells #[.int .i64 7, .int .i64 (at_ : Int), .slice none 0 0, .string ⟨#[]⟩, .slice none 0 0] 28)) (World.ownsRow_nil _ _ _ _) (World.ownsRow_nil _ _ _ _) (by simp))
      have HKD := hide ((HKC.out.trans hkd).trans ke)
      clear hkd bd ke C2 hO
      go_wp2_with fail
      refine CS.out.mono ?_
      rintro e we ⟨rfl, hke⟩
      have HKE := hide (HKD.out.trans hke)
      clear hke
      go_wp2
      go_ret
      exact ⟨rfl, HKE.out⟩
    | done L =>
      have hLl : L.length ≤ 4096 := by
        have h7 := readGo_len hO
        simp only [List.length_nil, Nat.zero_add] at h7
        have h8 : (csOf s).size ≤ 1024 := by rw [csOf_size]; have := ats_len s s.size; omega
        have h9 : (rcOf s 16 av bb).cs.size = (csOf s).size := rfl
        omega
      obtain ⟨cutf, hT⟩ := read_trail hO
      have hsome : s.size = 0 ∨ 0 < L.length := by
        rcases Nat.eq_zero_or_pos L.length with h | h
        · left
          have h1 := hT.last
          have h2 := hT.zero
          rw [h] at h1; omega
        · exact .inr h
      rw [hO] at hpost
      obtain ⟨v1, rfl, ow1, hkb⟩ := hpost
      obtain ⟨a1, k1, hv1⟩ := owns_shape ow1
      subst hv1
      obtain ⟨wc, hwc⟩ : ∃ wc, wc = wb.alloc (.cells #[.int .i64 0, .int .i64 (s.size : Int), .slice none 0 0, .string ⟨#[]⟩, .slice a1 L.length k1] 28) := ⟨_, rfl⟩
      have kc : Kept [] wb wc := by rw [hwc]; exact (Kept.refl _ _).alloc _
      have bc := show wc.heap[wb.heap.size]? = some (.cells #[.int .i64 0, .int .i64 (s.size : Int), .slice none 0 0, .string ⟨#[]⟩, .slice a1 L.length k1] 28 (0, 0)) by rw [hwc]; exact heap_alloc_at wb _
      have kall : Kept [] w3 wc := (HKA.out.trans hkb).trans kc
      have C2 := hide (kread_cuts s w3.heap.size wc hs2 (HCU.out.kept (hkb.trans kc) (by simp)) (HG.out.kept kall (by simp)) (HE.out.kept kall (by simp)) (by have := kall.size; omega))
      have HWC := hide hwc.symm
      have HBC := hide bc
      have HKC := hide kall
      have HO1 := hide (kc.ownsRow ow1 (fun _ _ => by simp))
      clear hwc kc bc kall hkb C1 ow1 hT
      go_wp2_with fail
      rw [HWC.out]
      refine C2.out.mono ?_
      rintro e wd ⟨av', bb', hpost⟩
      rw [readGo_one s 16 av' av bb' bb, hO] at hpost
      obtain ⟨v2, rfl, ow2, hkd⟩ := hpost
      obtain ⟨a2, k2, hv2⟩ := owns_shape ow2
      subst hv2
      have bd := hkd.at HBC.out (by simp)
      have c0 : wd.cell? ⟨wb.heap.size, 0, none⟩ = some (.int .i64 0) := by rw [cell_at bd]; rfl
      have c1 : wd.cell? ⟨wb.heap.size, 1, none⟩ = some (.int .i64 (s.size : Int)) := by rw [cell_at bd]; rfl
      have c2 : wd.cell? ⟨wb.heap.size, 2, none⟩ = some (.slice none 0 0) := by rw [cell_at bd]; rfl
      have c3 : wd.cell? ⟨wb.heap.size, 3, none⟩ = some (.string ⟨#[]⟩) := by rw [cell_at bd]; rfl
      have c4 : wd.cell? ⟨wb.heap.size, 4, none⟩ = some (.slice a1 L.length k1) := by rw [cell_at bd]; rfl
      have hlt := lt_of_block bd
      have ke : Kept [] wd (wd.alloc (.cells #[.int .i64 0, .int .i64 (s.size : Int), .slice none 0 0, .string ⟨#[]⟩, .slice a2 L.length k2] 28)) := (Kept.refl _ _).alloc _
      have CS := hide (same_any 0 s.size _ _ (.slice a1 L.length k1) (.slice a2 L.length k2) L (wd.alloc (.cells #[.int .i64 0, .int .i64 (s.size : Int), .slice none 0 0, .string ⟨#[]⟩, .slice a2 L.length k2] 28)) (ke.ownsRow (hkd.ownsRow HO1.out (fun _ _ => by simp)) (fun _ _ => by simp)) (ke.ownsRow ow2 (fun _ _ => by simp)) hLl)
      have HKD := hide ((HKC.out.trans hkd).trans ke)
      clear hkd bd ke C2 hO ow2
      rcases hsome with h0 | h0
      · have Hs := hide h0
        have CS' := CS.out
        rw [h0] at CS' c1
        have HCS := hide CS'
        clear CS CS' hLl
        go_wp2_with fail
        refine HCS.out.mono ?_
        rintro e we ⟨rfl, hke⟩
        rw [h0] at HKD
        have HKE := hide (HKD.out.trans hke)
        clear hke
        go_wp2
        go_ret
        exact ⟨rfl, HKE.out⟩
      · by_cases h9 : s.size = 0
        · have CS' := CS.out
          rw [h9] at CS' c1
          have HCS := hide CS'
          clear CS CS' hLl
          go_wp2_with fail
          refine HCS.out.mono ?_
          rintro e we ⟨rfl, hke⟩
          rw [h9] at HKD
          have HKE := hide (HKD.out.trans hke)
          clear hke
          go_wp2
          go_ret
          exact ⟨rfl, HKE.out⟩
        · go_wp2_with fail
          refine CS.out.mono ?_
          rintro e we ⟨rfl, hke⟩
          have HKE := hide (HKD.out.trans hke)
          clear hke
          go_wp2
          go_ret
          exact ⟨rfl, HKE.out⟩
end Go.Proofs.YtnlmfklpebekdaaGreatDoor
