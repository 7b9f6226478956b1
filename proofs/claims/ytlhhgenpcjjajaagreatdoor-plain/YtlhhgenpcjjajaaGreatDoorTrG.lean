import Derived.Test.YtlhhgenpcjjajaaGreatDoorTrB
import Derived.Test.YtlhhgenpcjjajaaGreatDoorLsI
import Derived.Test.YtlhhgenpcjjajaaGreatDoorShelf
import Derived.Lib.ItoaMem
set_option linter.unusedSimpArgs false
set_option linter.unusedVariables false
namespace Go.Proofs.YtlhhgenpcjjajaaGreatDoor
open Go.RowKit
theorem row_del {base : Nat} {w' : World} {g cap i : Nat} {cur cur' : Array Value} {ns : List Nd} (hi : i < ns.length) (hb : base ≤ g) (hc : w'.heap[g]? = some (.cells cur' 142 (0, 0))) (hz : cur'.size = cap) (hn : ns.length ≤ cap) (hm : cap ≤ maxLen) (ht : cur.toList.take ns.length = ns.map Nd.val) (hd : cur'.toList.take (ns.length - 1) = (cur.toList.take ns.length).take i ++ (cur.toList.take ns.length).drop (i + 1)) :
    w'.ownsRow base 142 1 (.slice (some ⟨g, 0, none⟩) (ns.length - 1) cap) (ns.eraseIdx i).length ((ns.eraseIdx i).map Nd.val) := by
  have hl : (ns.eraseIdx i).length = ns.length - 1 := by rw [List.length_eraseIdx_of_lt hi]
  have he : (ns.eraseIdx i).map Nd.val = (cur.toList.take ns.length).take i ++ (cur.toList.take ns.length).drop (i + 1) := by
    rw [ht, List.eraseIdx_eq_take_drop_succ, List.map_append, List.map_take, List.map_drop]
  refine ⟨by simp, .inr ⟨g, cap, cur', by rw [hl], hb, hc, by rw [hl]; omega, hm, by rw [Nat.mul_one]; exact hz, ?_⟩⟩
  rw [hl, Nat.mul_one, hd, he]
structure TakeI (base j p i g cap : Nat) (nm2 : ByteArray) (av2 : Value) (par2 : Option Nat) (ns2 : List Nd) (cur : Array Value) (w : World) (b0 b1 b2 b3 b4 b5 b6 b7 b8 b9 b10 b11 b12 b13 b14 b15 b16 b17 : Bool) (s14 s15 s16 s17 s18 s19 s20 s21 s22 s23 s24 s25 s26 s27 s28 s29 s30 : Value) (W : World) : Prop where
  f0 : b0 = true → s14 = .pointer (some ⟨j, 0, none⟩)
  f1 : b1 = true → s15 = .pointer (some ⟨j, 0, none⟩)
  f2 : b2 = true → s16 = .pointer (some ⟨j, 2, none⟩)
  f3 : b3 = true → s17 = .pointer (some ⟨p, 0, none⟩)
  f4 : b4 = true → s18 = .pointer (some ⟨j, 0, none⟩)
  f5 : b5 = true → s19 = .pointer (some ⟨j, 0, none⟩)
  f6 : b6 = true → s20 = .pointer (some ⟨j, 2, none⟩)
  f7 : b7 = true → s21 = .pointer (some ⟨p, 0, none⟩)
  f8 : b8 = true → s22 = .pointer (some ⟨p, 0, none⟩)
  f9 : b9 = true → s23 = .pointer (some ⟨p, 3, none⟩)
  f10 : b10 = true → s24 = .slice (some ⟨g, 0, none⟩) ns2.length cap
  f11 : b11 = true → s25 = .int .i64 (i : Int)
  f12 : b12 = true → s26 = .int .i64 (i : Int)
  f13 : b13 = true → s27 = .int .i64 ((i : Int) + 1)
  f14 : b14 = true → s28 = .slice (some ⟨g, 0, none⟩) (ns2.length - 1) cap
  f15 : b15 = true → s29 = .pointer (some ⟨p, 0, none⟩)
  f16 : b16 = true → s30 = .pointer (some ⟨p, 3, none⟩)
  d : b17 = true → b14 = true
  dd : b17 = true → b10 = true ∧ b14 = true
  wi : if b17 then (∃ kv2', El base W p nm2 av2 par2 kv2' (ns2.eraseIdx i) ∧ kv2'.ownBlock = some g) ∧ Kept [p, g] w W else if b14 then Kept [g] w W ∧ ∃ cur', W.heap[g]? = some (.cells cur' 142 (0, 0)) ∧ cur'.size = cap ∧ cur'.toList.take (ns2.length - 1) = (cur.toList.take ns2.length).take i ++ (cur.toList.take ns2.length).drop (i + 1) else Kept [] w W
theorem TakeI.gen {base j p i g cap : Nat} {nm2 : ByteArray} {av2 : Value} {par2 : Option Nat} {ns2 : List Nd} {cur : Array Value} {w : World} {b0 b1 b2 b3 b4 b5 b6 b7 b8 b9 b10 b11 b12 b13 b14 b15 b16 b17 : Bool} {s14 s15 s16 s17 s18 s19 s20 s21 s22 s23 s24 s25 s26 s27 s28 s29 s30 : Value} {W : World} (h : TakeI base j p i g cap nm2 av2 par2 ns2 cur w b0 b1 b2 b3 b4 b5 b6 b7 b8 b9 b10 b11 b12 b13 b14 b15 b16 b17 s14 s15 s16 s17 s18 s19 s20 s21 s22 s23 s24 s25 s26 s27 s28 s29 s30 W) (hb : b17 = false) : Kept [g] w W := by
  have := h.wi
  subst hb
  cases b14 with
  | false => exact Kept.mono this (by simp)
  | true => exact this.1
set_option maxHeartbeats 8000000 in
set_option maxRecDepth 100000 in
theorem takeOut_yes (base j p i : Nat) (name nm2 : ByteArray) (av kv av2 kv2 : Value) (par2 : Option Nat) (ns ns2 : List Nd) (w : World) (h : El base w j name av (some p) kv ns) (hp : El base w p nm2 av2 par2 kv2 ns2) (hn : ∀ x ∈ ns2, IsNd w x) (hjp : j ≠ p) (hap : ∀ g, kv.ownBlock = some g → kv2.ownBlock ≠ some g) (hi : i < ns2.length) (hpos : posN ns2 (Nd.isEl j) = (i : Int)) :
    Calls Tryz.prog 374 #[.pointer (some ⟨j, 0, none⟩)] w fun e w' => e = .returned (.tuple #[]) ∧ (∃ kv2', El base w' p nm2 av2 par2 kv2' (ns2.eraseIdx i) ∧ kv2'.ownBlock = kv2.ownBlock) ∧ El base w' j name av none kv ns ∧ Kept (j :: p :: kv2.ownBlock.toList) w w' := by
  obtain ⟨g, cap, cur, rfl, hbg, hcur, hnc, hmx, hsz, htk⟩ : ∃ g cap cur, kv2 = .slice (some ⟨g, 0, none⟩) ns2.length cap ∧ base ≤ g ∧ w.heap[g]? = some (.cells cur 142 (0, 0)) ∧ ns2.length ≤ cap ∧ cap ≤ maxLen ∧ cur.size = cap ∧ cur.toList.take ns2.length = ns2.map Nd.val := by
    rcases hp.row.2 with ⟨_, e0⟩ | ⟨g, cap, cur, e, hb, hcur, hnc, hm, hs, ht⟩
    · omega
    · exact ⟨g, cap, cur, e, hb, hcur, hnc, hm, by simpa using hs, by simpa using ht⟩
  have CI := hide (indexOf_ok base p j nm2 av2 _ par2 ns2 w hp hn h.isNd)
  rw [hpos] at CI
  have hgp : g ≠ p := by have := hp.own_ne hp.blk (by decide); simpa [Value.ownBlock] using this
  have hgj : g ≠ j := by have := hp.own_ne h.blk (by decide); simpa [Value.ownBlock] using this
  have c2 : w.cell? ⟨j, 2, none⟩ = some (.pointer (some ⟨p, 0, none⟩)) := (cell_at h.blk 2).trans rfl
  have CD : Hid (∀ (W : World), Kept [] w W → Calls Tryz.prog 386 #[.slice (some ⟨g, 0, none⟩) ns2.length cap, .int .i64 (i : Int), .int .i64 ((i : Int) + 1)] W fun e w' => e = .returned (.slice (some ⟨g, 0, none⟩) (ns2.length - 1) cap) ∧
      ∃ cur', w'.heap[g]? = some (.cells cur' 142 (0, 0)) ∧ cur'.size = cap ∧ cur'.toList.take (ns2.length - 1) = (cur.toList.take ns2.length).take i ++ (cur.toList.take ns2.length).drop (i + 1) ∧ Kept [g] W w') := hide (fun W hk => by
    rw [show ((i : Int) + 1) = ((i + 1 : Nat) : Int) by omega]
    have hdd := delN_ok g cap i (i + 1) ns2.length cur W (hk.at hcur (by simp)) hnc hsz (by omega) (by omega) hp.le (by rw [htk]; exact nds_one ns2)
    rw [show i + 1 - i = 1 by omega] at hdd
    exact hdd)
  have hi0 : (0 : Int) ≤ (i : Int) := by omega
  have hile : (i : Int) < 1048576 := by have := hp.le; omega
  have H := hide h
  have HP := hide hp
  have HAP := hide hap
  have HNC := hide hnc
  have HMX := hide hmx
  have HTK := hide htk
  have HI := hide hi
  have HBG := hide hbg
  have HJP := hide hjp
  have HGP := hide hgp
  have HGJ := hide hgj
  clear h hp hn hap hnc hmx htk hi hbg hjp hgp hgj hcur hsz hpos
  go_enter Tryz.func374, Tryz.ntmps374
  go_wp2_with fail
  refine CI.out.mono ?_
  rintro e w1 ⟨rfl, hk1⟩
  have HK1 := hide hk1
  have d2 : w1.cell? ⟨j, 2, none⟩ = some (.pointer (some ⟨p, 0, none⟩)) := (cell_at (hk1.at H.out.blk (by simp)) 2).trans rfl
  have d3 : w1.cell? ⟨p, 3, none⟩ = some (.slice (some ⟨g, 0, none⟩) ns2.length cap) := (cell_at (hk1.at HP.out.blk (by simp)) 3).trans rfl
  clear hk1 c2
  go_wp2_with fail
  refine wp_region_any (by kernel_rfl) ?_
  change wpAny _ _ _ _ _ _ _ (World.drew _)
  refine wpAny_inv (I := fun listed a W => ∃ b0 b1 b2 b3 b4 b5 b6 b7 b8 b9 b10 b11 b12 b13 b14 b15 b16 b17 s14 s15 s16 s17 s18 s19 s20 s21 s22 s23 s24 s25 s26 s27 s28 s29 s30, listed = #[b0, b1, b2, b3, b4, b5, b6, b7, b8, b9, b10, b11, b12, b13, b14, b15, b16, b17] ∧ a = ⟨#[.pointer (some ⟨j, 0, none⟩), undef, .int .i64 (i : Int), .pointer (some ⟨j, 0, none⟩), .pointer (some ⟨j, 0, none⟩), .pointer (some ⟨j, 2, none⟩), .pointer (some ⟨p, 0, none⟩), .bool true, .pointer (some ⟨j, 0, none⟩), .pointer (some ⟨j, 0, none⟩), .pointer (some ⟨j, 2, none⟩), .pointer (some ⟨p, 0, none⟩), .pointer (some ⟨j, 0, none⟩), .int .i64 (i : Int), s14, s15, s16, s17, s18, s19, s20, s21, s22, s23, s24, s25, s26, s27, s28, s29, s30, undef, undef, undef], []⟩ ∧ TakeI base j p i g cap nm2 av2 par2 ns2 cur w b0 b1 b2 b3 b4 b5 b6 b7 b8 b9 b10 b11 b12 b13 b14 b15 b16 b17 s14 s15 s16 s17 s18 s19 s20 s21 s22 s23 s24 s25 s26 s27 s28 s29 s30 W) ?_ ?_ _ _ _ _ ?_ ?_
  · rintro listed a W k ⟨b0, b1, b2, b3, b4, b5, b6, b7, b8, b9, b10, b11, b12, b13, b14, b15, b16, b17, s14, s15, s16, s17, s18, s19, s20, s21, s22, s23, s24, s25, s26, s27, s28, s29, s30, rfl, rfl, hI⟩ hi
    simp only [Region.ready, List.mem_filter, List.mem_range] at hi
    obtain ⟨hlt, hc⟩ := hi
    have hlt : k < 18 := hlt
    obtain rfl | rfl | rfl | rfl | rfl | rfl | rfl | rfl | rfl | rfl | rfl | rfl | rfl | rfl | rfl | rfl | rfl | rfl : k = 0 ∨ k = 1 ∨ k = 2 ∨ k = 3 ∨ k = 4 ∨ k = 5 ∨ k = 6 ∨ k = 7 ∨ k = 8 ∨ k = 9 ∨ k = 10 ∨ k = 11 ∨ k = 12 ∨ k = 13 ∨ k = 14 ∨ k = 15 ∨ k = 16 ∨ k = 17 := by omega
    all_goals simp [Region.binds] at hc
    · refine wpOp_step rfl ?_
      intro K' hK'
      go_simp
      refine hK' _ _ ⟨_, _, _, _, _, _, _, _, _, _, _, _, _, _, _, _, _, _, _, _, _, _, _, _, _, _, _, _, _, _, _, _, _, _, _, rfl, rfl, ?_⟩
      exact ⟨fun _ => rfl, hI.f1, hI.f2, hI.f3, hI.f4, hI.f5, hI.f6, hI.f7, hI.f8, hI.f9, hI.f10, hI.f11, hI.f12, hI.f13, hI.f14, hI.f15, hI.f16, hI.d, hI.dd, hI.wi⟩
    · refine wpOp_step rfl ?_
      intro K' hK'
      have e0 := hI.f0 (by simp [hc])
      subst e0
      go_simp
      refine hK' _ _ ⟨_, _, _, _, _, _, _, _, _, _, _, _, _, _, _, _, _, _, _, _, _, _, _, _, _, _, _, _, _, _, _, _, _, _, _, rfl, rfl, ?_⟩
      exact ⟨hI.f0, fun _ => rfl, hI.f2, hI.f3, hI.f4, hI.f5, hI.f6, hI.f7, hI.f8, hI.f9, hI.f10, hI.f11, hI.f12, hI.f13, hI.f14, hI.f15, hI.f16, hI.d, hI.dd, hI.wi⟩
    · refine wpOp_step rfl ?_
      intro K' hK'
      have e1 := hI.f1 (by simp [hc])
      subst e1
      go_simp
      refine hK' _ _ ⟨_, _, _, _, _, _, _, _, _, _, _, _, _, _, _, _, _, _, _, _, _, _, _, _, _, _, _, _, _, _, _, _, _, _, _, rfl, rfl, ?_⟩
      exact ⟨hI.f0, hI.f1, fun _ => rfl, hI.f3, hI.f4, hI.f5, hI.f6, hI.f7, hI.f8, hI.f9, hI.f10, hI.f11, hI.f12, hI.f13, hI.f14, hI.f15, hI.f16, hI.d, hI.dd, hI.wi⟩
    · refine wpOp_step rfl ?_
      intro K' hK'
      have e2 := hI.f2 (by simp [hc])
      subst e2
      have c0 : W.cell? ⟨j, 2, none⟩ = some (.pointer (some ⟨p, 0, none⟩)) := by
        have := hI.wi
        split at this
        · exact (cell_at (this.2.at H.out.blk (by have := HGJ.out; have := HJP.out; simp; omega)) 2).trans rfl
        · rename_i hq
          have q := hI.gen (by simpa using hq)
          exact (cell_at (q.at H.out.blk (by have := HGJ.out; simp; omega)) 2).trans rfl
      go_simp
      refine hK' _ _ ⟨_, _, _, _, _, _, _, _, _, _, _, _, _, _, _, _, _, _, _, _, _, _, _, _, _, _, _, _, _, _, _, _, _, _, _, rfl, rfl, ?_⟩
      exact ⟨hI.f0, hI.f1, hI.f2, fun _ => rfl, hI.f4, hI.f5, hI.f6, hI.f7, hI.f8, hI.f9, hI.f10, hI.f11, hI.f12, hI.f13, hI.f14, hI.f15, hI.f16, hI.d, hI.dd, hI.wi⟩
    · refine wpOp_step rfl ?_
      intro K' hK'
      go_simp
      refine hK' _ _ ⟨_, _, _, _, _, _, _, _, _, _, _, _, _, _, _, _, _, _, _, _, _, _, _, _, _, _, _, _, _, _, _, _, _, _, _, rfl, rfl, ?_⟩
      exact ⟨hI.f0, hI.f1, hI.f2, hI.f3, fun _ => rfl, hI.f5, hI.f6, hI.f7, hI.f8, hI.f9, hI.f10, hI.f11, hI.f12, hI.f13, hI.f14, hI.f15, hI.f16, hI.d, hI.dd, hI.wi⟩
    · refine wpOp_step rfl ?_
      intro K' hK'
      have e4 := hI.f4 (by simp [hc])
      subst e4
      go_simp
      refine hK' _ _ ⟨_, _, _, _, _, _, _, _, _, _, _, _, _, _, _, _, _, _, _, _, _, _, _, _, _, _, _, _, _, _, _, _, _, _, _, rfl, rfl, ?_⟩
      exact ⟨hI.f0, hI.f1, hI.f2, hI.f3, hI.f4, fun _ => rfl, hI.f6, hI.f7, hI.f8, hI.f9, hI.f10, hI.f11, hI.f12, hI.f13, hI.f14, hI.f15, hI.f16, hI.d, hI.dd, hI.wi⟩
    · refine wpOp_step rfl ?_
      intro K' hK'
      have e5 := hI.f5 (by simp [hc])
      subst e5
      go_simp
      refine hK' _ _ ⟨_, _, _, _, _, _, _, _, _, _, _, _, _, _, _, _, _, _, _, _, _, _, _, _, _, _, _, _, _, _, _, _, _, _, _, rfl, rfl, ?_⟩
      exact ⟨hI.f0, hI.f1, hI.f2, hI.f3, hI.f4, hI.f5, fun _ => rfl, hI.f7, hI.f8, hI.f9, hI.f10, hI.f11, hI.f12, hI.f13, hI.f14, hI.f15, hI.f16, hI.d, hI.dd, hI.wi⟩
    · refine wpOp_step rfl ?_
      intro K' hK'
      have e6 := hI.f6 (by simp [hc])
      subst e6
      have c0 : W.cell? ⟨j, 2, none⟩ = some (.pointer (some ⟨p, 0, none⟩)) := by
        have := hI.wi
        split at this
        · exact (cell_at (this.2.at H.out.blk (by have := HGJ.out; have := HJP.out; simp; omega)) 2).trans rfl
        · rename_i hq
          have q := hI.gen (by simpa using hq)
          exact (cell_at (q.at H.out.blk (by have := HGJ.out; simp; omega)) 2).trans rfl
      go_simp
      refine hK' _ _ ⟨_, _, _, _, _, _, _, _, _, _, _, _, _, _, _, _, _, _, _, _, _, _, _, _, _, _, _, _, _, _, _, _, _, _, _, rfl, rfl, ?_⟩
      exact ⟨hI.f0, hI.f1, hI.f2, hI.f3, hI.f4, hI.f5, hI.f6, fun _ => rfl, hI.f8, hI.f9, hI.f10, hI.f11, hI.f12, hI.f13, hI.f14, hI.f15, hI.f16, hI.d, hI.dd, hI.wi⟩
    · refine wpOp_step rfl ?_
      intro K' hK'
      have e7 := hI.f7 (by simp [hc])
      subst e7
      go_simp
      refine hK' _ _ ⟨_, _, _, _, _, _, _, _, _, _, _, _, _, _, _, _, _, _, _, _, _, _, _, _, _, _, _, _, _, _, _, _, _, _, _, rfl, rfl, ?_⟩
      exact ⟨hI.f0, hI.f1, hI.f2, hI.f3, hI.f4, hI.f5, hI.f6, hI.f7, fun _ => rfl, hI.f9, hI.f10, hI.f11, hI.f12, hI.f13, hI.f14, hI.f15, hI.f16, hI.d, hI.dd, hI.wi⟩
    · refine wpOp_step rfl ?_
      intro K' hK'
      have e8 := hI.f8 (by simp [hc])
      subst e8
      go_simp
      refine hK' _ _ ⟨_, _, _, _, _, _, _, _, _, _, _, _, _, _, _, _, _, _, _, _, _, _, _, _, _, _, _, _, _, _, _, _, _, _, _, rfl, rfl, ?_⟩
      exact ⟨hI.f0, hI.f1, hI.f2, hI.f3, hI.f4, hI.f5, hI.f6, hI.f7, hI.f8, fun _ => rfl, hI.f10, hI.f11, hI.f12, hI.f13, hI.f14, hI.f15, hI.f16, hI.d, hI.dd, hI.wi⟩
    · refine wpOp_step rfl ?_
      intro K' hK'
      have e9 := hI.f9 (by simp [hc])
      subst e9
      have hb17 : b17 = false := by
        cases b17 with
        | false => rfl
        | true => exact absurd (hI.dd rfl).1 (by simp [hc])
      have q := hI.gen hb17
      have c0 : W.cell? ⟨p, 3, none⟩ = some (.slice (some ⟨g, 0, none⟩) ns2.length cap) := (cell_at (q.at HP.out.blk (by have := HGP.out; simp; omega)) 3).trans rfl
      go_simp
      refine hK' _ _ ⟨_, _, _, _, _, _, _, _, _, _, _, _, _, _, _, _, _, _, _, _, _, _, _, _, _, _, _, _, _, _, _, _, _, _, _, rfl, rfl, ?_⟩
      exact ⟨hI.f0, hI.f1, hI.f2, hI.f3, hI.f4, hI.f5, hI.f6, hI.f7, hI.f8, hI.f9, fun _ => rfl, hI.f11, hI.f12, hI.f13, hI.f14, hI.f15, hI.f16, hI.d, (fun q => ⟨rfl, hI.d q⟩), hI.wi⟩
    · refine wpOp_step rfl ?_
      intro K' hK'
      go_simp
      refine hK' _ _ ⟨_, _, _, _, _, _, _, _, _, _, _, _, _, _, _, _, _, _, _, _, _, _, _, _, _, _, _, _, _, _, _, _, _, _, _, rfl, rfl, ?_⟩
      exact ⟨hI.f0, hI.f1, hI.f2, hI.f3, hI.f4, hI.f5, hI.f6, hI.f7, hI.f8, hI.f9, hI.f10, fun _ => rfl, hI.f12, hI.f13, hI.f14, hI.f15, hI.f16, hI.d, hI.dd, hI.wi⟩
    · refine wpOp_step rfl ?_
      intro K' hK'
      go_simp
      refine hK' _ _ ⟨_, _, _, _, _, _, _, _, _, _, _, _, _, _, _, _, _, _, _, _, _, _, _, _, _, _, _, _, _, _, _, _, _, _, _, rfl, rfl, ?_⟩
      exact ⟨hI.f0, hI.f1, hI.f2, hI.f3, hI.f4, hI.f5, hI.f6, hI.f7, hI.f8, hI.f9, hI.f10, hI.f11, fun _ => rfl, hI.f13, hI.f14, hI.f15, hI.f16, hI.d, hI.dd, hI.wi⟩
    · refine wpOp_step rfl ?_
      intro K' hK'
      have e12 := hI.f12 (by simp [hc])
      subst e12
      go_simp
      have hwr : IntKind.i64.wrap ((i : Int) + 1) = (i : Int) + 1 := by rw [IntKind.wrap_i64]; omega
      rw [hwr]
      refine hK' _ _ ⟨_, _, _, _, _, _, _, _, _, _, _, _, _, _, _, _, _, _, _, _, _, _, _, _, _, _, _, _, _, _, _, _, _, _, _, rfl, rfl, ?_⟩
      exact ⟨hI.f0, hI.f1, hI.f2, hI.f3, hI.f4, hI.f5, hI.f6, hI.f7, hI.f8, hI.f9, hI.f10, hI.f11, hI.f12, fun _ => rfl, hI.f14, hI.f15, hI.f16, hI.d, hI.dd, hI.wi⟩
    · refine wpOp_step rfl ?_
      intro K' hK'
      have e10 := hI.f10 (by simp [hc])
      subst e10
      have e11 := hI.f11 (by simp [hc])
      subst e11
      have e13 := hI.f13 (by simp [hc])
      subst e13
      have hb17 : b17 = false := by
        cases b17 with
        | false => rfl
        | true => exact absurd (hI.d rfl) (by simp [hc])
      subst hb17
      have hb14 : b14 = false := by simp [hc]
      subst hb14
      have q : Kept [] w W := hI.wi
      have C := hide (CD.out W q)
      go_simp
      refine C.out.mono ?_
      rintro e w2 ⟨rfl, cur', hc2, hz2, ht2, hk2⟩
      refine hK' _ _ ⟨_, _, _, _, _, _, _, _, _, _, _, _, _, _, _, _, _, _, _, _, _, _, _, _, _, _, _, _, _, _, _, _, _, _, _, rfl, rfl, ?_⟩
      exact ⟨hI.f0, hI.f1, hI.f2, hI.f3, hI.f4, hI.f5, hI.f6, hI.f7, hI.f8, hI.f9, hI.f10, hI.f11, hI.f12, hI.f13, fun _ => rfl, hI.f15, hI.f16, fun q => by simp at q, fun q => by simp at q, ⟨(Kept.mono q (by simp)).trans hk2, cur', hc2, hz2, ht2⟩⟩
    · refine wpOp_step rfl ?_
      intro K' hK'
      have e3 := hI.f3 (by simp [hc])
      subst e3
      go_simp
      refine hK' _ _ ⟨_, _, _, _, _, _, _, _, _, _, _, _, _, _, _, _, _, _, _, _, _, _, _, _, _, _, _, _, _, _, _, _, _, _, _, rfl, rfl, ?_⟩
      exact ⟨hI.f0, hI.f1, hI.f2, hI.f3, hI.f4, hI.f5, hI.f6, hI.f7, hI.f8, hI.f9, hI.f10, hI.f11, hI.f12, hI.f13, hI.f14, fun _ => rfl, hI.f16, hI.d, hI.dd, hI.wi⟩
    · refine wpOp_step rfl ?_
      intro K' hK'
      have e15 := hI.f15 (by simp [hc])
      subst e15
      go_simp
      refine hK' _ _ ⟨_, _, _, _, _, _, _, _, _, _, _, _, _, _, _, _, _, _, _, _, _, _, _, _, _, _, _, _, _, _, _, _, _, _, _, rfl, rfl, ?_⟩
      exact ⟨hI.f0, hI.f1, hI.f2, hI.f3, hI.f4, hI.f5, hI.f6, hI.f7, hI.f8, hI.f9, hI.f10, hI.f11, hI.f12, hI.f13, hI.f14, hI.f15, fun _ => rfl, hI.d, hI.dd, hI.wi⟩
    · refine wpOp_step rfl ?_
      intro K' hK'
      have e16 := hI.f16 (by simp [hc])
      subst e16
      have e14 := hI.f14 (by simp [hc])
      subst e14
      have hb17 : b17 = false := by simp [hc]
      subst hb17
      have hb14 : b14 = true := by simp [hc]
      subst hb14
      obtain ⟨q, cur', hc2, hz2, ht2⟩ := hI.wi
      have g2 := q.at HP.out.blk (by have := HGP.out; simp; omega)
      have c3 : W.cell? ⟨p, 3, none⟩ = some (.slice (some ⟨g, 0, none⟩) ns2.length cap) := (cell_at g2 3).trans rfl
      have y3 := free_at g2 3
      go_simp
      refine hK' _ _ ⟨_, _, _, _, _, _, _, _, _, _, _, _, _, _, _, _, _, _, _, _, _, _, _, _, _, _, _, _, _, _, _, _, _, _, _, rfl, rfl, ?_⟩
      exact ⟨hI.f0, hI.f1, hI.f2, hI.f3, hI.f4, hI.f5, hI.f6, hI.f7, hI.f8, hI.f9, hI.f10, hI.f11, hI.f12, hI.f13, hI.f14, hI.f15, hI.f16, fun _ => rfl, fun _ => ⟨by simp [hc], rfl⟩, ⟨⟨_, HP.out.setKids (g2.trans HP.out.blk.symm) (row_del HI.out HBG.out hc2 hz2 HNC.out HMX.out HTK.out ht2) (by rw [List.length_eraseIdx_of_lt HI.out]; have := HP.out.le; omega), rfl⟩, (Kept.mono q (by simp)).setCell (p := ⟨p, 3, none⟩) (.inl (by simp)) _⟩⟩
  · rintro listed a W ⟨b0, b1, b2, b3, b4, b5, b6, b7, b8, b9, b10, b11, b12, b13, b14, b15, b16, b17, s14, s15, s16, s17, s18, s19, s20, s21, s22, s23, s24, s25, s26, s27, s28, s29, s30, rfl, rfl, hI⟩ hr
    simp only [Region.ready, List.filter_eq_nil_iff, List.mem_range] at hr
    have q0 := hr 0 (by decide)
    simp [Region.binds] at q0
    subst q0
    have q1 := hr 1 (by decide)
    simp [Region.binds] at q1
    subst q1
    have q2 := hr 2 (by decide)
    simp [Region.binds] at q2
    subst q2
    have q3 := hr 3 (by decide)
    simp [Region.binds] at q3
    subst q3
    have q4 := hr 4 (by decide)
    simp [Region.binds] at q4
    subst q4
    have q5 := hr 5 (by decide)
    simp [Region.binds] at q5
    subst q5
    have q6 := hr 6 (by decide)
    simp [Region.binds] at q6
    subst q6
    have q7 := hr 7 (by decide)
    simp [Region.binds] at q7
    subst q7
    have q8 := hr 8 (by decide)
    simp [Region.binds] at q8
    subst q8
    have q9 := hr 9 (by decide)
    simp [Region.binds] at q9
    subst q9
    have q10 := hr 10 (by decide)
    simp [Region.binds] at q10
    subst q10
    have q11 := hr 11 (by decide)
    simp [Region.binds] at q11
    subst q11
    have q12 := hr 12 (by decide)
    simp [Region.binds] at q12
    subst q12
    have q13 := hr 13 (by decide)
    simp [Region.binds] at q13
    subst q13
    have q14 := hr 14 (by decide)
    simp [Region.binds] at q14
    subst q14
    have q15 := hr 15 (by decide)
    simp [Region.binds] at q15
    subst q15
    have q16 := hr 16 (by decide)
    simp [Region.binds] at q16
    subst q16
    have q17 := hr 17 (by decide)
    simp [Region.binds] at q17
    subst q17
    obtain ⟨⟨kv2', hE, ho⟩, hk⟩ := hI.wi
    have J := H.out.kept hk (by have := HGJ.out; have := HJP.out; simp; omega) (fun x hx => by
      have h1 := HAP.out x hx
      have h2 := H.out.own_ne HP.out.blk (by decide)
      rw [hx] at h2
      simp [Value.ownBlock] at h1 h2
      simp; omega)
    have HE2 := hide hE
    have HO2 := hide ho
    have HK2 := hide hk
    have HJ2 := hide (J.setPar none)
    have j2 : W.cell? ⟨j, 2, none⟩ = some (.pointer (some ⟨p, 0, none⟩)) := (cell_at J.blk 2).trans rfl
    have z2 := free_at J.blk 2
    clear hI hr hE ho hk J
    rename_i KK hKK
    refine hKK _ _ ?_
    clear hKK KK
    go_wp2
    go_end0
    refine ⟨rfl, ⟨kv2', HE2.out.kept ((Kept.refl [j] W).setCell (p := ⟨j, 2, none⟩) (.inl (by simp)) _) (by have := HJP.out; simp; omega) (fun x hx => ?_), HO2.out⟩, HJ2.out, ?_⟩
    · rw [HO2.out] at hx
      have e := Option.some.inj hx
      have := HGJ.out
      simp
      omega
    · refine (HK2.out.mono (S' := j :: p :: [g]) ?_).setCell (p := ⟨j, 2, none⟩) (.inl (by simp)) _
      intro x hx _
      exact List.mem_cons_of_mem _ hx
  · decide
  · exact ⟨false, false, false, false, false, false, false, false, false, false, false, false, false, false, false, false, false, false, undef, undef, undef, undef, undef, undef, undef, undef, undef, undef, undef, undef, undef, undef, undef, undef, undef, rfl, rfl, by simp, by simp, by simp, by simp, by simp, by simp, by simp, by simp, by simp, by simp, by simp, by simp, by simp, by simp, by simp, by simp, by simp, by simp, by simp, HK1.out.drew⟩
end Go.Proofs.YtlhhgenpcjjajaaGreatDoor
namespace Go.Proofs.YtlhhgenpcjjajaaGreatDoor
open Go.RowKit
structure AEl where
  name : ByteArray
  attrs : List (ByteArray × ByteArray)
  par : Option Nat
  kids : List Nd
inductive ANd
  | el (e : AEl)
  | tx (s : ByteArray)
  | cm (s : ByteArray)
  | dt (s : ByteArray)
structure Ab where
  nodes : List ANd
  opn : List (Option Nat)
  act : List (Option Nat)
  head : Option Nat
  form : Option Nat
  mode : Nat
  kept : Nat
  waiting : List (Nat × Nat × ByteArray)
  fostering : Bool
  quirks : Bool
  at' : Nat
  behind : Bool
  ofT : ByteArray
  plainT : Bool
  fresh : Bool
  dep : Nat
  frm : Nat
  atl : Nat
inductive Res (α : Type)
  | ok (a : α) (σ : Ab)
  | stop (e : Nat) (at' : Nat)
  | stuck
def M (α : Type) := Ab → Res α
namespace M
def pure {α : Type} (a : α) : M α := fun σ => .ok a σ
def bind {α β : Type} (m : M α) (f : α → M β) : M β := fun σ => match m σ with
  | .ok a σ' => f a σ'
  | .stop e p => .stop e p
  | .stuck => .stuck
instance : Monad M where
  pure := M.pure
  bind := M.bind
end M
theorem M.pure_run {α : Type} (a : α) (σ : Ab) : (Pure.pure a : M α) σ = .ok a σ := rfl
theorem M.bind_run {α β : Type} (m : M α) (f : α → M β) (σ : Ab) : (m >>= f) σ = match m σ with
  | .ok a σ' => f a σ'
  | .stop e p => .stop e p
  | .stuck => .stuck := rfl
def stuck {α : Type} : M α := fun _ => .stuck
def get : M Ab := fun σ => .ok σ σ
def put (σ : Ab) : M Unit := fun _ => .ok () σ
def upd (f : Ab → Ab) : M Unit := fun σ => .ok () (f σ)
def check (p : Ab → Prop) [DecidablePred p] : M Unit := fun σ => if p σ then .ok () σ else .stuck
def throw {α : Type} (e : Nat) : M α := fun σ => .stop e σ.at'
def Ab.el? (σ : Ab) (i : Nat) : Option AEl := match σ.nodes[i]? with
  | some (.el e) => some e
  | _ => none
def Ab.isEl (σ : Ab) (x : Option Nat) : Bool := match x with
  | none => true
  | some i => (σ.el? i).isSome
def Ab.isElS (σ : Ab) (x : Option Nat) : Bool := match x with
  | none => false
  | some i => (σ.el? i).isSome
theorem Ab.isEl_of {σ : Ab} {x : Option Nat} (h : σ.isElS x = true) : σ.isEl x = true := by
  cases x with
  | none => rfl
  | some i => exact h
def Ab.isKid (σ : Ab) : Nd → Bool
  | .el i => (σ.el? i).isSome
  | .tx i => match σ.nodes[i]? with | some (.tx _) => true | _ => false
  | .cm i => match σ.nodes[i]? with | some (.cm _) => true | _ => false
  | .dt i => match σ.nodes[i]? with | some (.dt _) => true | _ => false
def elM (i : Nat) : M AEl := fun σ => match σ.el? i with
  | some e => .ok e σ
  | none => .stuck
def Ab.setEl (σ : Ab) (i : Nat) (e : AEl) : Ab := { σ with nodes := σ.nodes.set i (.el e) }
def Ab.add (σ : Ab) (n : ANd) : Ab := { σ with nodes := σ.nodes ++ [n] }
def Ab.addF (σ : Ab) (n : ANd) (fr : Bool) : Ab := { σ with nodes := σ.nodes ++ [n], fresh := fr }
def sHtml : ByteArray := ⟨#[104, 116, 109, 108]⟩
def sBody : ByteArray := ⟨#[98, 111, 100, 121]⟩
def givable (s : ByteArray) : Bool := eqS s sHtml || eqS s sBody
structure Wf (σ : Ab) : Prop where
  opn : ∀ x ∈ σ.opn, σ.isElS x = true
  act : ∀ x ∈ σ.act, σ.isEl x = true
  head : σ.isEl σ.head = true
  form : σ.isEl σ.form = true
  par : ∀ i e, σ.el? i = some e → σ.isEl e.par = true
  kids : ∀ i e, σ.el? i = some e → ∀ k ∈ e.kids, σ.isKid k = true
  doc : (σ.el? 0).isSome = true
theorem Ab.lt_of_el {σ : Ab} {i : Nat} {e : AEl} (h : σ.el? i = some e) : i < σ.nodes.length := by
  unfold Ab.el? at h
  by_cases hi : i < σ.nodes.length
  · exact hi
  · rw [List.getElem?_eq_none (by omega)] at h; cases h
theorem Ab.node_of_el {σ : Ab} {i : Nat} {e : AEl} (h : σ.el? i = some e) : σ.nodes[i]? = some (.el e) := by
  unfold Ab.el? at h
  split at h
  · rename_i e' he; rw [he]; cases h; rfl
  · cases h
theorem Ab.el_of_node {σ : Ab} {i : Nat} {e : AEl} (h : σ.nodes[i]? = some (.el e)) : σ.el? i = some e := by
  unfold Ab.el?; rw [h]
end Go.Proofs.YtlhhgenpcjjajaaGreatDoor
namespace Go.Proofs.YtlhhgenpcjjajaaGreatDoor
open Go.RowKit
def words (s : ByteArray) : List ByteArray := (Lib.fields s.data.toList).map fun l => ⟨l.toArray⟩
def putAll (L : List (ByteArray × Value)) (ks : List ByteArray) (v : Value) : List (ByteArray × Value) := ks.foldl (fun L k => putL L k v) L
theorem putAll_step (L : List (ByteArray × Value)) (ks : List ByteArray) (v : Value) (n : Nat) (hn : n < ks.length) : putAll L (ks.take (n + 1)) v = putL (putAll L (ks.take n) v) ks[n] v := by
  unfold putAll
  rw [List.take_succ_eq_append_getElem hn, List.foldl_append]
  rfl
abbrev Blanks (w : World) : Prop := Lib.TabIs Tryz.prog w "strings.asciiSpace" .u8 Lib.asciiSpaceTab
def plainText (s : ByteArray) : Bool := decide (s.size < 4096) && s.data.toList.all (fun b => decide (b.toNat < 128)) && decide ((words s).length ≤ 4096)
theorem fields_ok (s : ByteArray) (w : World) (hp : plainText s = true) (ht : Blanks w) :
    Calls Tryz.prog 96 #[.string s] w fun e w' => e = .returned (.slice (some ⟨w.heap.size, 0, none⟩) (words s).length (words s).length) ∧ w' = w.alloc (.cells ((words s).map Value.string).toArray 9 (0, 0)) := by
  unfold plainText at hp
  simp only [Bool.and_eq_true, decide_eq_true_eq, List.all_eq_true] at hp
  have h := Tryz.strings_Fields s w (by omega) (fun j b hb => hp.1.2 b (List.mem_of_getElem? hb)) ht
  refine h.mono ?_
  rintro e w' ⟨rfl, rfl⟩
  have e1 : (words s).length = (Lib.fields s.data.toList).length := by simp [words]
  refine ⟨by rw [e1], ?_⟩
  congr 2
  simp [words, Function.comp_def]
set_option maxHeartbeats 2000000 in
set_option maxRecDepth 100000 in
theorem on_ok (b : Nat) (s : ByteArray) (v : Value) (L : List (ByteArray × Value)) (w : World) (hp : plainText s = true) (ht : Blanks w) (hm : MapS w b L) :
    Calls Tryz.prog 102 #[.map (some b), .string s, v] w fun e w' => e = .returned (.map (some b)) ∧ MapS w' b (putAll L (words s) v) ∧ Kept [b] w w' := by
  have hlen : (words s).length ≤ 4096 := by
    unfold plainText at hp
    simp only [Bool.and_eq_true, decide_eq_true_eq] at hp
    exact hp.2
  have HF := hide (fields_ok s w hp ht)
  have HM := hide hm
  clear hp ht hm
  generalize words s = ks at HF hlen ⊢
  go_enter Tryz.func102, Tryz.ntmps102
  go_wp2_with fail
  refine HF.out.mono ?_
  rintro e w1 ⟨rfl, hw1⟩
  have g1 : w1.heap[w.heap.size]? = some (.cells (ks.map Value.string).toArray 9 (0, 0)) := by rw [hw1]; exact heap_alloc_at w _
  have k1 : Kept [] w w1 := by rw [hw1]; exact (Kept.refl _ _).alloc _
  have m1 := HM.out.kept k1 (by simp)
  have hbn : b ≠ w.heap.size := by have := HM.out.lt; omega
  have HG := hide g1
  have HK := hide k1
  have HM1 := hide m1
  have HBN := hide hbn
  clear hw1 g1 k1 m1 hbn
  go_wp2
  go_loopw [12] (fun i wr => ∃ k : Nat, k ≤ ks.length ∧ i = .int .i64 k ∧ MapS wr b (putAll L (ks.take k) v) ∧ Kept [b] w wr ∧ wr.heap[w.heap.size]? = some (.cells (ks.map Value.string).toArray 9 (0, 0))) (fun i _ => ks.length - (intOf i).toNat)
  case atStart => exact ⟨0, Nat.zero_le _, rfl, HM1.out, HK.out.mono (by simp), HG.out⟩
  case round =>
    obtain ⟨k, hk, rfl, hmk, hkk, hgk⟩ := hrel
    by_cases hlt : k < ks.length
    · have c1 : wr.cell? ⟨w.heap.size, k, none⟩ = some (.string ks[k]) := by rw [cell_at hgk]; simp [hlt]
      obtain ⟨w2, r2, m2, k2, z2⟩ := run_putS (T := 170) (E := 168) (by kernel_rfl) hmk ks[k] v
      have HM2 := hide m2
      have HK2 := hide (hkk.trans k2)
      have HG2 := hide (k2.at hgk (by simpa using HBN.out.symm))
      have HS := hide (putAll_step L ks v k hlt)
      clear hmk hkk hgk m2 k2 z2
      go_wp2
      go_roundw
      case rel => exact ⟨k + 1, by omega, by go_num, by rw [HS.out]; exact HM2.out, HK2.out, HG2.out⟩
      case measure => simp [intOf]; omega
    · have hkn : k = ks.length := by omega
      have HMk := hide (show MapS wr b (putAll L ks v) by rw [hkn, List.take_length] at hmk; exact hmk)
      have HKk := hide hkk
      clear hmk hkk hgk hkn
      go_wp2
      go_ret
      exact ⟨rfl, HMk.out, HKk.out⟩
end Go.Proofs.YtlhhgenpcjjajaaGreatDoor
namespace Go.Proofs.YtlhhgenpcjjajaaGreatDoor
open Go.RowKit
def encN (L : List (ByteArray × Nat)) : List (ByteArray × Value) := L.map fun p => (p.1, .int .i64 (p.2 : Int))
def getN : List (ByteArray × Nat) → ByteArray → Nat
  | [], _ => 0
  | p :: L, k => if eqS k p.1 then p.2 else getN L k
def putN : List (ByteArray × Nat) → ByteArray → Nat → List (ByteArray × Nat)
  | [], k, v => [(k, v)]
  | p :: L, k, v => if eqS k p.1 then (k, v) :: L else p :: putN L k v
theorem getN_get : ∀ (L : List (ByteArray × Nat)) (k : ByteArray), (getL (encN L) k).getD (.int .i64 0) = .int .i64 (getN L k : Int)
  | [], _ => rfl
  | p :: L, k => by
    show (if eqS k p.1 then some (Value.int .i64 (p.2 : Int)) else getL (encN L) k).getD _ = _
    unfold getN
    split
    · rfl
    · exact getN_get L k
theorem putN_put : ∀ (L : List (ByteArray × Nat)) (k : ByteArray) (v : Nat), putL (encN L) k (.int .i64 (v : Int)) = encN (putN L k v)
  | [], _, _ => rfl
  | p :: L, k, v => by
    show (if eqS k p.1 then (k, Value.int .i64 (v : Int)) :: encN L else (p.1, Value.int .i64 (p.2 : Int)) :: putL (encN L) k _) = _
    unfold putN
    split
    · rfl
    · rw [putN_put L k v]; rfl
theorem getN_putN : ∀ (L : List (ByteArray × Nat)) (k : ByteArray) (v : Nat) (s : ByteArray), getN (putN L k v) s = if eqS s k then v else getN L s
  | [], k, v, s => rfl
  | p :: L, k, v, s => by
    unfold putN
    by_cases hk : eqS k p.1 = true
    · rw [if_pos hk]
      have e := eqS_iff.1 hk
      unfold getN
      rw [← e]
      split <;> rfl
    · rw [if_neg hk]
      unfold getN
      rw [getN_putN L k v s]
      by_cases h1 : eqS s p.1 = true
      · have h2 : eqS s k ≠ true := fun h => hk (by rw [eqS_iff] at h h1 ⊢; rw [← h, h1])
        simp [h1, h2]
      · simp [h1]
def addN (L : List (ByteArray × Nat)) (c : Nat) (ks : List ByteArray) : List (ByteArray × Nat) := ks.foldl (fun L k => putN L k (getN L k ||| c)) L
theorem addN_step (L : List (ByteArray × Nat)) (ks : List ByteArray) (c n : Nat) (hn : n < ks.length) : addN L c (ks.take (n + 1)) = putN (addN L c (ks.take n)) ks[n] (getN (addN L c (ks.take n)) ks[n] ||| c) := by
  unfold addN
  rw [List.take_succ_eq_append_getElem hn, List.foldl_append]
  rfl
theorem lt16 : ∀ a c : Fin 16, a.1 ||| c.1 < 16 := by decide
theorem addN_lt {c : Nat} (hc : c < 16) (ks : List ByteArray) : ∀ (L : List (ByteArray × Nat)), (∀ s, getN L s < 16) → ∀ s, getN (addN L c ks) s < 16 := by
  induction ks with
  | nil => exact fun L h => h
  | cons k ks ih =>
    intro L h
    refine ih _ fun s => ?_
    rw [getN_putN]
    split
    · exact lt16 ⟨_, h k⟩ ⟨c, hc⟩
    · exact h s
theorem getN_addN (c : Nat) (s : ByteArray) (ks : List ByteArray) : ∀ (L : List (ByteArray × Nat)), getN (addN L c ks) s = if hasS ks s then getN L s ||| c else getN L s := by
  induction ks with
  | nil => intro L; simp [addN, hasS]
  | cons k ks ih =>
    intro L
    show getN (addN (putN L k (getN L k ||| c)) c ks) s = _
    rw [ih, getN_putN]
    have e : hasS (k :: ks) s = (eqS s k || hasS ks s) := by simp [hasS]
    rw [e]
    by_cases h1 : eqS s k = true
    · have := eqS_iff.1 h1
      subst this
      by_cases h2 : hasS ks s = true
      · simp [h1, h2, Nat.or_assoc]
      · simp [h1, h2]
    · simp [h1]
theorem or_all : ∀ a c : Fin 16, IntKind.i64.wrap (((BitVec.ofInt 64 (a.1 : Int)) ||| (BitVec.ofInt 64 (c.1 : Int))).toNat : Int) = ((a.1 ||| c.1 : Nat) : Int) := by decide
theorem and_all : ∀ a c : Fin 16, IntKind.i64.wrap (((BitVec.ofInt 64 (a.1 : Int)) &&& (BitVec.ofInt 64 (c.1 : Int))).toNat : Int) = ((a.1 &&& c.1 : Nat) : Int) := by decide
theorem bits_or (a c : Nat) (ha : a < 16) (hc : c < 16) : bits .or .i64 (a : Int) (c : Int) = ((a ||| c : Nat) : Int) := or_all ⟨a, ha⟩ ⟨c, hc⟩
theorem bits_and (a c : Nat) (ha : a < 16) (hc : c < 16) : bits .and .i64 (a : Int) (c : Int) = ((a &&& c : Nat) : Int) := and_all ⟨a, ha⟩ ⟨c, hc⟩
set_option maxHeartbeats 2000000 in
set_option maxRecDepth 100000 in
theorem add_ok (b : Nat) (s : ByteArray) (c : Nat) (L : List (ByteArray × Nat)) (w : World) (hp : plainText s = true) (ht : Blanks w) (hm : MapS w b (encN L)) (hc : c < 16) (hL : ∀ s, getN L s < 16) :
    Calls Tryz.prog 62 #[.agg #[.map (some b)], .int .i64 (c : Int), .string s] w fun e w' => e = .returned (.tuple #[]) ∧ MapS w' b (encN (addN L c (words s))) ∧ Kept [b] w w' := by
  have hlen : (words s).length ≤ 4096 := by
    unfold plainText at hp
    simp only [Bool.and_eq_true, decide_eq_true_eq] at hp
    exact hp.2
  have k0 : Kept [] w (w.alloc (.cells #[.map (some b)] 92 (0, 0))) := (Kept.refl _ _).alloc _
  have g0 := heap_alloc_at w (.cells #[.map (some b)] 92 (0, 0))
  have HF := hide (fields_ok s (w.alloc (.cells #[.map (some b)] 92 (0, 0))) hp (Lib.tabIs_alloc ht _))
  have HM := hide (hm.kept k0 (by simp))
  have hbl := hm.lt
  have HL := hide hL
  clear hp ht hm hL
  generalize words s = ks at HF hlen ⊢
  obtain ⟨w0, hw0⟩ : ∃ w0, w0 = w.alloc (.cells #[.map (some b)] 92 (0, 0)) := ⟨_, rfl⟩
  go_enter Tryz.func62, Tryz.ntmps62
  go_wp2_with fail
  refine HF.out.mono ?_
  rintro e w1 ⟨rfl, hw1⟩
  rw [← hw0] at hw1 g0 k0 HM
  have z0 : w0.heap.size = w.heap.size + 1 := by rw [hw0]; simp
  have g1 : w1.heap[w.heap.size + 1]? = some (.cells (ks.map Value.string).toArray 9 (0, 0)) := by rw [hw1, ← z0]; exact heap_alloc_at w0 _
  have k1 : Kept [] w0 w1 := by rw [hw1]; exact (Kept.refl _ _).alloc _
  have HG := hide g1
  have HG0 := hide (k1.at g0 (by simp))
  have HK := hide (k0.trans k1)
  have HM1 := hide (HM.out.kept k1 (by simp))
  have HW0 := hide hw0
  have HZ0 := hide z0
  have HBL := hide hbl
  clear hw1 g1 k1 k0 hw0 z0 g0 hbl
  go_wp2
  go_loopw [11] (fun i wr => ∃ k : Nat, k ≤ ks.length ∧ i = .int .i64 k ∧ MapS wr b (encN (addN L c (ks.take k))) ∧ Kept [b] w wr ∧ wr.heap[w.heap.size + 1]? = some (.cells (ks.map Value.string).toArray 9 (0, 0)) ∧ wr.heap[w.heap.size]? = some (.cells #[.map (some b)] 92 (0, 0))) (fun i _ => ks.length - (intOf i).toNat)
  case atStart => exact ⟨0, Nat.zero_le _, rfl, HM1.out, HK.out.mono (by simp), HG.out, HG0.out⟩
  case round =>
    obtain ⟨k, hk, rfl, hmk, hkk, hgk, hck⟩ := hrel
    by_cases hlt : k < ks.length
    · have c1 : wr.cell? ⟨w.heap.size + 1, k, none⟩ = some (.string ks[k]) := by rw [cell_at hgk]; simp [hlt]
      have c2 : wr.cell? ⟨w.heap.size, 0, none⟩ = some (.map (some b)) := by rw [cell_at hck]; rfl
      have hl16 := addN_lt hc (ks.take k) L HL.out ks[k]
      have hlk := run_lookS (T := 90) (E := 95) (z := .int .i64 0) (by kernel_rfl) (by intro w; exact Tryz.zeroValue95 w) hmk ks[k]
      rw [getN_get] at hlk
      have hbo := bits_or _ c hl16 hc
      obtain ⟨w2, r2, m2, k2, z2⟩ := run_putS (T := 90) (E := 95) (by kernel_rfl) hmk ks[k] (.int .i64 ((getN (addN L c (ks.take k)) ks[k] ||| c : Nat) : Int))
      rw [putN_put, ← addN_step L ks c k hlt] at m2
      have HM2 := hide m2
      have HK2 := hide (hkk.trans k2)
      have HG2 := hide (k2.at hgk (by have := HBL.out; simp; omega))
      have HC2 := hide (k2.at hck (by have := HBL.out; simp; omega))
      obtain ⟨q, hq⟩ : ∃ q, q = getN (addN L c (ks.take k)) ks[k] := ⟨_, rfl⟩
      rw [← hq] at hlk hbo r2
      obtain ⟨q2, hq2⟩ : ∃ q2 : Nat, q2 = q ||| c := ⟨_, rfl⟩
      rw [← hq2] at hbo r2
      clear hmk hkk hgk hck m2 k2 z2 hq hq2 hl16
      go_wp2
      go_roundw
      case rel => exact ⟨k + 1, by omega, by go_num, HM2.out, HK2.out, HG2.out, HC2.out⟩
      case measure => simp [intOf]; omega
    · have hkn : k = ks.length := by omega
      have HMk := hide (show MapS wr b (encN (addN L c ks)) by rw [hkn, List.take_length] at hmk; exact hmk)
      have HKk := hide hkk
      clear hmk hkk hgk hkn hck
      go_wp2
      go_end0
      exact ⟨rfl, HMk.out, HKk.out⟩
end Go.Proofs.YtlhhgenpcjjajaaGreatDoor
namespace Go.Proofs.YtlhhgenpcjjajaaGreatDoor
open Go.RowKit
def wVoid : List ByteArray := [⟨#[98, 114]⟩, ⟨#[104, 114]⟩, ⟨#[105, 109, 103]⟩, ⟨#[105, 110, 112, 117, 116]⟩, ⟨#[109, 101, 116, 97]⟩, ⟨#[99, 111, 108]⟩]
def wSpecial : List ByteArray := [⟨#[104, 116, 109, 108]⟩, ⟨#[104, 101, 97, 100]⟩, ⟨#[116, 105, 116, 108, 101]⟩, ⟨#[115, 116, 121, 108, 101]⟩, ⟨#[109, 101, 116, 97]⟩, ⟨#[98, 111, 100, 121]⟩, ⟨#[112]⟩, ⟨#[100, 105, 118]⟩, ⟨#[104, 49]⟩, ⟨#[104, 50]⟩, ⟨#[117, 108]⟩, ⟨#[100, 108]⟩, ⟨#[108, 105]⟩, ⟨#[100, 100]⟩, ⟨#[100, 116]⟩, ⟨#[112, 114, 101]⟩, ⟨#[102, 111, 114, 109]⟩, ⟨#[98, 117, 116, 116, 111, 110]⟩, ⟨#[105, 110, 112, 117, 116]⟩, ⟨#[98, 114]⟩, ⟨#[104, 114]⟩, ⟨#[105, 109, 103]⟩, ⟨#[116, 97, 98, 108, 101]⟩, ⟨#[99, 97, 112, 116, 105, 111, 110]⟩, ⟨#[99, 111, 108, 103, 114, 111, 117, 112]⟩, ⟨#[99, 111, 108]⟩, ⟨#[116, 98, 111, 100, 121]⟩, ⟨#[116, 104, 101, 97, 100]⟩, ⟨#[116, 102, 111, 111, 116]⟩, ⟨#[116, 114]⟩, ⟨#[116, 100]⟩, ⟨#[116, 104]⟩, ⟨#[111, 98, 106, 101, 99, 116]⟩, ⟨#[115, 101, 108, 101, 99, 116]⟩, ⟨#[116, 101, 120, 116, 97, 114, 101, 97]⟩]
def wImplied : List ByteArray := [⟨#[100, 100]⟩, ⟨#[100, 116]⟩, ⟨#[108, 105]⟩, ⟨#[111, 112, 116, 105, 111, 110]⟩, ⟨#[111, 112, 116, 103, 114, 111, 117, 112]⟩, ⟨#[112]⟩]
def wBounds : List ByteArray := [⟨#[104, 116, 109, 108]⟩, ⟨#[116, 97, 98, 108, 101]⟩, ⟨#[116, 100]⟩, ⟨#[116, 104]⟩, ⟨#[99, 97, 112, 116, 105, 111, 110]⟩, ⟨#[111, 98, 106, 101, 99, 116]⟩]
def classL : List (ByteArray × Nat) := addN (addN (addN (addN [] 1 wVoid) 2 wSpecial) 4 wImplied) 8 wBounds
theorem Blanks.kept {S : List Nat} {w w' : World} (h : Blanks w) (hk : Kept S w w') (hg : 1 ∉ S) : Blanks w' := by
  unfold Blanks Lib.TabIs World.var? at *
  have e : Tryz.prog.globalNamed "strings.asciiSpace" = some 1 := by kernel_rfl
  simp only [e, Option.bind_some] at h ⊢
  have hlt : 1 < w.heap.size := by
    rcases Nat.lt_or_ge 1 w.heap.size with h' | h'
    · exact h'
    · rw [Array.getElem?_eq_none h'] at h; simp at h
  rw [hk.block _ hlt hg]
  exact h
theorem add_ok2 (b : Nat) (s : ByteArray) (c : Nat) (L : List (ByteArray × Nat)) (ks : List ByteArray) (w : World) (hp : plainText s = true) (hks : words s = ks) (ht : Blanks w) (hm : MapS w b (encN L)) (hc : c < 16) (hL : ∀ s, getN L s < 16) :
    Calls Tryz.prog 62 #[.agg #[.map (some b)], .int .i64 (c : Int), .string s] w fun e w' => e = .returned (.tuple #[]) ∧ MapS w' b (encN (addN L c ks)) ∧ Kept [b] w w' := by
  rw [← hks]
  exact add_ok b s c L w hp ht hm hc hL
theorem nil16 : ∀ s, getN [] s < 16 := fun _ => Nat.zero_lt_succ 15
set_option maxHeartbeats 2000000 in
set_option maxRecDepth 100000 in
theorem newClasses_ok (w : World) (ht : Blanks w) :
    Calls Tryz.prog 40 #[] w fun e w' => ∃ bm, e = .returned (.agg #[.map (some bm)]) ∧ MapS w' bm (encN classL) ∧ Kept [] w w' ∧ w.heap.size ≤ bm := by
  have hmm := @run_makeMap Tryz.prog
  obtain ⟨W, hW⟩ : ∃ W, W = ((w.alloc (.cells #[.map none] 92 (0, 0))).alloc (.map #[] 0)).alloc (.cells #[.map (some (w.heap.size + 1))] 92 (0, 0)) := ⟨_, rfl⟩
  have kW : Kept [] w W := by rw [hW]; exact (((Kept.refl _ _).alloc _).alloc _).alloc _
  have g0 : W.heap[w.heap.size]? = some (.cells #[.map none] 92 (0, 0)) := by
    rw [hW, Below.heap_alloc _ _ _ (by simp; omega), Below.heap_alloc _ _ _ (by simp)]; exact heap_alloc_at w _
  have g1 : W.heap[w.heap.size + 1]? = some (.map #[] 0) := by
    rw [hW, Below.heap_alloc _ _ _ (by simp)]
    have := heap_alloc_at (w.alloc (.cells #[.map none] 92 (0, 0))) (.map #[] 0)
    rwa [World.size_alloc] at this
  have g2 : W.heap[w.heap.size + 1 + 1]? = some (.cells #[.map (some (w.heap.size + 1))] 92 (0, 0)) := by
    rw [hW]
    have := heap_alloc_at ((w.alloc (.cells #[.map none] 92 (0, 0))).alloc (.map #[] 0)) (.cells #[.map (some (w.heap.size + 1))] 92 (0, 0))
    rwa [World.size_alloc, World.size_alloc] at this
  have m0 : MapS W (w.heap.size + 1) (encN []) := ⟨#[], 0, g1, rfl⟩
  have hgl : 1 ∉ [w.heap.size + 1] := by
    have hlt : 1 < w.heap.size := by
      have h := ht
      unfold Blanks Lib.TabIs World.var? at h
      have e : Tryz.prog.globalNamed "strings.asciiSpace" = some 1 := by kernel_rfl
      simp only [e, Option.bind_some] at h
      rcases Nat.lt_or_ge 1 w.heap.size with h' | h'
      · exact h'
      · rw [Array.getElem?_eq_none h'] at h; simp at h
    intro hmem
    have := List.mem_singleton.1 hmem
    omega
  have HT := hide (ht.kept kW (by simp))
  have HG := hide hgl
  have HK := hide (kW.mono (S' := [w.heap.size + 1]) (by simp))
  have HM := hide m0
  have H0 := hide g0
  have H2 := hide g2
  have HW := hide hW
  clear kW g0 g1 g2 m0 hW hgl ht
  go_enter Tryz.func40, Tryz.ntmps40
  go_wp2_with fail
  rw [← HW.out]
  refine (add_ok2 (w.heap.size + 1) _ 1 [] wVoid W (by kernel_rfl) (by kernel_rfl) HT.out HM.out (by decide) nil16).mono ?_
  rintro e w1 ⟨rfl, m1, k1⟩
  have HT1 := hide (HT.out.kept k1 HG.out)
  have HK1 := hide (HK.out.trans k1)
  have HM1 := hide m1
  have H01 := hide (k1.at H0.out (by simp))
  have H21 := hide (k1.at H2.out (by simp))
  have c1 : w1.cell? ⟨w.heap.size + 1 + 1, 0, none⟩ = some (.map (some (w.heap.size + 1))) := by rw [cell_at H21.out]; rfl
  clear k1 m1
  go_wp2_with fail
  refine (add_ok2 (w.heap.size + 1) _ 2 (addN [] 1 wVoid) wSpecial w1 (by kernel_rfl) (by kernel_rfl) HT1.out HM1.out (by decide) (addN_lt (by decide) _ _ nil16)).mono ?_
  rintro e w2 ⟨rfl, m2, k2⟩
  clear c1
  have HT2 := hide (HT1.out.kept k2 HG.out)
  have HK2 := hide (HK1.out.trans k2)
  have HM2 := hide m2
  have H02 := hide (k2.at H01.out (by simp))
  have H22 := hide (k2.at H21.out (by simp))
  have c2 : w2.cell? ⟨w.heap.size + 1 + 1, 0, none⟩ = some (.map (some (w.heap.size + 1))) := by rw [cell_at H22.out]; rfl
  clear k2 m2
  go_wp2_with fail
  refine (add_ok2 (w.heap.size + 1) _ 4 (addN (addN [] 1 wVoid) 2 wSpecial) wImplied w2 (by kernel_rfl) (by kernel_rfl) HT2.out HM2.out (by decide) (addN_lt (by decide) _ _ (addN_lt (by decide) _ _ nil16))).mono ?_
  rintro e w3 ⟨rfl, m3, k3⟩
  clear c2
  have HT3 := hide (HT2.out.kept k3 HG.out)
  have HK3 := hide (HK2.out.trans k3)
  have HM3 := hide m3
  have H03 := hide (k3.at H02.out (by simp))
  have H23 := hide (k3.at H22.out (by simp))
  have c3 : w3.cell? ⟨w.heap.size + 1 + 1, 0, none⟩ = some (.map (some (w.heap.size + 1))) := by rw [cell_at H23.out]; rfl
  clear k3 m3
  go_wp2_with fail
  refine (add_ok2 (w.heap.size + 1) _ 8 (addN (addN (addN [] 1 wVoid) 2 wSpecial) 4 wImplied) wBounds w3 (by kernel_rfl) (by kernel_rfl) HT3.out HM3.out (by decide) (addN_lt (by decide) _ _ (addN_lt (by decide) _ _ (addN_lt (by decide) _ _ nil16)))).mono ?_
  rintro e w4 ⟨rfl, m4, k4⟩
  clear c3
  have HT4 := hide (HT3.out.kept k4 HG.out)
  have HK4 := hide (HK3.out.trans k4)
  have HM4 := hide m4
  have H04 := hide (k4.at H03.out (by simp))
  have H24 := hide (k4.at H23.out (by simp))
  have c4 : w4.cell? ⟨w.heap.size + 1 + 1, 0, none⟩ = some (.map (some (w.heap.size + 1))) := by rw [cell_at H24.out]; rfl
  clear k4 m4
  have f4 := free_at H04.out 0
  have c04 : w4.cell? ⟨w.heap.size, 0, none⟩ = some (.map none) := by rw [cell_at H04.out]; rfl
  have HK5 := hide ((HK4.out.mono (S' := []) (fun k hk hl => by have := List.mem_singleton.1 hk; omega)).setCell (p := ⟨w.heap.size, 0, none⟩) (.inr (Nat.le_refl _)) (.map (some (w.heap.size + 1))))
  have HM5 := hide (HM4.out.keeps (w' := w4.setCell ⟨w.heap.size, 0, none⟩ (.map (some (w.heap.size + 1)))) (Below.heap_setCell w4 ⟨w.heap.size, 0, none⟩ _ _ (by simp)))
  have c5 := cell_at (block_setCell H04.out 0 (.map (some (w.heap.size + 1)))) 0
  go_wp2
  refine bodyPost_ret (v := .agg #[.map (some (w.heap.size + 1))]) ?_ rfl ⟨w.heap.size + 1, rfl, HM5.out, HK5.out, by omega⟩
  simp [results, Tryz.f40, go_sem, c5]
end Go.Proofs.YtlhhgenpcjjajaaGreatDoor
