import Derived.Test.YtifhedfigbdgnaaGreatDoorPush
namespace Go.Proofs.YtifhedfigbdgnaaGreatDoor
open Go.RowKit Go.Extern.Stop Go.Stop Go.Extern

/-- Which of n things the number c speaks of. -/
def pickN (c : Int) (n : Nat) : Nat := (if c < 0 then (-(c + 1)).toNat else c.toNat) % n
theorem pickN_lt (c : Int) (n : Nat) (h : 0 < n) : pickN c n < n := Nat.mod_lt _ h
set_option maxHeartbeats 400000 in
theorem pick_any (c : Int) (n : Nat) (w : World) (hc : -9223372036854775808 ≤ c ∧ c ≤ 9223372036854775807) (hn : 0 < n) (hm : n ≤ 1048576) :
    Calls Tryz.prog 35 #[.int .i64 c, .int .i64 (n : Int)] w fun e w' => e = .returned (.int .i64 (pickN c n : Int)) ∧ w' = w := by
  obtain ⟨h1, h2⟩ := hc
  by_cases h : c < 0
  · obtain ⟨b, hb⟩ : ∃ b : Nat, -(c + 1) = (b : Int) := ⟨(-(c + 1)).toNat, by omega⟩
    have hp : pickN c n = b % n := by unfold pickN; rw [if_pos h, hb]; rfl
    rw [hp]
    clear hp
    go_enter Tryz.func35, Tryz.ntmps35
    go_wp2
    go_ret
    exact ⟨by simp, rfl⟩
  · obtain ⟨b, rfl⟩ : ∃ b : Nat, c = (b : Int) := ⟨c.toNat, by omega⟩
    have hp : pickN (b : Int) n = b % n := by unfold pickN; rw [if_neg h]; rfl
    rw [hp]
    clear hp
    go_enter Tryz.func35, Tryz.ntmps35
    go_wp2
    go_ret
    exact ⟨by simp, rfl⟩

set_option maxRecDepth 100000 in
set_option maxHeartbeats 1000000 in
theorem wrote_ok (base : Nat) (p : PState) (t : ByteArray) (w : World) (h : Has base w p) (hl : p.s.size + t.size ≤ 1024) (hb : base ≤ w.heap.size) :
    Calls Tryz.prog 36 #[.pointer (some ⟨p.bx, 0, none⟩), .pointer (some ⟨p.bm, 0, none⟩), .string t] w fun e w' => e = .returned (.bool true) ∧
      ∃ p', Has base w' p' ∧ p'.bx = p.bx ∧ p'.bm = p.bm ∧ (p'.tv.ownBlock = p.tv.ownBlock ∨ ∀ k, p'.tv.ownBlock = some k → w.heap.size ≤ k) ∧ Kept (p.bm :: p.bx :: p.tv.ownBlock.toList) w w' := by
  have H1 := hide (pwrite_ok p.bx p.a p.tv p.s t base w h.x h.t hl hb)
  have H := hide h
  clear h
  go_enter Tryz.func36, Tryz.ntmps36
  go_wp2_with fail
  refine H1.out.mono ?_
  rintro e w1 ⟨rfl, tv', hx1, ho1, hk1, hf1⟩
  have hS1 : TypesIn w (p.bx :: p.tv.ownBlock.toList) [121, 5] := (TypesIn.row H.out.t (by simp)).block H.out.x (by simp)
  have hm1 := hS1.block_kept hk1 H.out.m (by decide)
  have H2 := hide (mwrite_ok p.bm p.d p.f p.a p.s t w1 hm1 hl)
  have HX := hide hx1
  have HO := hide ho1
  have HK := hide hk1
  have HF := hide hf1
  have HM := hide hm1
  clear hx1 ho1 hk1 hf1 hS1 hm1 H1
  go_wp2_with fail
  refine H2.out.mono ?_
  rintro e w2 ⟨rfl, hm2, hk2⟩
  have hS2 : TypesIn w1 [p.bm] [97] := (TypesIn.nil w1 _).block HM.out (by simp)
  have hfin : ∃ p' : PState, Has base w2 p' ∧ p'.bx = p.bx ∧ p'.bm = p.bm ∧ (p'.tv.ownBlock = p.tv.ownBlock ∨ ∀ k, p'.tv.ownBlock = some k → w.heap.size ≤ k) ∧ Kept (p.bm :: p.bx :: p.tv.ownBlock.toList) w w2 := by
    refine ⟨⟨p.bx, p.bm, p.d, p.f, p.a, tv', p.s ++ t⟩, ⟨hS2.block_kept hk2 HX.out (by decide), hS2.row_kept hk2 HO.out (by decide), hm2, ?_, H.out.bx, H.out.bm⟩, rfl, rfl, HF.out, ?_⟩
    · show (p.s ++ t).size ≤ 1024
      rw [ByteArray.size_append]; exact hl
    · exact (HK.out.mono (fun k hk _ => List.mem_cons_of_mem _ hk)).trans (hk2.mono (fun k hk _ => by simp at hk; simp [hk]))
  have HFin := hide hfin
  clear hfin hm2 hk2 hS2
  go_wp2
  go_ret
  exact ⟨rfl, HFin.out⟩

set_option maxRecDepth 100000 in
set_option maxHeartbeats 1000000 in
theorem wrote_long (base : Nat) (p : PState) (t : ByteArray) (w : World) (h : Has base w p) (ht : t.size ≤ 1048576) (hl : 1024 < p.s.size + t.size) (hg : errorType w) :
    Calls Tryz.prog 36 #[.pointer (some ⟨p.bx, 0, none⟩), .pointer (some ⟨p.bm, 0, none⟩), .string t] w fun e w' => e = .returned (.bool true) ∧ Kept [] w w' := by
  have H1 := hide (pwrite_long p.bx p.a p.tv p.s t base w h.x h.t h.le ht hl hg)
  have H := hide h
  clear h hg
  go_enter Tryz.func36, Tryz.ntmps36
  go_wp2_with fail
  refine H1.out.mono ?_
  rintro e w1 ⟨rfl, hk1⟩
  have H2 := hide (mwrite_long p.bm p.d p.f p.a p.s t w1 (hk1.at H.out.m (by simp)) H.out.le ht hl)
  clear H1
  go_wp2_with fail
  refine H2.out.mono ?_
  rintro e w2 ⟨rfl, hw⟩
  subst hw
  go_wp2
  go_ret
  exact ⟨rfl, hk1⟩

set_option maxHeartbeats 1000000 in
theorem stopped_ok (base : Nat) (p : PState) (w : World) (h : Has base w p) (hg : errorType w) :
    Calls Tryz.prog 38 #[.pointer (some ⟨p.bx, 0, none⟩), .pointer (some ⟨p.bm, 0, none⟩)] w fun e w' => e = .returned (.bool true) ∧ Kept [] w w' := by
  have H1 := hide (pstop p.bx p.a p.tv w h.x hg)
  have H := hide h
  clear h hg
  go_enter Tryz.func38, Tryz.ntmps38
  go_wp2_with fail
  refine H1.out.mono ?_
  rintro e w1 ⟨rfl, hk1⟩
  have H2 := hide (mstop p.bm p.d p.f p.a p.s w1 (hk1.at H.out.m (by simp)))
  clear H1
  go_wp2_with fail
  refine H2.out.mono ?_
  rintro e w2 ⟨rfl, hw⟩
  subst hw
  go_wp2
  go_ret
  exact ⟨rfl, hk1⟩
end Go.Proofs.YtifhedfigbdgnaaGreatDoor
