import Derived.Test.YtlhhgenpcjjajaaGreatDoorLsE
import Derived.Deep.RegionHeld3
import Derived.Deep.CutRange
set_option linter.unusedSimpArgs false
set_option linter.unusedVariables false
namespace Go.Proofs.YtlhhgenpcjjajaaGreatDoor
open Go.RowKit
inductive Nd
  | el (k : Nat)
  | tx (k : Nat)
  | cm (k : Nat)
  | dt (k : Nat)
def Nd.val : Nd → Value
  | .el k => .iface 72 (.pointer (some ⟨k, 0, none⟩))
  | .tx k => .iface 281 (.pointer (some ⟨k, 0, none⟩))
  | .cm k => .iface 237 (.pointer (some ⟨k, 0, none⟩))
  | .dt k => .iface 241 (.pointer (some ⟨k, 0, none⟩))
theorem Nd.one (n : Nd) : n.val.oneCell' = true := by cases n <;> rfl
theorem nds_one (ns : List Nd) : ∀ x ∈ ns.map Nd.val, x.oneCell' = true := by
  intro u hu
  obtain ⟨x, _, rfl⟩ := List.mem_map.1 hu
  exact x.one
structure El (base : Nat) (w : World) (k : Nat) (name : ByteArray) (av : Value) (par : Option Nat) (kv : Value) (ns : List Nd) : Prop where
  blk : w.heap[k]? = some (.cells #[.string name, av, enc par, kv] 140 (0, 0))
  row : w.ownsRow base 142 1 kv ns.length (ns.map Nd.val)
  le : ns.length ≤ 1048576
  avs : ∃ ao n c, av = .slice ao n c
theorem El.own_ne {base k : Nat} {w : World} {name : ByteArray} {av kv : Value} {par : Option Nat} {ns : List Nd} (h : El base w k name av par kv ns) {b : Nat} {c : Array Value} {t : TypeId} (hb : w.heap[b]? = some (.cells c t (0, 0))) (ht : t ≠ 142) : kv.ownBlock ≠ some b := by
  intro hk
  rcases h.row.2 with ⟨e, _⟩ | ⟨g, cap, cur, e, _, hc, _⟩
  · rw [e] at hk; cases hk
  · rw [e] at hk
    obtain rfl := Option.some.inj hk
    exact block_ne hc hb (Ne.symm ht) rfl
theorem El.kept {base k : Nat} {w w' : World} {name : ByteArray} {av kv : Value} {par : Option Nat} {ns : List Nd} {S : List Nat} (h : El base w k name av par kv ns) (hk : Kept S w w') (h1 : k ∉ S) (h2 : ∀ g, kv.ownBlock = some g → g ∉ S) : El base w' k name av par kv ns :=
  ⟨hk.at h.blk h1, hk.ownsRow h.row h2, h.le, h.avs⟩
abbrev place (k n : Nat) : Value := .agg #[.pointer (some ⟨k, 0, none⟩), .int .i64 (n : Int)]
set_option maxHeartbeats 1000000 in
theorem end_ok (base k : Nat) (name : ByteArray) (av kv : Value) (par : Option Nat) (ns : List Nd) (w : World) (h : El base w k name av par kv ns) :
    Calls Tryz.prog 99 #[.pointer (some ⟨k, 0, none⟩)] w fun e w' => e = .returned (place k ns.length) ∧ Kept [] w w' := by
  obtain ⟨ao, cap, rfl⟩ := owns_shape h.row
  have c3 : w.cell? ⟨k, 3, none⟩ = some (.slice ao ns.length cap) := by rw [cell_at h.blk]; rfl
  have hlt := lt_of_block h.blk
  have HK := hide ((Kept.refl [] w).alloc (.cells #[.pointer (some ⟨k, 0, none⟩), .int .i64 (ns.length : Int)] 235 (0, 0)))
  clear h
  go_enter Tryz.func99, Tryz.ntmps99
  go_wp2
  refine bodyPost_ret (v := place k ns.length) ?_ rfl ⟨rfl, HK.out⟩
  simp [results, Tryz.results99, asAddr, Result.andThen, go_sem]
set_option maxHeartbeats 1000000 in
theorem another_ok (base k : Nat) (name : ByteArray) (av kv : Value) (par : Option Nat) (ns : List Nd) (w : World) (h : El base w k name av par kv ns) :
    Calls Tryz.prog 275 #[.pointer (some ⟨k, 0, none⟩)] w fun e w' => e = .returned (.pointer (some ⟨w.heap.size, 0, none⟩)) ∧ El base w' w.heap.size name av none (.slice none 0 0) [] ∧ Kept [] w w' := by
  have c0 : w.drew.cell? ⟨k, 0, none⟩ = some (.string name) := by show w.cell? _ = _; rw [cell_at h.blk]; rfl
  have c1 : w.drew.cell? ⟨k, 1, none⟩ = some av := by show w.cell? _ = _; rw [cell_at h.blk]; rfl
  have HK := hide ((Kept.refl [] w).drew.alloc (.cells #[.string name, av, .pointer none, .slice none 0 0] 140 (0, 0)))
  have HE := hide (show El base (w.drew.alloc (.cells #[.string name, av, .pointer none, .slice none 0 0] 140 (0, 0))) w.heap.size name av none (.slice none 0 0) [] from ⟨heap_alloc_at w.drew _, World.ownsRow_nil _ _ _ _, by simp, h.avs⟩)
  obtain ⟨aa, an, ac, rfl⟩ := h.avs
  clear h
  go_enter Tryz.func275, Tryz.ntmps275
  go_wp2_with fail
  go_region
  go_wp2
  go_ret
  exact ⟨rfl, HE.out, HK.out⟩
theorem El.setKids {base k : Nat} {w w' : World} {name : ByteArray} {av kv kv' : Value} {par : Option Nat} {ns ns' : List Nd} (h : El base w k name av par kv ns) (hb : w'.heap[k]? = w.heap[k]?) (ho : w'.ownsRow base 142 1 kv' ns'.length (ns'.map Nd.val)) (hl : ns'.length ≤ 1048576) : El base (w'.setCell ⟨k, 3, none⟩ kv') k name av par kv' ns' := by
  have hb' := hb.trans h.blk
  refine ⟨block_setCell hb' 3 kv', ownsRow_setCell_other (a := ⟨k, 3, none⟩) ho ?_ _, hl, h.avs⟩
  intro hk
  rcases ho.2 with ⟨e, _⟩ | ⟨g, cap, cur, e, _, hc, _⟩
  · rw [e] at hk; cases hk
  · rw [e] at hk
    obtain rfl := Option.some.inj hk
    exact block_ne hc hb' (by decide) rfl
theorem El.setPar {base k : Nat} {w : World} {name : ByteArray} {av kv : Value} {par : Option Nat} {ns : List Nd} (h : El base w k name av par kv ns) (p : Option Nat) : El base (w.setCell ⟨k, 2, none⟩ (enc p)) k name av p kv ns :=
  ⟨block_setCell h.blk 2 (enc p), ownsRow_setCell_other (a := ⟨k, 2, none⟩) h.row (h.own_ne h.blk (by decide)) _, h.le, h.avs⟩
theorem cell_setCell_ne {w : World} {a : Addr} {u : Value} {b j : Nat} (h : b ≠ a.block) : (w.setCell a u).cell? ⟨b, j, none⟩ = w.cell? ⟨b, j, none⟩ := World.cell?_of_block (Below.heap_setCell w a u b h)
theorem tap_yes {X e : TypeId} (hu : Tryz.prog.underlying X = some (.pointer e)) (v : Value) (xT : TypeId) (w : World) : (Instr.typeAssert (.iface X v) xT X true).run Tryz.prog w = .ok (.tuple #[v, .bool true]) w := by
  simp [Instr.typeAssert, run_underlying hu]
theorem tap_no {X T e : TypeId} (hu : Tryz.prog.underlying X = some (.pointer e)) (hz : (Tryz.prog.info? X).bind (·.zero) = some (.pointer none)) (hne : T ≠ X) (v : Value) (xT : TypeId) (w : World) : (Instr.typeAssert (.iface T v) xT X true).run Tryz.prog w = .ok (.tuple #[.pointer none, .bool false]) w := by
  obtain ⟨i, hi, hz⟩ := Option.bind_eq_some_iff.1 hz
  simp [Instr.typeAssert, run_underlying hu, hne, zeroValue, typeInfo, hi, hz]
structure Put1 (base k : Nat) (name : ByteArray) (av kv : Value) (par : Option Nat) (ns : List Nd) (w w' : World) : Prop where
  ex : ∃ kv', El base w' k name av par kv' ns ∧ (kv'.ownBlock = kv.ownBlock ∨ ∀ g, kv'.ownBlock = some g → w.heap.size ≤ g)
  kept : Kept (k :: kv.ownBlock.toList) w w'
def PutW (base k n : Nat) (name : ByteArray) (av : Value) (par : Option Nat) (ao : Option Addr) (cap : Nat) (ns : List Nd) (x : Nd) (xt : TypeId) (xp : Value) (w w1 : World) (b10 b11 b14 : Bool) (s17 : Value) (W : World) : Prop :=
  if b14 then Put1 base k name av (.slice ao ns.length cap) par (ns.take n ++ [x] ++ ns.drop n) w W ∧ W.heap[w.heap.size]? = some (.cells #[.pointer (some ⟨k, 0, none⟩), .int .i64 (n : Int)] 235 (0, 0))
  else if b11 then W.ownsRow base 142 1 s17 (ns.length + 1) ((ns.map Nd.val).take n ++ [.iface xt xp] ++ (ns.map Nd.val).drop n) ∧ Kept (Value.slice ao ns.length cap).ownBlock.toList w1 W ∧ (s17.ownBlock = (Value.slice ao ns.length cap).ownBlock ∨ ∀ g, s17.ownBlock = some g → w1.heap.size + 1 ≤ g)
  else if b10 then ∃ W0, Kept [] w1 W0 ∧ W0.heap.size = w1.heap.size ∧ W = W0.alloc (.cells #[.iface xt xp] 142 (0, 0))
  else Kept [] w1 W ∧ W.heap.size = w1.heap.size
theorem PutW.blk {base k n : Nat} {name : ByteArray} {av : Value} {par : Option Nat} {ao : Option Addr} {cap : Nat} {ns : List Nd} {x : Nd} {xt : TypeId} {xp : Value} {w w1 : World} {b10 b11 b14 : Bool} {s17 : Value} {W : World} (h : PutW base k n name av par ao cap ns x xt xp w w1 b10 b11 b14 s17 W) (hg : w1.heap[w.heap.size]? = some (.cells #[.pointer (some ⟨k, 0, none⟩), .int .i64 (n : Int)] 235 (0, 0))) (hb : w.heap.size ∉ (Value.slice ao ns.length cap).ownBlock.toList) : W.heap[w.heap.size]? = some (.cells #[.pointer (some ⟨k, 0, none⟩), .int .i64 (n : Int)] 235 (0, 0)) := by
  unfold PutW at h
  split at h
  · exact h.2
  split at h
  · exact h.2.1.at hg hb
  split at h
  · obtain ⟨W0, q1, _, rfl⟩ := h
    exact (q1.alloc _).at hg (by simp)
  · exact h.1.at hg (by simp)
theorem PutW.old {base k n : Nat} {name : ByteArray} {av : Value} {par : Option Nat} {ao : Option Addr} {cap : Nat} {ns : List Nd} {x : Nd} {xt : TypeId} {xp : Value} {w w1 : World} {b10 : Bool} {s17 : Value} {W : World} (h : PutW base k n name av par ao cap ns x xt xp w w1 b10 false false s17 W) : Kept [] w1 W := by
  unfold PutW at h
  simp only [Bool.false_eq_true, ↓reduceIte] at h
  split at h
  · obtain ⟨W0, q1, _, rfl⟩ := h
    exact q1.alloc _
  · exact h.1
theorem put_mid {base n : Nat} {ao : Option Addr} {cap : Nat} {ns : List Nd} {u v' : Value} {w1 W0 W W2 : World} (q1 : Kept [] w1 W0) (q2 : W0.heap.size = w1.heap.size) (hq : W = W0.alloc (.cells #[u] 142 (0, 0))) (ho : W2.ownsRow base 142 1 v' (ns.length + 1) ((ns.map Nd.val).take n ++ [u] ++ (ns.map Nd.val).drop n)) (hk : Kept (Value.slice ao ns.length cap).ownBlock.toList W W2) (hf : v'.ownBlock = (Value.slice ao ns.length cap).ownBlock ∨ ∀ k, v'.ownBlock = some k → W.heap.size ≤ k) :
    W2.ownsRow base 142 1 v' (ns.length + 1) ((ns.map Nd.val).take n ++ [u] ++ (ns.map Nd.val).drop n) ∧ Kept (Value.slice ao ns.length cap).ownBlock.toList w1 W2 ∧ (v'.ownBlock = (Value.slice ao ns.length cap).ownBlock ∨ ∀ g, v'.ownBlock = some g → w1.heap.size + 1 ≤ g) := by
  subst hq
  refine ⟨ho, ((q1.alloc _).mono (by simp)).trans hk, ?_⟩
  rcases hf with e | e
  · exact .inl e
  · refine .inr fun g hg => ?_
    have := e g hg
    have h7 : (W0.alloc (.cells #[u] 142 (0, 0))).heap.size = W0.heap.size + 1 := by simp
    omega
theorem put_fin {base k n : Nat} {name : ByteArray} {av : Value} {par : Option Nat} {ao ao2 : Option Addr} {cap cap2 : Nat} {ns : List Nd} {x : Nd} {u : Value} {w w1 W : World} (H1 : El base w1 k name av par (.slice ao ns.length cap) ns) (k1 : Kept [] w w1) (z1 : w1.heap.size = w.heap.size + 1) (hg : w1.heap[w.heap.size]? = some (.cells #[.pointer (some ⟨k, 0, none⟩), .int .i64 (n : Int)] 235 (0, 0))) (hne : k ∉ (Value.slice ao ns.length cap).ownBlock.toList) (hnb : w.heap.size ∉ (Value.slice ao ns.length cap).ownBlock.toList) (hn : n ≤ ns.length) (hl : ns.length < 1048576) (hkb : w.heap.size ≠ k) (hxv : x.val = u)
    (ho : W.ownsRow base 142 1 (.slice ao2 (ns.length + 1) cap2) (ns.length + 1) ((ns.map Nd.val).take n ++ [u] ++ (ns.map Nd.val).drop n)) (hk : Kept (Value.slice ao ns.length cap).ownBlock.toList w1 W) (hf : (Value.slice ao2 (ns.length + 1) cap2).ownBlock = (Value.slice ao ns.length cap).ownBlock ∨ ∀ g, (Value.slice ao2 (ns.length + 1) cap2).ownBlock = some g → w1.heap.size + 1 ≤ g) :
    Put1 base k name av (.slice ao ns.length cap) par (ns.take n ++ [x] ++ ns.drop n) w (W.setCell ⟨k, 3, none⟩ (.slice ao2 (ns.length + 1) cap2)) ∧ (W.setCell ⟨k, 3, none⟩ (.slice ao2 (ns.length + 1) cap2)).heap[w.heap.size]? = some (.cells #[.pointer (some ⟨k, 0, none⟩), .int .i64 (n : Int)] 235 (0, 0)) := by
  have hlen : (ns.take n ++ [x] ++ ns.drop n).length = ns.length + 1 := by simp; omega
  have hmap : (ns.take n ++ [x] ++ ns.drop n).map Nd.val = (ns.map Nd.val).take n ++ [u] ++ (ns.map Nd.val).drop n := by simp [hxv]
  have e2 := hk.at H1.blk hne
  have g2 := hk.at hg hnb
  refine ⟨⟨⟨.slice ao2 (ns.length + 1) cap2, H1.setKids (e2.trans H1.blk.symm) (by rw [hlen, hmap]; exact ho) (by rw [hlen]; omega), ?_⟩, ?_⟩, ?_⟩
  · rcases hf with e | e
    · exact .inl e
    · refine .inr fun g hg => ?_
      have h6 := e g hg
      omega
  · exact ((k1.mono (S' := k :: (Value.slice ao ns.length cap).ownBlock.toList) (by simp)).next hk (fun y hy => .inl (List.mem_cons_of_mem _ hy))).setCell (p := ⟨k, 3, none⟩) (.inl (by simp)) _
  · rw [Below.heap_setCell W ⟨k, 3, none⟩ _ _ hkb]; exact g2
structure PutI (base k n : Nat) (name : ByteArray) (av : Value) (par : Option Nat) (ao : Option Addr) (cap : Nat) (ns : List Nd) (x : Nd) (xt : TypeId) (xp : Value) (w w1 : World) (b0 b1 b2 b3 b4 b5 b6 b7 b8 b9 b10 b11 b12 b13 b14 : Bool) (s6 s7 s8 s9 s10 s11 s12 s13 s14 s15 s16 s17 s18 s19 : Value) (W : World) : Prop where
  f0 : b0 = true → s6 = .pointer (some ⟨w.heap.size, 0, none⟩)
  f1 : b1 = true → s7 = .pointer (some ⟨k, 0, none⟩)
  f2 : b2 = true → s8 = .pointer (some ⟨w.heap.size, 0, none⟩)
  f3 : b3 = true → s9 = .pointer (some ⟨k, 0, none⟩)
  f4 : b4 = true → s10 = .pointer (some ⟨k, 0, none⟩)
  f5 : b5 = true → s11 = .pointer (some ⟨k, 3, none⟩)
  f6 : b6 = true → s12 = .slice ao ns.length cap
  f7 : b7 = true → s13 = .pointer (some ⟨w.heap.size, 1, none⟩)
  f8 : b8 = true → s14 = .int .i64 (n : Int)
  f9 : b9 = true → s15 = .iface xt xp
  f10 : b10 = true → s16 = .slice (some ⟨w1.heap.size, 0, none⟩) 1 1
  f11 : b11 = true → ∃ ao' cap', s17 = .slice ao' (ns.length + 1) cap'
  f12 : b12 = true → s18 = .pointer (some ⟨k, 0, none⟩)
  f13 : b13 = true → s19 = .pointer (some ⟨k, 3, none⟩)
  d : (b11 = true → b6 = true ∧ b10 = true) ∧ (b14 = true → b11 = true)
  wi : PutW base k n name av par ao cap ns x xt xp w w1 b10 b11 b14 s17 W
set_option maxHeartbeats 4000000 in
set_option maxRecDepth 100000 in
theorem put_ok (base k n : Nat) (name : ByteArray) (av kv : Value) (par : Option Nat) (ns : List Nd) (x : Nd) (w : World) (h : El base w k name av par kv ns) (hn : n ≤ ns.length) (hl : ns.length < 1048576) (hb : base ≤ w.heap.size) (hx : ∀ j, x ≠ .el j) :
    Calls Tryz.prog 175 #[place k n, x.val] w fun e w' => e = .returned (.tuple #[]) ∧ Put1 base k name av kv par (ns.take n ++ [x] ++ ns.drop n) w w' := by
  have hkl := lt_of_block h.blk
  have hol := h.row.lt
  obtain ⟨w1, hw1⟩ : ∃ w1, w1 = w.alloc (.cells #[.pointer (some ⟨k, 0, none⟩), .int .i64 (n : Int)] 235 (0, 0)) := ⟨_, rfl⟩
  have k1 : Kept [] w w1 := by rw [hw1]; exact (Kept.refl _ _).alloc _
  have g1 : w1.heap[w.heap.size]? = some (.cells #[.pointer (some ⟨k, 0, none⟩), .int .i64 (n : Int)] 235 (0, 0)) := by rw [hw1]; exact heap_alloc_at w _
  have z1 : w1.heap.size = w.heap.size + 1 := by rw [hw1]; simp
  have h1 := h.kept k1 (by simp) (by simp)
  obtain ⟨ao, cap, rfl⟩ := owns_shape h.row
  have HI : ∀ W, Kept [] w1 W → W.heap.size = w1.heap.size → Calls Tryz.prog 266 #[.slice ao ns.length cap, .int .i64 (n : Int), .slice (some ⟨w1.heap.size, 0, none⟩) 1 1] (W.alloc (.cells #[x.val] 142 (0, 0))) (InsN base (.slice ao ns.length cap) ns.length n (ns.map Nd.val) x.val (W.alloc (.cells #[x.val] 142 (0, 0)))) := by
    intro W kW zW
    have k2 : Kept [] w1 (W.alloc (.cells #[x.val] 142 (0, 0))) := kW.alloc _
    have g2 := heap_alloc_at W (.cells #[x.val] 142 (0, 0))
    rw [zW] at g2
    exact ins_N base ns.length n w1.heap.size _ x.val (ns.map Nd.val) _ (k2.ownsRow h1.row (fun _ _ => by simp)) g2 (fun e => by have := (hol _ e).2; omega) x.one (nds_one ns) hn h.le (by simp; omega)
  have HH := hide h
  have H1 := hide h1
  have HHI := hide HI
  have HK1 := hide k1
  have HG1 := hide g1
  have HZ1 := hide z1
  have HOL := hide hol
  have cB0 : w1.cell? ⟨w.heap.size, 0, none⟩ = some (.pointer (some ⟨k, 0, none⟩)) := by rw [cell_at g1]; rfl
  have cB1 : w1.cell? ⟨w.heap.size, 1, none⟩ = some (.int .i64 (n : Int)) := by rw [cell_at g1]; rfl
  have cK3 : w1.cell? ⟨k, 3, none⟩ = some (.slice ao ns.length cap) := by rw [cell_at h1.blk]; rfl
  have HNE := hide (show k ∉ (Value.slice ao ns.length cap).ownBlock.toList by simpa using h1.own_ne h1.blk (by decide))
  have HNB := hide (show w.heap.size ∉ (Value.slice ao ns.length cap).ownBlock.toList by simpa using h1.own_ne g1 (by decide))
  have hlt1 : w.heap.size < w1.heap.size := by omega
  have hkb : w.heap.size ≠ k := by omega
  have hlt2 : k < w1.heap.size := by omega
  have HW1 := hide hw1
  clear h h1 HI k1 g1 z1 hol hw1
  obtain ⟨xt, xp, hxv⟩ : ∃ xt xp, x.val = .iface xt xp := by cases x <;> exact ⟨_, _, rfl⟩
  rw [hxv] at HHI ⊢
  go_enter Tryz.func175, Tryz.ntmps175
  go_wp2_with fail
  rw [← HW1.out]
  go_cut [] from 6 to 19 (fun wc => Put1 base k name av (.slice ao ns.length cap) par (ns.take n ++ [x] ++ ns.drop n) w wc ∧ wc.heap[w.heap.size]? = some (.cells #[.pointer (some ⟨k, 0, none⟩), .int .i64 (n : Int)] 235 (0, 0)))
  case first =>
    refine wp_region_any (by kernel_rfl) ?_
    try (change wpAny _ _ _ _ _ _ _ (World.drew _))
    refine wpAny_inv (I := fun listed a W => ∃ b0 b1 b2 b3 b4 b5 b6 b7 b8 b9 b10 b11 b12 b13 b14 s6 s7 s8 s9 s10 s11 s12 s13 s14 s15 s16 s17 s18 s19, listed = #[b0, b1, b2, b3, b4, b5, b6, b7, b8, b9, b10, b11, b12, b13, b14] ∧ a = ⟨#[place k n, .iface xt xp, .pointer (some ⟨w.heap.size, 0, none⟩), undef, undef, undef, s6, s7, s8, s9, s10, s11, s12, s13, s14, s15, s16, s17, s18, s19, undef, undef, undef, undef, undef, undef, undef, undef, undef, undef, undef], []⟩ ∧ PutI base k n name av par ao cap ns x xt xp w w1 b0 b1 b2 b3 b4 b5 b6 b7 b8 b9 b10 b11 b12 b13 b14 s6 s7 s8 s9 s10 s11 s12 s13 s14 s15 s16 s17 s18 s19 W) ?_ ?_ _ _ _ _ ?_ ?_
    · rintro listed a W k ⟨b0, b1, b2, b3, b4, b5, b6, b7, b8, b9, b10, b11, b12, b13, b14, s6, s7, s8, s9, s10, s11, s12, s13, s14, s15, s16, s17, s18, s19, rfl, rfl, hI⟩ hi
      simp only [Region.ready, List.mem_filter, List.mem_range] at hi
      obtain ⟨hlt, hc⟩ := hi
      have hlt : k < 15 := hlt
      obtain rfl | rfl | rfl | rfl | rfl | rfl | rfl | rfl | rfl | rfl | rfl | rfl | rfl | rfl | rfl : k = 0 ∨ k = 1 ∨ k = 2 ∨ k = 3 ∨ k = 4 ∨ k = 5 ∨ k = 6 ∨ k = 7 ∨ k = 8 ∨ k = 9 ∨ k = 10 ∨ k = 11 ∨ k = 12 ∨ k = 13 ∨ k = 14 := by omega
      all_goals simp [Region.binds] at hc
      · refine wpOp_step rfl ?_
        intro K' hK'
        go_simp
        refine hK' _ _ ⟨_, _, _, _, _, _, _, _, _, _, _, _, _, _, _, _, _, _, _, _, _, _, _, _, _, _, _, _, _, rfl, rfl, ?_⟩
        exact ⟨fun _ => rfl, hI.f1, hI.f2, hI.f3, hI.f4, hI.f5, hI.f6, hI.f7, hI.f8, hI.f9, hI.f10, hI.f11, hI.f12, hI.f13, hI.d, hI.wi⟩
      · refine wpOp_step rfl ?_
        intro K' hK'
        have e0 := hI.f0 (by simp [hc])
        subst e0
        have gB := hI.wi.blk HG1.out HNB.out
        have cB : W.cell? ⟨w.heap.size, 0, none⟩ = some (.pointer (some ⟨k, 0, none⟩)) := by rw [cell_at gB]; rfl
        go_simp
        refine hK' _ _ ⟨_, _, _, _, _, _, _, _, _, _, _, _, _, _, _, _, _, _, _, _, _, _, _, _, _, _, _, _, _, rfl, rfl, ?_⟩
        exact ⟨hI.f0, fun _ => rfl, hI.f2, hI.f3, hI.f4, hI.f5, hI.f6, hI.f7, hI.f8, hI.f9, hI.f10, hI.f11, hI.f12, hI.f13, hI.d, hI.wi⟩
      · refine wpOp_step rfl ?_
        intro K' hK'
        go_simp
        refine hK' _ _ ⟨_, _, _, _, _, _, _, _, _, _, _, _, _, _, _, _, _, _, _, _, _, _, _, _, _, _, _, _, _, rfl, rfl, ?_⟩
        exact ⟨hI.f0, hI.f1, fun _ => rfl, hI.f3, hI.f4, hI.f5, hI.f6, hI.f7, hI.f8, hI.f9, hI.f10, hI.f11, hI.f12, hI.f13, hI.d, hI.wi⟩
      · refine wpOp_step rfl ?_
        intro K' hK'
        have e2 := hI.f2 (by simp [hc])
        subst e2
        have gB := hI.wi.blk HG1.out HNB.out
        have cB : W.cell? ⟨w.heap.size, 0, none⟩ = some (.pointer (some ⟨k, 0, none⟩)) := by rw [cell_at gB]; rfl
        go_simp
        refine hK' _ _ ⟨_, _, _, _, _, _, _, _, _, _, _, _, _, _, _, _, _, _, _, _, _, _, _, _, _, _, _, _, _, rfl, rfl, ?_⟩
        exact ⟨hI.f0, hI.f1, hI.f2, fun _ => rfl, hI.f4, hI.f5, hI.f6, hI.f7, hI.f8, hI.f9, hI.f10, hI.f11, hI.f12, hI.f13, hI.d, hI.wi⟩
      · refine wpOp_step rfl ?_
        intro K' hK'
        have e3 := hI.f3 (by simp [hc])
        subst e3
        go_simp
        refine hK' _ _ ⟨_, _, _, _, _, _, _, _, _, _, _, _, _, _, _, _, _, _, _, _, _, _, _, _, _, _, _, _, _, rfl, rfl, ?_⟩
        exact ⟨hI.f0, hI.f1, hI.f2, hI.f3, fun _ => rfl, hI.f5, hI.f6, hI.f7, hI.f8, hI.f9, hI.f10, hI.f11, hI.f12, hI.f13, hI.d, hI.wi⟩
      · refine wpOp_step rfl ?_
        intro K' hK'
        have e4 := hI.f4 (by simp [hc])
        subst e4
        go_simp
        refine hK' _ _ ⟨_, _, _, _, _, _, _, _, _, _, _, _, _, _, _, _, _, _, _, _, _, _, _, _, _, _, _, _, _, rfl, rfl, ?_⟩
        exact ⟨hI.f0, hI.f1, hI.f2, hI.f3, hI.f4, fun _ => rfl, hI.f6, hI.f7, hI.f8, hI.f9, hI.f10, hI.f11, hI.f12, hI.f13, hI.d, hI.wi⟩
      · refine wpOp_step rfl ?_
        intro K' hK'
        have e5 := hI.f5 (by simp [hc])
        subst e5
        have hb11 : b11 = false := by
          cases b11 with
          | false => rfl
          | true => exact absurd (hI.d.1 rfl).1 (by simp [hc])
        subst hb11
        have hb14 : b14 = false := by
          cases b14 with
          | false => rfl
          | true => exact absurd (hI.d.2 rfl) (by simp [hc])
        subst hb14
        have gK := hI.wi.old
        have cK : W.cell? ⟨k, 3, none⟩ = some (.slice ao ns.length cap) := by rw [cell_at (gK.at H1.out.blk (by simp))]; rfl
        go_simp
        refine hK' _ _ ⟨_, _, _, _, _, _, _, _, _, _, _, _, _, _, _, _, _, _, _, _, _, _, _, _, _, _, _, _, _, rfl, rfl, ?_⟩
        exact ⟨hI.f0, hI.f1, hI.f2, hI.f3, hI.f4, hI.f5, fun _ => rfl, hI.f7, hI.f8, hI.f9, hI.f10, hI.f11, hI.f12, hI.f13, ⟨fun h => ⟨rfl, (hI.d.1 h).2⟩, hI.d.2⟩, hI.wi⟩
      · refine wpOp_step rfl ?_
        intro K' hK'
        go_simp
        refine hK' _ _ ⟨_, _, _, _, _, _, _, _, _, _, _, _, _, _, _, _, _, _, _, _, _, _, _, _, _, _, _, _, _, rfl, rfl, ?_⟩
        exact ⟨hI.f0, hI.f1, hI.f2, hI.f3, hI.f4, hI.f5, hI.f6, fun _ => rfl, hI.f8, hI.f9, hI.f10, hI.f11, hI.f12, hI.f13, hI.d, hI.wi⟩
      · refine wpOp_step rfl ?_
        intro K' hK'
        have e7 := hI.f7 (by simp [hc])
        subst e7
        have gB := hI.wi.blk HG1.out HNB.out
        have cB : W.cell? ⟨w.heap.size, 1, none⟩ = some (.int .i64 (n : Int)) := by rw [cell_at gB]; rfl
        go_simp
        refine hK' _ _ ⟨_, _, _, _, _, _, _, _, _, _, _, _, _, _, _, _, _, _, _, _, _, _, _, _, _, _, _, _, _, rfl, rfl, ?_⟩
        exact ⟨hI.f0, hI.f1, hI.f2, hI.f3, hI.f4, hI.f5, hI.f6, hI.f7, fun _ => rfl, hI.f9, hI.f10, hI.f11, hI.f12, hI.f13, hI.d, hI.wi⟩
      · refine wpOp_step rfl ?_
        intro K' hK'
        go_simp
        refine hK' _ _ ⟨_, _, _, _, _, _, _, _, _, _, _, _, _, _, _, _, _, _, _, _, _, _, _, _, _, _, _, _, _, rfl, rfl, ?_⟩
        exact ⟨hI.f0, hI.f1, hI.f2, hI.f3, hI.f4, hI.f5, hI.f6, hI.f7, hI.f8, fun _ => rfl, hI.f10, hI.f11, hI.f12, hI.f13, hI.d, hI.wi⟩
      · refine wpOp_step rfl ?_
        intro K' hK'
        have e9 := hI.f9 (by simp [hc])
        subst e9
        have hb11 : b11 = false := by
          cases b11 with
          | false => rfl
          | true => exact absurd (hI.d.1 rfl).2 (by simp [hc])
        subst hb11
        have hb14 : b14 = false := by
          cases b14 with
          | false => rfl
          | true => exact absurd (hI.d.2 rfl) (by simp [hc])
        subst hb14
        have hb10 : b10 = false := by simp [hc]
        subst hb10
        have q : Kept [] w1 W ∧ W.heap.size = w1.heap.size := hI.wi
        go_simp
        refine hK' _ _ ⟨_, _, _, _, _, _, _, _, _, _, _, _, _, _, _, _, _, _, _, _, _, _, _, _, _, _, _, _, _, rfl, rfl, ?_⟩
        exact ⟨hI.f0, hI.f1, hI.f2, hI.f3, hI.f4, hI.f5, hI.f6, hI.f7, hI.f8, hI.f9, fun _ => rfl, hI.f11, hI.f12, hI.f13, ⟨fun h => ⟨(hI.d.1 h).1, rfl⟩, hI.d.2⟩, ⟨W, q.1, q.2, rfl⟩⟩
      · refine wpOp_step rfl ?_
        intro K' hK'
        have e6 := hI.f6 (by simp [hc])
        subst e6
        have e8 := hI.f8 (by simp [hc])
        subst e8
        have e10 := hI.f10 (by simp [hc])
        subst e10
        have hb11 : b11 = false := by simp [hc]
        subst hb11
        have hb14 : b14 = false := by
          cases b14 with
          | false => rfl
          | true => exact absurd (hI.d.2 rfl) (by simp [hc])
        subst hb14
        have hb10 : b10 = true := by simp [hc]
        subst hb10
        have q : ∃ W0, Kept [] w1 W0 ∧ W0.heap.size = w1.heap.size ∧ W = W0.alloc (.cells #[.iface xt xp] 142 (0, 0)) := hI.wi
        obtain ⟨W0, q1, q2, hq⟩ := q
        have C := hide (HHI.out W0 q1 q2)
        rw [← hq] at C
        have HQ := hide hq
        clear hq
        go_simp
        refine C.out.mono ?_
        rintro e W2 ⟨v', rfl, ho2, hk2, hf2⟩
        have hs := owns_shape ho2
        refine hK' _ _ ⟨_, _, _, _, _, _, _, _, _, _, _, _, _, _, _, _, _, _, _, _, _, _, _, _, _, _, _, _, _, rfl, rfl, ?_⟩
        exact ⟨hI.f0, hI.f1, hI.f2, hI.f3, hI.f4, hI.f5, hI.f6, hI.f7, hI.f8, hI.f9, hI.f10, fun _ => by obtain ⟨x1, x2, x3⟩ := hs; exact ⟨x1, x2, x3⟩, hI.f12, hI.f13, ⟨fun _ => ⟨by simp [hc], rfl⟩, fun _ => rfl⟩, put_mid q1 q2 HQ.out ho2 hk2 hf2⟩
      · refine wpOp_step rfl ?_
        intro K' hK'
        have e1 := hI.f1 (by simp [hc])
        subst e1
        go_simp
        refine hK' _ _ ⟨_, _, _, _, _, _, _, _, _, _, _, _, _, _, _, _, _, _, _, _, _, _, _, _, _, _, _, _, _, rfl, rfl, ?_⟩
        exact ⟨hI.f0, hI.f1, hI.f2, hI.f3, hI.f4, hI.f5, hI.f6, hI.f7, hI.f8, hI.f9, hI.f10, hI.f11, fun _ => rfl, hI.f13, hI.d, hI.wi⟩
      · refine wpOp_step rfl ?_
        intro K' hK'
        have e12 := hI.f12 (by simp [hc])
        subst e12
        go_simp
        refine hK' _ _ ⟨_, _, _, _, _, _, _, _, _, _, _, _, _, _, _, _, _, _, _, _, _, _, _, _, _, _, _, _, _, rfl, rfl, ?_⟩
        exact ⟨hI.f0, hI.f1, hI.f2, hI.f3, hI.f4, hI.f5, hI.f6, hI.f7, hI.f8, hI.f9, hI.f10, hI.f11, hI.f12, fun _ => rfl, hI.d, hI.wi⟩
      · refine wpOp_step rfl ?_
        intro K' hK'
        have e13 := hI.f13 (by simp [hc])
        subst e13
        have e11 := hI.f11 (by simp [hc])
        obtain ⟨ao2, cap2, hs17⟩ := e11
        subst hs17
        have hb14 : b14 = false := by simp [hc]
        subst hb14
        have hb11 : b11 = true := by simp [hc]
        subst hb11
        have q : W.ownsRow base 142 1 (.slice ao2 (ns.length + 1) cap2) (ns.length + 1) ((ns.map Nd.val).take n ++ [.iface xt xp] ++ (ns.map Nd.val).drop n) ∧ Kept (Value.slice ao ns.length cap).ownBlock.toList w1 W ∧ ((Value.slice ao2 (ns.length + 1) cap2).ownBlock = (Value.slice ao ns.length cap).ownBlock ∨ ∀ g, (Value.slice ao2 (ns.length + 1) cap2).ownBlock = some g → w1.heap.size + 1 ≤ g) := hI.wi
        have gK := q.2.1.at H1.out.blk HNE.out
        have cK : W.cell? ⟨k, 3, none⟩ = some (.slice ao ns.length cap) := by rw [cell_at gK]; rfl
        have zK := free_at gK 3
        go_simp
        refine hK' _ _ ⟨_, _, _, _, _, _, _, _, _, _, _, _, _, _, _, _, _, _, _, _, _, _, _, _, _, _, _, _, _, rfl, rfl, ?_⟩
        exact ⟨hI.f0, hI.f1, hI.f2, hI.f3, hI.f4, hI.f5, hI.f6, hI.f7, hI.f8, hI.f9, hI.f10, hI.f11, hI.f12, hI.f13, ⟨hI.d.1, fun _ => rfl⟩, put_fin H1.out HK1.out HZ1.out HG1.out HNE.out HNB.out hn hl hkb hxv q.1 q.2.1 q.2.2⟩
    · rintro listed a W ⟨b0, b1, b2, b3, b4, b5, b6, b7, b8, b9, b10, b11, b12, b13, b14, s6, s7, s8, s9, s10, s11, s12, s13, s14, s15, s16, s17, s18, s19, rfl, rfl, hI⟩ hr
      simp only [Region.ready, List.filter_eq_nil_iff, List.mem_range] at hr
      have q0 := hr 0 (by decide)
      simp [Region.binds] at q0
      subst q0
      have q1 := hr 1 (by decide)
      simp [Region.binds] at q1
      subst q1
      have q2 := hr 2 (by decide)
      simp [Region.binds] at q2
      subst q2
      have q3 := hr 3 (by decide)
      simp [Region.binds] at q3
      subst q3
      have q4 := hr 4 (by decide)
      simp [Region.binds] at q4
      subst q4
      have q5 := hr 5 (by decide)
      simp [Region.binds] at q5
      subst q5
      have q6 := hr 6 (by decide)
      simp [Region.binds] at q6
      subst q6
      have q7 := hr 7 (by decide)
      simp [Region.binds] at q7
      subst q7
      have q8 := hr 8 (by decide)
      simp [Region.binds] at q8
      subst q8
      have q9 := hr 9 (by decide)
      simp [Region.binds] at q9
      subst q9
      have q10 := hr 10 (by decide)
      simp [Region.binds] at q10
      subst q10
      have q11 := hr 11 (by decide)
      simp [Region.binds] at q11
      subst q11
      have q12 := hr 12 (by decide)
      simp [Region.binds] at q12
      subst q12
      have q13 := hr 13 (by decide)
      simp [Region.binds] at q13
      subst q13
      have q14 := hr 14 (by decide)
      simp [Region.binds] at q14
      subst q14
      rename_i JJ hJJ
      refine hJJ _ _ ?_
      go_meet
      exact hI.wi
    · decide
    · exact ⟨_, _, _, _, _, _, _, _, _, _, _, _, _, _, _, _, _, _, _, _, _, _, _, _, _, _, _, _, _, rfl, rfl, by simp, by simp, by simp, by simp, by simp, by simp, by simp, by simp, by simp, by simp, by simp, by simp, by simp, by simp, by simp, ⟨(Kept.refl [] w1).drew, rfl⟩⟩
  case rest =>
    obtain ⟨hp, hbx⟩ := hcut
    have HP := hide hp
    clear hp HHI HH H1
    cases x with
    | el j => exact absurd rfl (hx j)
    | tx j =>
      injection hxv with e1 e2
      subst e1 e2
      have hta := tap_no (X := 72) (T := 281) Tryz.underlying72 (by kernel_rfl) (by decide)
      go_wp2
      go_end0
      exact ⟨rfl, HP.out⟩
    | cm j =>
      injection hxv with e1 e2
      subst e1 e2
      have hta := tap_no (X := 72) (T := 237) Tryz.underlying72 (by kernel_rfl) (by decide)
      go_wp2
      go_end0
      exact ⟨rfl, HP.out⟩
    | dt j =>
      injection hxv with e1 e2
      subst e1 e2
      have hta := tap_no (X := 72) (T := 241) Tryz.underlying72 (by kernel_rfl) (by decide)
      go_wp2
      go_end0
      exact ⟨rfl, HP.out⟩
set_option maxHeartbeats 4000000 in
set_option maxRecDepth 100000 in
theorem put_el (base k n j : Nat) (name nm2 : ByteArray) (av kv av2 kv2 : Value) (par par2 : Option Nat) (ns ns2 : List Nd) (w : World) (h : El base w k name av par kv ns) (hj : El base w j nm2 av2 par2 kv2 ns2) (hjk : j ≠ k) (hap : ∀ g, kv2.ownBlock = some g → kv.ownBlock ≠ some g) (hn : n ≤ ns.length) (hl : ns.length < 1048576) (hb : base ≤ w.heap.size) :
    Calls Tryz.prog 175 #[place k n, (Nd.el j).val] w fun e w' => e = .returned (.tuple #[]) ∧ (∃ kv', El base w' k name av par kv' (ns.take n ++ [.el j] ++ ns.drop n) ∧ (kv'.ownBlock = kv.ownBlock ∨ ∀ g, kv'.ownBlock = some g → w.heap.size ≤ g)) ∧ El base w' j nm2 av2 (some k) kv2 ns2 ∧ Kept (j :: k :: kv.ownBlock.toList) w w' := by
  obtain ⟨x, hxe⟩ : ∃ x, x = Nd.el j := ⟨_, rfl⟩
  rw [← hxe]
  have HJ := hide hj
  have HXE := hide hxe
  have HAP := hide hap
  clear hj hxe hap
  have hkl := lt_of_block h.blk
  have hol := h.row.lt
  obtain ⟨w1, hw1⟩ : ∃ w1, w1 = w.alloc (.cells #[.pointer (some ⟨k, 0, none⟩), .int .i64 (n : Int)] 235 (0, 0)) := ⟨_, rfl⟩
  have k1 : Kept [] w w1 := by rw [hw1]; exact (Kept.refl _ _).alloc _
  have g1 : w1.heap[w.heap.size]? = some (.cells #[.pointer (some ⟨k, 0, none⟩), .int .i64 (n : Int)] 235 (0, 0)) := by rw [hw1]; exact heap_alloc_at w _
  have z1 : w1.heap.size = w.heap.size + 1 := by rw [hw1]; simp
  have h1 := h.kept k1 (by simp) (by simp)
  obtain ⟨ao, cap, rfl⟩ := owns_shape h.row
  have HI : ∀ W, Kept [] w1 W → W.heap.size = w1.heap.size → Calls Tryz.prog 266 #[.slice ao ns.length cap, .int .i64 (n : Int), .slice (some ⟨w1.heap.size, 0, none⟩) 1 1] (W.alloc (.cells #[x.val] 142 (0, 0))) (InsN base (.slice ao ns.length cap) ns.length n (ns.map Nd.val) x.val (W.alloc (.cells #[x.val] 142 (0, 0)))) := by
    intro W kW zW
    have k2 : Kept [] w1 (W.alloc (.cells #[x.val] 142 (0, 0))) := kW.alloc _
    have g2 := heap_alloc_at W (.cells #[x.val] 142 (0, 0))
    rw [zW] at g2
    exact ins_N base ns.length n w1.heap.size _ x.val (ns.map Nd.val) _ (k2.ownsRow h1.row (fun _ _ => by simp)) g2 (fun e => by have := (hol _ e).2; omega) x.one (nds_one ns) hn h.le (by simp; omega)
  have HH := hide h
  have H1 := hide h1
  have HHI := hide HI
  have HK1 := hide k1
  have HG1 := hide g1
  have HZ1 := hide z1
  have HOL := hide hol
  have cB0 : w1.cell? ⟨w.heap.size, 0, none⟩ = some (.pointer (some ⟨k, 0, none⟩)) := by rw [cell_at g1]; rfl
  have cB1 : w1.cell? ⟨w.heap.size, 1, none⟩ = some (.int .i64 (n : Int)) := by rw [cell_at g1]; rfl
  have cK3 : w1.cell? ⟨k, 3, none⟩ = some (.slice ao ns.length cap) := by rw [cell_at h1.blk]; rfl
  have HNE := hide (show k ∉ (Value.slice ao ns.length cap).ownBlock.toList by simpa using h1.own_ne h1.blk (by decide))
  have HNB := hide (show w.heap.size ∉ (Value.slice ao ns.length cap).ownBlock.toList by simpa using h1.own_ne g1 (by decide))
  have hlt1 : w.heap.size < w1.heap.size := by omega
  have hkb : w.heap.size ≠ k := by omega
  have hlt2 : k < w1.heap.size := by omega
  have HW1 := hide hw1
  clear h h1 HI k1 g1 z1 hol hw1
  obtain ⟨xt, xp, hxv⟩ : ∃ xt xp, x.val = .iface xt xp := by cases x <;> exact ⟨_, _, rfl⟩
  rw [hxv] at HHI ⊢
  go_enter Tryz.func175, Tryz.ntmps175
  go_wp2_with fail
  rw [← HW1.out]
  go_cut [] from 6 to 19 (fun wc => Put1 base k name av (.slice ao ns.length cap) par (ns.take n ++ [x] ++ ns.drop n) w wc ∧ wc.heap[w.heap.size]? = some (.cells #[.pointer (some ⟨k, 0, none⟩), .int .i64 (n : Int)] 235 (0, 0)))
  case first =>
    refine wp_region_any (by kernel_rfl) ?_
    try (change wpAny _ _ _ _ _ _ _ (World.drew _))
    refine wpAny_inv (I := fun listed a W => ∃ b0 b1 b2 b3 b4 b5 b6 b7 b8 b9 b10 b11 b12 b13 b14 s6 s7 s8 s9 s10 s11 s12 s13 s14 s15 s16 s17 s18 s19, listed = #[b0, b1, b2, b3, b4, b5, b6, b7, b8, b9, b10, b11, b12, b13, b14] ∧ a = ⟨#[place k n, .iface xt xp, .pointer (some ⟨w.heap.size, 0, none⟩), undef, undef, undef, s6, s7, s8, s9, s10, s11, s12, s13, s14, s15, s16, s17, s18, s19, undef, undef, undef, undef, undef, undef, undef, undef, undef, undef, undef], []⟩ ∧ PutI base k n name av par ao cap ns x xt xp w w1 b0 b1 b2 b3 b4 b5 b6 b7 b8 b9 b10 b11 b12 b13 b14 s6 s7 s8 s9 s10 s11 s12 s13 s14 s15 s16 s17 s18 s19 W) ?_ ?_ _ _ _ _ ?_ ?_
    · rintro listed a W k ⟨b0, b1, b2, b3, b4, b5, b6, b7, b8, b9, b10, b11, b12, b13, b14, s6, s7, s8, s9, s10, s11, s12, s13, s14, s15, s16, s17, s18, s19, rfl, rfl, hI⟩ hi
      simp only [Region.ready, List.mem_filter, List.mem_range] at hi
      obtain ⟨hlt, hc⟩ := hi
      have hlt : k < 15 := hlt
      obtain rfl | rfl | rfl | rfl | rfl | rfl | rfl | rfl | rfl | rfl | rfl | rfl | rfl | rfl | rfl : k = 0 ∨ k = 1 ∨ k = 2 ∨ k = 3 ∨ k = 4 ∨ k = 5 ∨ k = 6 ∨ k = 7 ∨ k = 8 ∨ k = 9 ∨ k = 10 ∨ k = 11 ∨ k = 12 ∨ k = 13 ∨ k = 14 := by omega
      all_goals simp [Region.binds] at hc
      · refine wpOp_step rfl ?_
        intro K' hK'
        go_simp
        refine hK' _ _ ⟨_, _, _, _, _, _, _, _, _, _, _, _, _, _, _, _, _, _, _, _, _, _, _, _, _, _, _, _, _, rfl, rfl, ?_⟩
        exact ⟨fun _ => rfl, hI.f1, hI.f2, hI.f3, hI.f4, hI.f5, hI.f6, hI.f7, hI.f8, hI.f9, hI.f10, hI.f11, hI.f12, hI.f13, hI.d, hI.wi⟩
      · refine wpOp_step rfl ?_
        intro K' hK'
        have e0 := hI.f0 (by simp [hc])
        subst e0
        have gB := hI.wi.blk HG1.out HNB.out
        have cB : W.cell? ⟨w.heap.size, 0, none⟩ = some (.pointer (some ⟨k, 0, none⟩)) := by rw [cell_at gB]; rfl
        go_simp
        refine hK' _ _ ⟨_, _, _, _, _, _, _, _, _, _, _, _, _, _, _, _, _, _, _, _, _, _, _, _, _, _, _, _, _, rfl, rfl, ?_⟩
        exact ⟨hI.f0, fun _ => rfl, hI.f2, hI.f3, hI.f4, hI.f5, hI.f6, hI.f7, hI.f8, hI.f9, hI.f10, hI.f11, hI.f12, hI.f13, hI.d, hI.wi⟩
      · refine wpOp_step rfl ?_
        intro K' hK'
        go_simp
        refine hK' _ _ ⟨_, _, _, _, _, _, _, _, _, _, _, _, _, _, _, _, _, _, _, _, _, _, _, _, _, _, _, _, _, rfl, rfl, ?_⟩
        exact ⟨hI.f0, hI.f1, fun _ => rfl, hI.f3, hI.f4, hI.f5, hI.f6, hI.f7, hI.f8, hI.f9, hI.f10, hI.f11, hI.f12, hI.f13, hI.d, hI.wi⟩
      · refine wpOp_step rfl ?_
        intro K' hK'
        have e2 := hI.f2 (by simp [hc])
        subst e2
        have gB := hI.wi.blk HG1.out HNB.out
        have cB : W.cell? ⟨w.heap.size, 0, none⟩ = some (.pointer (some ⟨k, 0, none⟩)) := by rw [cell_at gB]; rfl
        go_simp
        refine hK' _ _ ⟨_, _, _, _, _, _, _, _, _, _, _, _, _, _, _, _, _, _, _, _, _, _, _, _, _, _, _, _, _, rfl, rfl, ?_⟩
        exact ⟨hI.f0, hI.f1, hI.f2, fun _ => rfl, hI.f4, hI.f5, hI.f6, hI.f7, hI.f8, hI.f9, hI.f10, hI.f11, hI.f12, hI.f13, hI.d, hI.wi⟩
      · refine wpOp_step rfl ?_
        intro K' hK'
        have e3 := hI.f3 (by simp [hc])
        subst e3
        go_simp
        refine hK' _ _ ⟨_, _, _, _, _, _, _, _, _, _, _, _, _, _, _, _, _, _, _, _, _, _, _, _, _, _, _, _, _, rfl, rfl, ?_⟩
        exact ⟨hI.f0, hI.f1, hI.f2, hI.f3, fun _ => rfl, hI.f5, hI.f6, hI.f7, hI.f8, hI.f9, hI.f10, hI.f11, hI.f12, hI.f13, hI.d, hI.wi⟩
      · refine wpOp_step rfl ?_
        intro K' hK'
        have e4 := hI.f4 (by simp [hc])
        subst e4
        go_simp
        refine hK' _ _ ⟨_, _, _, _, _, _, _, _, _, _, _, _, _, _, _, _, _, _, _, _, _, _, _, _, _, _, _, _, _, rfl, rfl, ?_⟩
        exact ⟨hI.f0, hI.f1, hI.f2, hI.f3, hI.f4, fun _ => rfl, hI.f6, hI.f7, hI.f8, hI.f9, hI.f10, hI.f11, hI.f12, hI.f13, hI.d, hI.wi⟩
      · refine wpOp_step rfl ?_
        intro K' hK'
        have e5 := hI.f5 (by simp [hc])
        subst e5
        have hb11 : b11 = false := by
          cases b11 with
          | false => rfl
          | true => exact absurd (hI.d.1 rfl).1 (by simp [hc])
        subst hb11
        have hb14 : b14 = false := by
          cases b14 with
          | false => rfl
          | true => exact absurd (hI.d.2 rfl) (by simp [hc])
        subst hb14
        have gK := hI.wi.old
        have cK : W.cell? ⟨k, 3, none⟩ = some (.slice ao ns.length cap) := by rw [cell_at (gK.at H1.out.blk (by simp))]; rfl
        go_simp
        refine hK' _ _ ⟨_, _, _, _, _, _, _, _, _, _, _, _, _, _, _, _, _, _, _, _, _, _, _, _, _, _, _, _, _, rfl, rfl, ?_⟩
        exact ⟨hI.f0, hI.f1, hI.f2, hI.f3, hI.f4, hI.f5, fun _ => rfl, hI.f7, hI.f8, hI.f9, hI.f10, hI.f11, hI.f12, hI.f13, ⟨fun h => ⟨rfl, (hI.d.1 h).2⟩, hI.d.2⟩, hI.wi⟩
      · refine wpOp_step rfl ?_
        intro K' hK'
        go_simp
        refine hK' _ _ ⟨_, _, _, _, _, _, _, _, _, _, _, _, _, _, _, _, _, _, _, _, _, _, _, _, _, _, _, _, _, rfl, rfl, ?_⟩
        exact ⟨hI.f0, hI.f1, hI.f2, hI.f3, hI.f4, hI.f5, hI.f6, fun _ => rfl, hI.f8, hI.f9, hI.f10, hI.f11, hI.f12, hI.f13, hI.d, hI.wi⟩
      · refine wpOp_step rfl ?_
        intro K' hK'
        have e7 := hI.f7 (by simp [hc])
        subst e7
        have gB := hI.wi.blk HG1.out HNB.out
        have cB : W.cell? ⟨w.heap.size, 1, none⟩ = some (.int .i64 (n : Int)) := by rw [cell_at gB]; rfl
        go_simp
        refine hK' _ _ ⟨_, _, _, _, _, _, _, _, _, _, _, _, _, _, _, _, _, _, _, _, _, _, _, _, _, _, _, _, _, rfl, rfl, ?_⟩
        exact ⟨hI.f0, hI.f1, hI.f2, hI.f3, hI.f4, hI.f5, hI.f6, hI.f7, fun _ => rfl, hI.f9, hI.f10, hI.f11, hI.f12, hI.f13, hI.d, hI.wi⟩
      · refine wpOp_step rfl ?_
        intro K' hK'
        go_simp
        refine hK' _ _ ⟨_, _, _, _, _, _, _, _, _, _, _, _, _, _, _, _, _, _, _, _, _, _, _, _, _, _, _, _, _, rfl, rfl, ?_⟩
        exact ⟨hI.f0, hI.f1, hI.f2, hI.f3, hI.f4, hI.f5, hI.f6, hI.f7, hI.f8, fun _ => rfl, hI.f10, hI.f11, hI.f12, hI.f13, hI.d, hI.wi⟩
      · refine wpOp_step rfl ?_
        intro K' hK'
        have e9 := hI.f9 (by simp [hc])
        subst e9
        have hb11 : b11 = false := by
          cases b11 with
          | false => rfl
          | true => exact absurd (hI.d.1 rfl).2 (by simp [hc])
        subst hb11
        have hb14 : b14 = false := by
          cases b14 with
          | false => rfl
          | true => exact absurd (hI.d.2 rfl) (by simp [hc])
        subst hb14
        have hb10 : b10 = false := by simp [hc]
        subst hb10
        have q : Kept [] w1 W ∧ W.heap.size = w1.heap.size := hI.wi
        go_simp
        refine hK' _ _ ⟨_, _, _, _, _, _, _, _, _, _, _, _, _, _, _, _, _, _, _, _, _, _, _, _, _, _, _, _, _, rfl, rfl, ?_⟩
        exact ⟨hI.f0, hI.f1, hI.f2, hI.f3, hI.f4, hI.f5, hI.f6, hI.f7, hI.f8, hI.f9, fun _ => rfl, hI.f11, hI.f12, hI.f13, ⟨fun h => ⟨(hI.d.1 h).1, rfl⟩, hI.d.2⟩, ⟨W, q.1, q.2, rfl⟩⟩
      · refine wpOp_step rfl ?_
        intro K' hK'
        have e6 := hI.f6 (by simp [hc])
        subst e6
        have e8 := hI.f8 (by simp [hc])
        subst e8
        have e10 := hI.f10 (by simp [hc])
        subst e10
        have hb11 : b11 = false := by simp [hc]
        subst hb11
        have hb14 : b14 = false := by
          cases b14 with
          | false => rfl
          | true => exact absurd (hI.d.2 rfl) (by simp [hc])
        subst hb14
        have hb10 : b10 = true := by simp [hc]
        subst hb10
        have q : ∃ W0, Kept [] w1 W0 ∧ W0.heap.size = w1.heap.size ∧ W = W0.alloc (.cells #[.iface xt xp] 142 (0, 0)) := hI.wi
        obtain ⟨W0, q1, q2, hq⟩ := q
        have C := hide (HHI.out W0 q1 q2)
        rw [← hq] at C
        have HQ := hide hq
        clear hq
        go_simp
        refine C.out.mono ?_
        rintro e W2 ⟨v', rfl, ho2, hk2, hf2⟩
        have hs := owns_shape ho2
        refine hK' _ _ ⟨_, _, _, _, _, _, _, _, _, _, _, _, _, _, _, _, _, _, _, _, _, _, _, _, _, _, _, _, _, rfl, rfl, ?_⟩
        exact ⟨hI.f0, hI.f1, hI.f2, hI.f3, hI.f4, hI.f5, hI.f6, hI.f7, hI.f8, hI.f9, hI.f10, fun _ => by obtain ⟨x1, x2, x3⟩ := hs; exact ⟨x1, x2, x3⟩, hI.f12, hI.f13, ⟨fun _ => ⟨by simp [hc], rfl⟩, fun _ => rfl⟩, put_mid q1 q2 HQ.out ho2 hk2 hf2⟩
      · refine wpOp_step rfl ?_
        intro K' hK'
        have e1 := hI.f1 (by simp [hc])
        subst e1
        go_simp
        refine hK' _ _ ⟨_, _, _, _, _, _, _, _, _, _, _, _, _, _, _, _, _, _, _, _, _, _, _, _, _, _, _, _, _, rfl, rfl, ?_⟩
        exact ⟨hI.f0, hI.f1, hI.f2, hI.f3, hI.f4, hI.f5, hI.f6, hI.f7, hI.f8, hI.f9, hI.f10, hI.f11, fun _ => rfl, hI.f13, hI.d, hI.wi⟩
      · refine wpOp_step rfl ?_
        intro K' hK'
        have e12 := hI.f12 (by simp [hc])
        subst e12
        go_simp
        refine hK' _ _ ⟨_, _, _, _, _, _, _, _, _, _, _, _, _, _, _, _, _, _, _, _, _, _, _, _, _, _, _, _, _, rfl, rfl, ?_⟩
        exact ⟨hI.f0, hI.f1, hI.f2, hI.f3, hI.f4, hI.f5, hI.f6, hI.f7, hI.f8, hI.f9, hI.f10, hI.f11, hI.f12, fun _ => rfl, hI.d, hI.wi⟩
      · refine wpOp_step rfl ?_
        intro K' hK'
        have e13 := hI.f13 (by simp [hc])
        subst e13
        have e11 := hI.f11 (by simp [hc])
        obtain ⟨ao2, cap2, hs17⟩ := e11
        subst hs17
        have hb14 : b14 = false := by simp [hc]
        subst hb14
        have hb11 : b11 = true := by simp [hc]
        subst hb11
        have q : W.ownsRow base 142 1 (.slice ao2 (ns.length + 1) cap2) (ns.length + 1) ((ns.map Nd.val).take n ++ [.iface xt xp] ++ (ns.map Nd.val).drop n) ∧ Kept (Value.slice ao ns.length cap).ownBlock.toList w1 W ∧ ((Value.slice ao2 (ns.length + 1) cap2).ownBlock = (Value.slice ao ns.length cap).ownBlock ∨ ∀ g, (Value.slice ao2 (ns.length + 1) cap2).ownBlock = some g → w1.heap.size + 1 ≤ g) := hI.wi
        have gK := q.2.1.at H1.out.blk HNE.out
        have cK : W.cell? ⟨k, 3, none⟩ = some (.slice ao ns.length cap) := by rw [cell_at gK]; rfl
        have zK := free_at gK 3
        go_simp
        refine hK' _ _ ⟨_, _, _, _, _, _, _, _, _, _, _, _, _, _, _, _, _, _, _, _, _, _, _, _, _, _, _, _, _, rfl, rfl, ?_⟩
        exact ⟨hI.f0, hI.f1, hI.f2, hI.f3, hI.f4, hI.f5, hI.f6, hI.f7, hI.f8, hI.f9, hI.f10, hI.f11, hI.f12, hI.f13, ⟨hI.d.1, fun _ => rfl⟩, put_fin H1.out HK1.out HZ1.out HG1.out HNE.out HNB.out hn hl hkb hxv q.1 q.2.1 q.2.2⟩
    · rintro listed a W ⟨b0, b1, b2, b3, b4, b5, b6, b7, b8, b9, b10, b11, b12, b13, b14, s6, s7, s8, s9, s10, s11, s12, s13, s14, s15, s16, s17, s18, s19, rfl, rfl, hI⟩ hr
      simp only [Region.ready, List.filter_eq_nil_iff, List.mem_range] at hr
      have q0 := hr 0 (by decide)
      simp [Region.binds] at q0
      subst q0
      have q1 := hr 1 (by decide)
      simp [Region.binds] at q1
      subst q1
      have q2 := hr 2 (by decide)
      simp [Region.binds] at q2
      subst q2
      have q3 := hr 3 (by decide)
      simp [Region.binds] at q3
      subst q3
      have q4 := hr 4 (by decide)
      simp [Region.binds] at q4
      subst q4
      have q5 := hr 5 (by decide)
      simp [Region.binds] at q5
      subst q5
      have q6 := hr 6 (by decide)
      simp [Region.binds] at q6
      subst q6
      have q7 := hr 7 (by decide)
      simp [Region.binds] at q7
      subst q7
      have q8 := hr 8 (by decide)
      simp [Region.binds] at q8
      subst q8
      have q9 := hr 9 (by decide)
      simp [Region.binds] at q9
      subst q9
      have q10 := hr 10 (by decide)
      simp [Region.binds] at q10
      subst q10
      have q11 := hr 11 (by decide)
      simp [Region.binds] at q11
      subst q11
      have q12 := hr 12 (by decide)
      simp [Region.binds] at q12
      subst q12
      have q13 := hr 13 (by decide)
      simp [Region.binds] at q13
      subst q13
      have q14 := hr 14 (by decide)
      simp [Region.binds] at q14
      subst q14
      rename_i JJ hJJ
      refine hJJ _ _ ?_
      go_meet
      exact hI.wi
    · decide
    · exact ⟨_, _, _, _, _, _, _, _, _, _, _, _, _, _, _, _, _, _, _, _, _, _, _, _, _, _, _, _, _, rfl, rfl, by simp, by simp, by simp, by simp, by simp, by simp, by simp, by simp, by simp, by simp, by simp, by simp, by simp, by simp, by simp, ⟨(Kept.refl [] w1).drew, rfl⟩⟩
  case rest =>
    obtain ⟨hp, hbx⟩ := hcut
    have hjo : ∀ g, kv2.ownBlock = some g → g ∉ k :: (Value.slice ao ns.length cap).ownBlock.toList := by
      intro g hg hm
      rcases List.mem_cons.1 hm with rfl | hm
      · exact HJ.out.own_ne HH.out.blk (by decide) hg
      · exact HAP.out g hg (by simpa using hm)
    have hjn : j ∉ k :: (Value.slice ao ns.length cap).ownBlock.toList := by
      intro hm
      rcases List.mem_cons.1 hm with e | hm
      · exact hjk e
      · exact HH.out.own_ne HJ.out.blk (by decide) (by simpa using hm)
    have J2 := HJ.out.kept hp.kept hjn hjo
    obtain ⟨kv', E2, f2⟩ := hp.ex
    have c2 : wc.cell? ⟨j, 2, none⟩ = some (enc par2) := by rw [cell_at J2.blk]; rfl
    have fz := free_at J2.blk 2
    have cb : wc.cell? ⟨w.heap.size, 0, none⟩ = some (.pointer (some ⟨k, 0, none⟩)) := by rw [cell_at hbx]; rfl
    have J3 := hide (J2.setPar (some k))
    have E3 : El base (wc.setCell ⟨j, 2, none⟩ (enc (some k))) k name av par kv' (ns.take n ++ [x] ++ ns.drop n) :=
      ⟨by rw [Below.heap_setCell wc ⟨j, 2, none⟩ _ k (Ne.symm hjk)]; exact E2.blk, ownsRow_setCell_other (a := ⟨j, 2, none⟩) E2.row (E2.own_ne J2.blk (by decide)) _, E2.le, E2.avs⟩
    have HE3 := hide E3
    have HK3 := hide ((hp.kept.mono (S' := j :: k :: (Value.slice ao ns.length cap).ownBlock.toList) (fun y hy _ => List.mem_cons_of_mem _ hy)).setCell (p := ⟨j, 2, none⟩) (.inl (by simp)) (enc (some k)))
    have HF3 := hide f2
    have hx2 := HXE.out
    subst hx2
    injection hxv with e1 e2
    subst e1 e2
    have hta := tap_yes (X := 72) Tryz.underlying72
    clear hp hbx HHI HH H1 J2 E2 E3 f2 hjo hjn
    go_wp2
    go_end0
    exact ⟨rfl, ⟨kv', by rw [show ns.take n ++ Nd.el j :: ns.drop n = ns.take n ++ [Nd.el j] ++ ns.drop n by simp]; exact HE3.out, HF3.out⟩, J3.out, HK3.out⟩
end Go.Proofs.YtlhhgenpcjjajaaGreatDoor
