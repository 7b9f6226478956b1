import Derived.Test.YtlhhgenpcjjajaaGreatDoorTrA
import Derived.LaidEql
import Derived.Laws.IdiomStrings
import Derived.Laws.Concat
import Derived.Deep.RegionHeld3
import Derived.Test.YtlhhgenpcjjajaaGreatDoorLsE
import Derived.Test.YtlhhgenpcjjajaaGreatDoorShelf
import Derived.Lib.ItoaMem
set_option linter.unusedSimpArgs false
set_option linter.unusedVariables false
namespace Go.Proofs.YtlhhgenpcjjajaaGreatDoor
open Go.RowKit
end Go.Proofs.YtlhhgenpcjjajaaGreatDoor
namespace Go.Proofs.YtlhhgenpcjjajaaGreatDoor
open Go.RowKit
def Nd.blk : Nd → Nat
  | .el k => k
  | .tx k => k
  | .cm k => k
  | .dt k => k
def Nd.typ : Nd → TypeId
  | .el _ => 140
  | .tx _ => 284
  | .cm _ => 239
  | .dt _ => 243
def IsNd (w : World) (x : Nd) : Prop := ∃ c, w.heap[x.blk]? = some (.cells c x.typ (0, 0))
def Nd.isEl (j : Nat) : Nd → Bool
  | .el k => k == j
  | _ => false
theorem ndc : (Tryz.prog.info? 72).map (fun i => i.comparable) = some true := by kernel_rfl
theorem eql_if_ne {T U : TypeId} {v u : Value} (hne : T ≠ U) (w : World) : (binOp .eql 142 (.iface T v) (.iface U u)).run Tryz.prog w = .ok (.bool false) w := by
  have h : ∀ d : Nat, (Op.equalIn (d + 1) 142 (.iface T v) (.iface U u)).run Tryz.prog w = .ok false w := fun d => by simp [Op.equalIn, run_underlying Tryz.underlying142, hne]
  simp only [binOp]
  simp [Op.equal, Op.maxDepth, h 9999]
theorem eql_nd {w : World} {x : Nd} {j : Nat} (hx : IsNd w x) (hj : IsNd w (.el j)) :
    (binOp .eql 142 x.val (Nd.el j).val).run Tryz.prog w = .ok (.bool (x.isEl j)) w := by
  obtain ⟨i, hi, hcmp⟩ := Option.map_eq_some_iff.1 ndc
  obtain ⟨q, hq, hqs⟩ := Option.map_eq_some_iff.1 el_size
  cases x with
  | el k =>
    by_cases h : k = j
    · subst h
      have e : (Nd.el k).isEl k = true := by simp [Nd.isEl]
      rw [e]
      exact run_eql_iface_ptr_same (P := Tryz.prog) w (⟨k, 0, none⟩ : Addr) Tryz.underlying142 Tryz.underlying72 hi hcmp hq
    · obtain ⟨ca, ha⟩ := hx
      obtain ⟨cb, hb⟩ := hj
      have e : (Nd.el k).isEl j = false := by simp [Nd.isEl, h]
      rw [e]
      exact run_eql_iface_ptr_other (P := Tryz.prog) w (a := ⟨k, 0, none⟩) (b := ⟨j, 0, none⟩) Tryz.underlying142 Tryz.underlying72 hi hcmp hq (by rw [hqs]; decide) (by simp [h]) ha hb
  | tx k => exact eql_if_ne (by decide) w
  | cm k => exact eql_if_ne (by decide) w
  | dt k => exact eql_if_ne (by decide) w
theorem val_iface (x : Nd) : ∃ T v, x.val = .iface T (.pointer v) := by cases x <;> exact ⟨_, _, rfl⟩
set_option maxHeartbeats 1000000 in
theorem indexOf1_ok (bc j : Nat) (x : Nd) (w : World) (hb : w.cell? ⟨bc, 0, none⟩ = some (.pointer (some ⟨j, 0, none⟩))) (hx : IsNd w x) (hj : IsNd w (.el j)) :
    Calls Tryz.prog 371 #[x.val, .pointer (some ⟨bc, 0, none⟩)] w fun e w' => e = .returned (.bool (x.isEl j)) ∧ w' = w := by
  have hq := eql_nd hx hj
  obtain ⟨T, p, hv⟩ := val_iface x
  rw [hv] at hq ⊢
  unfold Nd.val at hq
  generalize x.isEl j = r at hq ⊢
  clear hx hj hv
  go_enter Tryz.func371, Tryz.ntmps371
  go_wp2
  go_ret
  exact ⟨rfl, rfl⟩
def posN (ns : List Nd) (p : Nd → Bool) : Int := if ns.findIdx p < ns.length then (ns.findIdx p : Int) else -1
theorem posN_at {ns : List Nd} {p : Nd → Bool} {k : Nat} (hk : k < ns.length) (hx : p ns[k] = true) (hno : ∀ j, (hj : j < ns.length) → j < k → p ns[j] = false) : posN ns p = k := by
  have h1 : ns.findIdx p = k := by
    have hlt : ns.findIdx p < ns.length := List.findIdx_lt_length_of_exists ⟨_, List.getElem_mem hk, hx⟩
    have hge : ¬ ns.findIdx p < k := fun hlt' => by
      have h2 := hno _ hlt hlt'
      rw [List.findIdx_getElem (w := hlt)] at h2
      cases h2
    have hle : ¬ k < ns.findIdx p := fun hlt' => by
      have := List.not_of_lt_findIdx hlt'
      rw [hx] at this
      cases this
    omega
  unfold posN
  rw [h1, if_pos hk]
theorem posN_no {ns : List Nd} {p : Nd → Bool} (hno : ∀ j, (hj : j < ns.length) → p ns[j] = false) : posN ns p = -1 := by
  unfold posN
  rw [if_neg]
  intro h
  have h2 := hno _ h
  rw [List.findIdx_getElem (w := h)] at h2
  cases h2
set_option maxHeartbeats 1000000 in
set_option maxRecDepth 100000 in
theorem idxF_ok (kv : Value) (ns : List Nd) (base bc j : Nat) (w : World) (ho : w.ownsRow base 142 1 kv ns.length (ns.map Nd.val)) (hn : ∀ x ∈ ns, IsNd w x) (hj : IsNd w (.el j)) (hb : w.cell? ⟨bc, 0, none⟩ = some (.pointer (some ⟨j, 0, none⟩))) (hle : ns.length ≤ 1048576) :
    Calls Tryz.prog 370 #[kv, .func (.func 371) #[] #[.pointer (some ⟨bc, 0, none⟩)]] w fun e w' => e = .returned (.int .i64 (posN ns (Nd.isEl j))) ∧ w' = w := by
  have HC := hide (fun x hx => indexOf1_ok bc j x w hb (hn x hx) hj)
  rcases ho.2 with ⟨rfl, e0⟩ | ⟨g, cap, cur, rfl, _, hcur, hnc, _, _, htake⟩
  · have hnil : ns = [] := List.eq_nil_of_length_eq_zero e0
    subst hnil
    clear ho hn hj hb HC
    go_enter Tryz.func370, Tryz.ntmps370
    go_wp2
    refine wp_loop_rounds 1 ?_
    rw [rounds_succ]
    go_wp2
    go_ret
    exact ⟨rfl, rfl⟩
  · have hcell : ∀ k, (hk : k < ns.length) → w.cell? ⟨g, k, none⟩ = some ns[k].val := by
      intro k hk
      rw [cell_at hcur]
      have : (cur.toList.take (ns.length * 1))[k]? = some ns[k].val := by rw [htake]; simp [hk]
      rw [List.getElem?_take] at this
      split at this
      · simpa using this
      · cases this
    have HL := hide hcell
    clear ho hn hj hb hcell hcur htake
    go_enter Tryz.func370, Tryz.ntmps370
    go_wp2
    go_loopw [8] (fun i wr => ∃ k : Nat, k ≤ ns.length ∧ i = .int .i64 k ∧ wr = w ∧ ∀ m, (hm : m < ns.length) → m < k → (ns[m]).isEl j = false) (fun i _ => ns.length - (intOf i).toNat)
    case atStart => exact ⟨0, Nat.zero_le _, rfl, rfl, fun m _ hm => absurd hm (Nat.not_lt_zero m)⟩
    case round =>
      obtain ⟨k, hk, rfl, rfl, hno⟩ := hrel
      have HN := hide hno
      clear hno
      by_cases hlt : k < ns.length
      · have c2 := HL.out k hlt
        have hcall := HC.out ns[k] (List.getElem_mem hlt)
        obtain ⟨T, p, hv⟩ := val_iface ns[k]
        rw [hv] at c2 hcall
        have HCL := hide hcall
        clear hcall hv
        cases hq : (ns[k]).isEl j with
        | true =>
          rw [hq] at HCL
          have hp := hide (posN_at hlt hq HN.out)
          clear hq
          go_wp2_with fail
          refine HCL.out.mono ?_
          rintro e w' ⟨rfl, hw⟩
          subst hw
          go_wp2
          go_ret
          exact ⟨by rw [hp.out]; rfl, rfl⟩
        | false =>
          rw [hq] at HCL
          have HQ := hide hq
          clear hq
          go_wp2_with fail
          refine HCL.out.mono ?_
          rintro e w' ⟨rfl, hw⟩
          subst hw
          go_wp2
          go_roundw
          case rel =>
            refine ⟨k + 1, by omega, by go_num, by first | rfl | trivial, fun m hm hmk => ?_⟩
            by_cases e : m = k
            · subst e; exact HQ.out
            · exact HN.out m hm (by omega)
          case measure => simp [intOf]; omega
      · have hp := hide (posN_no (ns := ns) (p := Nd.isEl j) (fun m hm => HN.out m hm (by omega)))
        go_wp2
        go_ret
        exact ⟨by rw [hp.out]; rfl, rfl⟩
set_option maxHeartbeats 1000000 in
theorem indexOf_ok (base k j : Nat) (name : ByteArray) (av kv : Value) (par : Option Nat) (ns : List Nd) (w : World) (h : El base w k name av par kv ns) (hn : ∀ x ∈ ns, IsNd w x) (hj : IsNd w (.el j)) :
    Calls Tryz.prog 348 #[.pointer (some ⟨k, 0, none⟩), .pointer (some ⟨j, 0, none⟩)] w fun e w' => e = .returned (.int .i64 (posN ns (Nd.isEl j))) ∧ Kept [] w w' := by
  have k1 : Kept [] w (w.alloc (.cells #[.pointer (some ⟨j, 0, none⟩)] 72 (0, 0))) := (Kept.refl _ _).alloc _
  have g1 := heap_alloc_at w (.cells #[.pointer (some ⟨j, 0, none⟩)] 72 (0, 0))
  have nd : ∀ x, IsNd w x → IsNd (w.alloc (.cells #[.pointer (some ⟨j, 0, none⟩)] 72 (0, 0))) x := fun x ⟨c, hc⟩ => ⟨c, k1.at hc (by simp)⟩
  have H := hide (idxF_ok kv ns base w.heap.size j _ (k1.ownsRow h.row (fun _ _ => by simp)) (fun x hx => nd x (hn x hx)) (nd _ hj) (by rw [cell_at g1]; rfl) h.le)
  have c3 : w.cell? ⟨k, 3, none⟩ = some kv := by rw [cell_at h.blk]; rfl
  have hlt := lt_of_block h.blk
  obtain ⟨ao, cap, rfl⟩ := owns_shape h.row
  have HK := hide k1
  clear h hn hj k1 g1 nd
  generalize posN ns (Nd.isEl j) = q at H ⊢
  go_enter Tryz.func348, Tryz.ntmps348
  go_wp2_with fail
  refine H.out.mono ?_
  rintro e w' ⟨rfl, rfl⟩
  go_wp2
  go_ret
  exact ⟨rfl, HK.out⟩
end Go.Proofs.YtlhhgenpcjjajaaGreatDoor
namespace Go.Proofs.YtlhhgenpcjjajaaGreatDoor
open Go.RowKit
theorem kid_cell {base k : Nat} {w : World} {name : ByteArray} {av kv : Value} {par : Option Nat} {ns : List Nd} (h : El base w k name av par kv ns) {m : Nat} (hm : m < ns.length) : ∃ g cap, kv = .slice (some ⟨g, 0, none⟩) ns.length cap ∧ w.cell? ⟨g, m, none⟩ = some ns[m].val := by
  rcases h.row.2 with ⟨_, e0⟩ | ⟨g, cap, cur, rfl, _, hcur, hnc, _, _, htake⟩
  · omega
  · refine ⟨g, cap, rfl, ?_⟩
    rw [cell_at hcur]
    have : (cur.toList.take (ns.length * 1))[m]? = some ns[m].val := by rw [htake]; simp [hm]
    rw [List.getElem?_take] at this
    split at this
    · simpa using this
    · cases this
set_option maxHeartbeats 2000000 in
set_option maxRecDepth 100000 in
theorem putChars_join (base k m t2 : Nat) (name old s : ByteArray) (av kv : Value) (par : Option Nat) (ns : List Nd) (w : World) (h : El base w k name av par kv ns) (hm : m < ns.length) (hx : ns[m] = .tx t2) (ht : w.heap[t2]? = some (.cells #[.string old] 284 (0, 0))) (hsz : old.size + s.size ≤ 1048576) :
    Calls Tryz.prog 182 #[place k (m + 1), .string s] w fun e w' => e = .returned (.tuple #[]) ∧ w'.heap[t2]? = some (.cells #[.string (old ++ s)] 284 (0, 0)) ∧ Kept [t2] w w' := by
  obtain ⟨g, cap, rfl, c4⟩ := kid_cell h hm
  rw [hx] at c4
  have hkl := lt_of_block h.blk
  have htl := lt_of_block ht
  have hle := h.le
  obtain ⟨w1, hw1⟩ : ∃ w1, w1 = w.alloc (.cells #[.pointer (some ⟨k, 0, none⟩), .int .i64 ((m + 1 : Nat) : Int)] 235 (0, 0)) := ⟨_, rfl⟩
  have k1 : Kept [] w w1 := by rw [hw1]; exact (Kept.refl _ _).alloc _
  have g1 : w1.heap[w.heap.size]? = some (.cells #[.pointer (some ⟨k, 0, none⟩), .int .i64 ((m + 1 : Nat) : Int)] 235 (0, 0)) := by rw [hw1]; exact heap_alloc_at w _
  have h1 := h.kept k1 (by simp) (by simp)
  have t1 := k1.at ht (by simp)
  have cB0 : w1.cell? ⟨w.heap.size, 0, none⟩ = some (.pointer (some ⟨k, 0, none⟩)) := by rw [cell_at g1]; rfl
  have cB1 : w1.cell? ⟨w.heap.size, 1, none⟩ = some (.int .i64 ((m : Int) + 1)) := by rw [cell_at g1]; rfl
  have cK3 : w1.cell? ⟨k, 3, none⟩ = some (.slice (some ⟨g, 0, none⟩) ns.length cap) := by rw [cell_at h1.blk]; rfl
  have cG : w1.cell? ⟨g, m, none⟩ = some (Nd.tx t2).val := by
    obtain ⟨g', cap', e, c⟩ := kid_cell h1 hm
    injection e with e1
    injection e1 with e2
    injection e2 with e3
    rw [e3, c, hx]
  unfold Nd.val at cG
  have cT : w1.cell? ⟨t2, 0, none⟩ = some (.string old) := by rw [cell_at t1]; rfl
  have fT := free_at t1 0
  have hta := tap_yes (X := 281) Tryz.underlying281
  have HW1 := hide hw1
  have HT1 := hide t1
  have HK1 := hide k1
  have hm1 : (m : Int) < ns.length := by omega
  clear h h1 k1 g1 t1 hw1 ht c4 hx
  go_enter Tryz.func182, Tryz.ntmps182
  go_wp2_with fail
  rw [show ((m + 1 : Nat) : Int) = (m : Int) + 1 by omega] at HW1
  rw [← HW1.out]
  go_quiet (fail)
  have cT2 : (w1.drewN nq).cell? ⟨t2, 0, none⟩ = some (.string old) := cT
  have fT2 : (w1.drewN nq).frozen? ⟨t2, 0, none⟩ = false := fT
  have hadd := run_string_add_sum (P := Tryz.prog) (w1.drewN nq) old s (by omega)
  have HB := hide (block_setCell (w := w1.drewN nq) HT1.out 0 (.string (old ++ s)))
  have HK := hide (((HK1.out.mono (S' := [t2]) (by simp)).drewN nq).setCell (p := ⟨t2, 0, none⟩) (.inl (by simp)) (.string (old ++ s)))
  clear cB0 cB1 cK3 cG cT fT hta
  go_wp2
  refine bodyPost_ret (results_none rfl _ _ _) rfl ?_
  exact ⟨rfl, HB.out, HK.out⟩
theorem Put1.before {base k : Nat} {name : ByteArray} {av kv : Value} {par : Option Nat} {ns : List Nd} {w w1 w' : World} (h : Put1 base k name av kv par ns w1 w') (hk : Kept [] w w1) : Put1 base k name av kv par ns w w' := by
  obtain ⟨⟨kv', E, f⟩, K⟩ := h
  refine ⟨⟨kv', E, ?_⟩, (hk.mono (by simp)).trans K⟩
  rcases f with e | e
  · exact .inl e
  · exact .inr fun g hg => Nat.le_trans hk.size (e g hg)
set_option maxHeartbeats 2000000 in
set_option maxRecDepth 100000 in
theorem putChars_new (base k n : Nat) (name s : ByteArray) (av kv : Value) (par : Option Nat) (ns : List Nd) (w : World) (h : El base w k name av par kv ns) (hn : n ≤ ns.length) (Q : World → Prop) (hPut : ∀ w1, Kept [] w w1 → Calls Tryz.prog 175 #[place k n, (Nd.tx w1.heap.size).val] (w1.alloc (.cells #[.string s] 284 (0, 0))) fun e w' => e = .returned (.tuple #[]) ∧ Q w') (hx : ∀ m, (hm : m < ns.length) → n = m + 1 → ∀ t, ns[m] ≠ .tx t) :
    Calls Tryz.prog 182 #[place k n, .string s] w fun e w' => e = .returned (.tuple #[]) ∧ Q w' := by
  have hkl := lt_of_block h.blk
  have hle := h.le
  obtain ⟨w1, hw1⟩ : ∃ w1, w1 = w.alloc (.cells #[.pointer (some ⟨k, 0, none⟩), .int .i64 (n : Int)] 235 (0, 0)) := ⟨_, rfl⟩
  have k1 : Kept [] w w1 := by rw [hw1]; exact (Kept.refl _ _).alloc _
  have g1 : w1.heap[w.heap.size]? = some (.cells #[.pointer (some ⟨k, 0, none⟩), .int .i64 (n : Int)] 235 (0, 0)) := by rw [hw1]; exact heap_alloc_at w _
  have h1 := h.kept k1 (by simp) (by simp)
  have cB0 : w1.cell? ⟨w.heap.size, 0, none⟩ = some (.pointer (some ⟨k, 0, none⟩)) := by rw [cell_at g1]; rfl
  have cB1 : w1.cell? ⟨w.heap.size, 1, none⟩ = some (.int .i64 (n : Int)) := by rw [cell_at g1]; rfl
  have HW1 := hide hw1
  have z1 : w1.heap.size = w.heap.size + 1 := by rw [hw1]; simp
  by_cases h0 : n = 0
  · subst h0
    have hP := hPut w1 k1
    rw [z1, hw1] at hP
    have HP := hide (show Calls Tryz.prog 175 #[.agg #[.pointer (some ⟨k, 0, none⟩), .int .i64 0], .iface 281 (.pointer (some ⟨w.heap.size + 1, 0, none⟩))] ((w.alloc (.cells #[.pointer (some ⟨k, 0, none⟩), .int .i64 0] 235 (0, 0))).alloc (.cells #[.string s] 284 (0, 0))) (fun e w' => e = .returned (.tuple #[]) ∧ Q w') from hP)
    clear h h1 k1 g1 hw1 hx hP z1 cB0 cB1 hPut
    go_enter Tryz.func182, Tryz.ntmps182
    go_wp2_with fail
    refine HP.out.mono ?_
    rintro e w' ⟨rfl, hr⟩
    have HR := hide hr
    clear hr
    go_wp2
    go_end0
    exact ⟨rfl, HR.out⟩
  · obtain ⟨m, rfl⟩ : ∃ m, n = m + 1 := ⟨n - 1, by omega⟩
    have hm : m < ns.length := by omega
    have hnx := hx m hm rfl
    obtain ⟨g, cap, hkv, c4⟩ := kid_cell h1 hm
    subst hkv
    have cK3 : w1.cell? ⟨k, 3, none⟩ = some (.slice (some ⟨g, 0, none⟩) ns.length cap) := by rw [cell_at h1.blk]; rfl
    have hta : ∀ (xT : TypeId) (w : World), (Instr.typeAssert ns[m].val xT 281 true).run Tryz.prog w = .ok (.tuple #[.pointer none, .bool false]) w := by
      intro xT w
      cases hq : ns[m] with
      | tx t => exact absurd hq (hnx t)
      | el t => exact tap_no (X := 281) Tryz.underlying281 (by kernel_rfl) (by decide) _ _ _
      | cm t => exact tap_no (X := 281) Tryz.underlying281 (by kernel_rfl) (by decide) _ _ _
      | dt t => exact tap_no (X := 281) Tryz.underlying281 (by kernel_rfl) (by decide) _ _ _
    have hP : ∀ q, Calls Tryz.prog 175 #[.agg #[.pointer (some ⟨k, 0, none⟩), .int .i64 ((m : Int) + 1)], .iface 281 (.pointer (some ⟨w1.heap.size, 0, none⟩))] ((w1.drewN q).alloc (.cells #[.string s] 284 (0, 0))) (fun e w' => e = .returned (.tuple #[]) ∧ Q w') :=
      fun q => hPut (w1.drewN q) (k1.drewN q)
    have HP := hide hP
    obtain ⟨xt, xp, hxv⟩ := val_iface ns[m]
    rw [hxv] at c4 hta
    have hm1 : (m : Int) < ns.length := by omega
    have cB1' : w1.cell? ⟨w.heap.size, 1, none⟩ = some (.int .i64 ((m : Int) + 1)) := cB1
    have hlt1 : w.heap.size < w1.heap.size := by omega
    rw [show ((m + 1 : Nat) : Int) = (m : Int) + 1 by omega] at HW1
    have HZ1 := hide z1
    clear h h1 k1 g1 hw1 hx hP z1 cB1 hxv hnx hPut
    go_enter Tryz.func182, Tryz.ntmps182
    go_wp2_with fail
    rw [← HW1.out]
    go_quiet (fail)
    go_wp2_with fail
    refine (HP.out nq).mono ?_
    rintro e w' ⟨rfl, hr⟩
    have HR := hide hr
    clear hr
    go_wp2
    go_end0
    exact ⟨rfl, HR.out⟩
end Go.Proofs.YtlhhgenpcjjajaaGreatDoor
namespace Go.Proofs.YtlhhgenpcjjajaaGreatDoor
open Go.RowKit
theorem IsNd.kept {w w' : World} {x : Nd} (h : IsNd w x) (hk : Kept [] w w') : IsNd w' x := by
  obtain ⟨c, hc⟩ := h
  exact ⟨c, hk.at hc (by simp)⟩
theorem El.isNd {base k : Nat} {w : World} {name : ByteArray} {av kv : Value} {par : Option Nat} {ns : List Nd} (h : El base w k name av par kv ns) : IsNd w (.el k) := ⟨_, h.blk⟩
theorem alloc_named0 (w : World) (o : Obj) : ∃ W, W = w.alloc o ∧ Kept [] w W ∧ W.heap[w.heap.size]? = some o ∧ W.heap.size = w.heap.size + 1 := ⟨_, rfl, (Kept.refl _ _).alloc _, heap_alloc_at w _, by simp⟩
set_option maxHeartbeats 1000000 in
theorem front_no (base j : Nat) (name : ByteArray) (av kv : Value) (ns : List Nd) (w : World) (h : El base w j name av none kv ns) :
    Calls Tryz.prog 321 #[.pointer (some ⟨j, 0, none⟩)] w fun e w' => e = .returned (.tuple #[.agg #[.pointer none, .int .i64 0], .bool false]) ∧ Kept [] w w' := by
  have c2 : w.cell? ⟨j, 2, none⟩ = some (.pointer none) := (cell_at h.blk 2).trans rfl
  have hlt := lt_of_block h.blk
  have HK := hide ((Kept.refl [] w).alloc (.cells #[.pointer none, .int .i64 0] 235 (0, 0)))
  clear h
  go_enter Tryz.func321, Tryz.ntmps321
  go_wp2
  refine bodyPost_ret (v := .tuple #[.agg #[.pointer none, .int .i64 0], .bool false]) ?_ rfl ⟨rfl, HK.out⟩
  simp [results, Tryz.results321, asAddr, Result.andThen, go_sem]
set_option maxHeartbeats 4000000 in
set_option maxRecDepth 100000 in
theorem front_yes (base j p : Nat) (name nm2 : ByteArray) (av kv av2 kv2 : Value) (par2 : Option Nat) (ns ns2 : List Nd) (w : World) (h : El base w j name av (some p) kv ns) (hp : El base w p nm2 av2 par2 kv2 ns2) (hn : ∀ x ∈ ns2, IsNd w x) :
    Calls Tryz.prog 321 #[.pointer (some ⟨j, 0, none⟩)] w fun e w' => e = .returned (.tuple #[.agg #[.pointer (some ⟨p, 0, none⟩), .int .i64 (posN ns2 (Nd.isEl j))], .bool true]) ∧ Kept [] w w' := by
  obtain ⟨w1, hw1, k1, g1, z1⟩ := alloc_named0 w (.cells #[.pointer none, .int .i64 0] 235 (0, 0))
  have c2 : w1.cell? ⟨j, 2, none⟩ = some (.pointer (some ⟨p, 0, none⟩)) := (cell_at (k1.at h.blk (by simp)) 2).trans rfl
  have hlt := lt_of_block h.blk
  have hne : j ≠ w.heap.size := by omega
  have CI := hide (fun (W : World) (hk : Kept [] w W) => indexOf_ok base p j nm2 av2 kv2 par2 ns2 W (hp.kept hk (by simp) (fun _ _ => by simp)) (fun x hx => (hn x hx).kept hk) (h.isNd.kept hk))
  have c2' : w.cell? ⟨j, 2, none⟩ = some (.pointer (some ⟨p, 0, none⟩)) := (cell_at h.blk 2).trans rfl
  have HK1 := hide k1
  have HG1 := hide g1
  have HW1 := hide hw1
  have HB := hide h.blk
  clear h hp hn k1 g1 z1 hw1
  generalize posN ns2 (Nd.isEl j) = q at CI ⊢
  go_enter Tryz.func321, Tryz.ntmps321
  go_wp2_with fail
  rw [← HW1.out]
  go_region_held3 (fun w' => w'.cell? ⟨j, 2, none⟩ = some (.pointer (some ⟨p, 0, none⟩))) ((first | assumption | go_keep | exact (cell_setCell_ne hne).trans (by assumption) | exact (cell_setCell_ne hne).trans ((cell_setCell_ne hne).trans (by assumption)))) ((go_at_call 348; refine (CI.out _ HK1.out.drew).mono ?_; rintro e w2 ⟨rfl, hk2⟩; have K2 : Kept [] w w2 := HK1.out.drew.trans hk2; have d2 : w2.cell? ⟨j, 2, none⟩ = some (.pointer (some ⟨p, 0, none⟩)) := (cell_at (K2.at HB.out (by simp)) 2).trans rfl; have g2 : w2.heap[w.heap.size]? = some (.cells #[.pointer none, .int .i64 0] 235 (0, 0)) := ((Kept.refl [] w1).drew.trans hk2).at HG1.out (by simp); have e0 : w2.cell? ⟨w.heap.size, 0, none⟩ = some (.pointer none) := (cell_at g2 0).trans rfl; have e1 : w2.cell? ⟨w.heap.size, 1, none⟩ = some (.int .i64 0) := (cell_at g2 1).trans rfl; have y0 := free_at g2 0; have y1 := free_at g2 1; have HG2 := hide g2; have HK2 := hide K2; clear g2 K2 hk2))
  all_goals (try (go_wp2_with fail))
  have hb := block_setCell (block_setCell HG2.out 0 (.pointer (some ⟨p, 0, none⟩))) 1 (.int .i64 q)
  have hc := cell_at hb
  refine bodyPost_ret (v := .tuple #[.agg #[.pointer (some ⟨p, 0, none⟩), .int .i64 q], .bool true]) ?_ rfl ⟨rfl, (HK2.out.setCell (p := ⟨w.heap.size, 0, none⟩) (.inr (Nat.le_refl _)) _).setCell (p := ⟨w.heap.size, 1, none⟩) (.inr (Nat.le_refl _)) _⟩
  simp [results, Tryz.results321, asAddr, Result.andThen, go_sem, hc]
end Go.Proofs.YtlhhgenpcjjajaaGreatDoor
namespace Go.Proofs.YtlhhgenpcjjajaaGreatDoor
open Go.RowKit
end Go.Proofs.YtlhhgenpcjjajaaGreatDoor
namespace Go.Proofs.YtlhhgenpcjjajaaGreatDoor
open Go.RowKit
structure AEl where
  name : ByteArray
  attrs : List (ByteArray × ByteArray)
  par : Option Nat
  kids : List Nd
inductive ANd
  | el (e : AEl)
  | tx (s : ByteArray)
  | cm (s : ByteArray)
  | dt (s : ByteArray)
structure Ab where
  nodes : List ANd
  opn : List (Option Nat)
  act : List (Option Nat)
  head : Option Nat
  form : Option Nat
  mode : Nat
  kept : Nat
  waiting : List (Nat × Nat × ByteArray)
  fostering : Bool
  quirks : Bool
  at' : Nat
  behind : Bool
  ofT : ByteArray
  plainT : Bool
  fresh : Bool
  dep : Nat
  frm : Nat
  atl : Nat
inductive Res (α : Type)
  | ok (a : α) (σ : Ab)
  | stop (e : Nat) (at' : Nat)
  | stuck
def M (α : Type) := Ab → Res α
namespace M
def pure {α : Type} (a : α) : M α := fun σ => .ok a σ
def bind {α β : Type} (m : M α) (f : α → M β) : M β := fun σ => match m σ with
  | .ok a σ' => f a σ'
  | .stop e p => .stop e p
  | .stuck => .stuck
instance : Monad M where
  pure := M.pure
  bind := M.bind
end M
theorem M.bind_run {α β : Type} (m : M α) (f : α → M β) (σ : Ab) : (m >>= f) σ = match m σ with
  | .ok a σ' => f a σ'
  | .stop e p => .stop e p
  | .stuck => .stuck := rfl
def stuck {α : Type} : M α := fun _ => .stuck
def get : M Ab := fun σ => .ok σ σ
def put (σ : Ab) : M Unit := fun _ => .ok () σ
def upd (f : Ab → Ab) : M Unit := fun σ => .ok () (f σ)
def Ab.el? (σ : Ab) (i : Nat) : Option AEl := match σ.nodes[i]? with
  | some (.el e) => some e
  | _ => none
def Ab.isEl (σ : Ab) (x : Option Nat) : Bool := match x with
  | none => true
  | some i => (σ.el? i).isSome
def Ab.isElS (σ : Ab) (x : Option Nat) : Bool := match x with
  | none => false
  | some i => (σ.el? i).isSome
theorem Ab.isEl_of {σ : Ab} {x : Option Nat} (h : σ.isElS x = true) : σ.isEl x = true := by
  cases x with
  | none => rfl
  | some i => exact h
def Ab.isKid (σ : Ab) : Nd → Bool
  | .el i => (σ.el? i).isSome
  | .tx i => match σ.nodes[i]? with | some (.tx _) => true | _ => false
  | .cm i => match σ.nodes[i]? with | some (.cm _) => true | _ => false
  | .dt i => match σ.nodes[i]? with | some (.dt _) => true | _ => false
def Ab.setEl (σ : Ab) (i : Nat) (e : AEl) : Ab := { σ with nodes := σ.nodes.set i (.el e) }
def Ab.add (σ : Ab) (n : ANd) : Ab := { σ with nodes := σ.nodes ++ [n] }
def Ab.addF (σ : Ab) (n : ANd) (fr : Bool) : Ab := { σ with nodes := σ.nodes ++ [n], fresh := fr }
def sHtml : ByteArray := ⟨#[104, 116, 109, 108]⟩
def sBody : ByteArray := ⟨#[98, 111, 100, 121]⟩
def givable (s : ByteArray) : Bool := eqS s sHtml || eqS s sBody
structure Wf (σ : Ab) : Prop where
  opn : ∀ x ∈ σ.opn, σ.isElS x = true
  act : ∀ x ∈ σ.act, σ.isEl x = true
  head : σ.isEl σ.head = true
  form : σ.isEl σ.form = true
  par : ∀ i e, σ.el? i = some e → σ.isEl e.par = true
  kids : ∀ i e, σ.el? i = some e → ∀ k ∈ e.kids, σ.isKid k = true
  doc : (σ.el? 0).isSome = true
theorem Ab.lt_of_el {σ : Ab} {i : Nat} {e : AEl} (h : σ.el? i = some e) : i < σ.nodes.length := by
  unfold Ab.el? at h
  by_cases hi : i < σ.nodes.length
  · exact hi
  · rw [List.getElem?_eq_none (by omega)] at h; cases h
theorem Ab.node_of_el {σ : Ab} {i : Nat} {e : AEl} (h : σ.el? i = some e) : σ.nodes[i]? = some (.el e) := by
  unfold Ab.el? at h
  split at h
  · rename_i e' he; rw [he]; cases h; rfl
  · cases h
theorem Ab.el_of_node {σ : Ab} {i : Nat} {e : AEl} (h : σ.nodes[i]? = some (.el e)) : σ.el? i = some e := by
  unfold Ab.el?; rw [h]
end Go.Proofs.YtlhhgenpcjjajaaGreatDoor
namespace Go.Proofs.YtlhhgenpcjjajaaGreatDoor
open Go.RowKit
def words (s : ByteArray) : List ByteArray := (Lib.fields s.data.toList).map fun l => ⟨l.toArray⟩
def putAll (L : List (ByteArray × Value)) (ks : List ByteArray) (v : Value) : List (ByteArray × Value) := ks.foldl (fun L k => putL L k v) L
theorem putAll_step (L : List (ByteArray × Value)) (ks : List ByteArray) (v : Value) (n : Nat) (hn : n < ks.length) : putAll L (ks.take (n + 1)) v = putL (putAll L (ks.take n) v) ks[n] v := by
  unfold putAll
  rw [List.take_succ_eq_append_getElem hn, List.foldl_append]
  rfl
abbrev Blanks (w : World) : Prop := Lib.TabIs Tryz.prog w "strings.asciiSpace" .u8 Lib.asciiSpaceTab
def plainText (s : ByteArray) : Bool := decide (s.size < 4096) && s.data.toList.all (fun b => decide (b.toNat < 128)) && decide ((words s).length ≤ 4096)
theorem fields_ok (s : ByteArray) (w : World) (hp : plainText s = true) (ht : Blanks w) :
    Calls Tryz.prog 96 #[.string s] w fun e w' => e = .returned (.slice (some ⟨w.heap.size, 0, none⟩) (words s).length (words s).length) ∧ w' = w.alloc (.cells ((words s).map Value.string).toArray 9 (0, 0)) := by
  unfold plainText at hp
  simp only [Bool.and_eq_true, decide_eq_true_eq, List.all_eq_true] at hp
  have h := Tryz.strings_Fields s w (by omega) (fun j b hb => hp.1.2 b (List.mem_of_getElem? hb)) ht
  refine h.mono ?_
  rintro e w' ⟨rfl, rfl⟩
  have e1 : (words s).length = (Lib.fields s.data.toList).length := by simp [words]
  refine ⟨by rw [e1], ?_⟩
  congr 2
  simp [words, Function.comp_def]
set_option maxHeartbeats 2000000 in
set_option maxRecDepth 100000 in
theorem on_ok (b : Nat) (s : ByteArray) (v : Value) (L : List (ByteArray × Value)) (w : World) (hp : plainText s = true) (ht : Blanks w) (hm : MapS w b L) :
    Calls Tryz.prog 102 #[.map (some b), .string s, v] w fun e w' => e = .returned (.map (some b)) ∧ MapS w' b (putAll L (words s) v) ∧ Kept [b] w w' := by
  have hlen : (words s).length ≤ 4096 := by
    unfold plainText at hp
    simp only [Bool.and_eq_true, decide_eq_true_eq] at hp
    exact hp.2
  have HF := hide (fields_ok s w hp ht)
  have HM := hide hm
  clear hp ht hm
  generalize words s = ks at HF hlen ⊢
  go_enter Tryz.func102, Tryz.ntmps102
  go_wp2_with fail
  refine HF.out.mono ?_
  rintro e w1 ⟨rfl, hw1⟩
  have g1 : w1.heap[w.heap.size]? = some (.cells (ks.map Value.string).toArray 9 (0, 0)) := by rw [hw1]; exact heap_alloc_at w _
  have k1 : Kept [] w w1 := by rw [hw1]; exact (Kept.refl _ _).alloc _
  have m1 := HM.out.kept k1 (by simp)
  have hbn : b ≠ w.heap.size := by have := HM.out.lt; omega
  have HG := hide g1
  have HK := hide k1
  have HM1 := hide m1
  have HBN := hide hbn
  clear hw1 g1 k1 m1 hbn
  go_wp2
  go_loopw [12] (fun i wr => ∃ k : Nat, k ≤ ks.length ∧ i = .int .i64 k ∧ MapS wr b (putAll L (ks.take k) v) ∧ Kept [b] w wr ∧ wr.heap[w.heap.size]? = some (.cells (ks.map Value.string).toArray 9 (0, 0))) (fun i _ => ks.length - (intOf i).toNat)
  case atStart => exact ⟨0, Nat.zero_le _, rfl, HM1.out, HK.out.mono (by simp), HG.out⟩
  case round =>
    obtain ⟨k, hk, rfl, hmk, hkk, hgk⟩ := hrel
    by_cases hlt : k < ks.length
    · have c1 : wr.cell? ⟨w.heap.size, k, none⟩ = some (.string ks[k]) := by rw [cell_at hgk]; simp [hlt]
      obtain ⟨w2, r2, m2, k2, z2⟩ := run_putS (T := 170) (E := 168) (by kernel_rfl) hmk ks[k] v
      have HM2 := hide m2
      have HK2 := hide (hkk.trans k2)
      have HG2 := hide (k2.at hgk (by simpa using HBN.out.symm))
      have HS := hide (putAll_step L ks v k hlt)
      clear hmk hkk hgk m2 k2 z2
      go_wp2
      go_roundw
      case rel => exact ⟨k + 1, by omega, by go_num, by rw [HS.out]; exact HM2.out, HK2.out, HG2.out⟩
      case measure => simp [intOf]; omega
    · have hkn : k = ks.length := by omega
      have HMk := hide (show MapS wr b (putAll L ks v) by rw [hkn, List.take_length] at hmk; exact hmk)
      have HKk := hide hkk
      clear hmk hkk hgk hkn
      go_wp2
      go_ret
      exact ⟨rfl, HMk.out, HKk.out⟩
end Go.Proofs.YtlhhgenpcjjajaaGreatDoor
namespace Go.Proofs.YtlhhgenpcjjajaaGreatDoor
open Go.RowKit
def encN (L : List (ByteArray × Nat)) : List (ByteArray × Value) := L.map fun p => (p.1, .int .i64 (p.2 : Int))
def getN : List (ByteArray × Nat) → ByteArray → Nat
  | [], _ => 0
  | p :: L, k => if eqS k p.1 then p.2 else getN L k
def putN : List (ByteArray × Nat) → ByteArray → Nat → List (ByteArray × Nat)
  | [], k, v => [(k, v)]
  | p :: L, k, v => if eqS k p.1 then (k, v) :: L else p :: putN L k v
theorem getN_get : ∀ (L : List (ByteArray × Nat)) (k : ByteArray), (getL (encN L) k).getD (.int .i64 0) = .int .i64 (getN L k : Int)
  | [], _ => rfl
  | p :: L, k => by
    show (if eqS k p.1 then some (Value.int .i64 (p.2 : Int)) else getL (encN L) k).getD _ = _
    unfold getN
    split
    · rfl
    · exact getN_get L k
theorem putN_put : ∀ (L : List (ByteArray × Nat)) (k : ByteArray) (v : Nat), putL (encN L) k (.int .i64 (v : Int)) = encN (putN L k v)
  | [], _, _ => rfl
  | p :: L, k, v => by
    show (if eqS k p.1 then (k, Value.int .i64 (v : Int)) :: encN L else (p.1, Value.int .i64 (p.2 : Int)) :: putL (encN L) k _) = _
    unfold putN
    split
    · rfl
    · rw [putN_put L k v]; rfl
theorem getN_putN : ∀ (L : List (ByteArray × Nat)) (k : ByteArray) (v : Nat) (s : ByteArray), getN (putN L k v) s = if eqS s k then v else getN L s
  | [], k, v, s => rfl
  | p :: L, k, v, s => by
    unfold putN
    by_cases hk : eqS k p.1 = true
    · rw [if_pos hk]
      have e := eqS_iff.1 hk
      unfold getN
      rw [← e]
      split <;> rfl
    · rw [if_neg hk]
      unfold getN
      rw [getN_putN L k v s]
      by_cases h1 : eqS s p.1 = true
      · have h2 : eqS s k ≠ true := fun h => hk (by rw [eqS_iff] at h h1 ⊢; rw [← h, h1])
        simp [h1, h2]
      · simp [h1]
def addN (L : List (ByteArray × Nat)) (c : Nat) (ks : List ByteArray) : List (ByteArray × Nat) := ks.foldl (fun L k => putN L k (getN L k ||| c)) L
theorem addN_step (L : List (ByteArray × Nat)) (ks : List ByteArray) (c n : Nat) (hn : n < ks.length) : addN L c (ks.take (n + 1)) = putN (addN L c (ks.take n)) ks[n] (getN (addN L c (ks.take n)) ks[n] ||| c) := by
  unfold addN
  rw [List.take_succ_eq_append_getElem hn, List.foldl_append]
  rfl
theorem lt16 : ∀ a c : Fin 16, a.1 ||| c.1 < 16 := by decide
theorem addN_lt {c : Nat} (hc : c < 16) (ks : List ByteArray) : ∀ (L : List (ByteArray × Nat)), (∀ s, getN L s < 16) → ∀ s, getN (addN L c ks) s < 16 := by
  induction ks with
  | nil => exact fun L h => h
  | cons k ks ih =>
    intro L h
    refine ih _ fun s => ?_
    rw [getN_putN]
    split
    · exact lt16 ⟨_, h k⟩ ⟨c, hc⟩
    · exact h s
theorem or_all : ∀ a c : Fin 16, IntKind.i64.wrap (((BitVec.ofInt 64 (a.1 : Int)) ||| (BitVec.ofInt 64 (c.1 : Int))).toNat : Int) = ((a.1 ||| c.1 : Nat) : Int) := by decide
theorem and_all : ∀ a c : Fin 16, IntKind.i64.wrap (((BitVec.ofInt 64 (a.1 : Int)) &&& (BitVec.ofInt 64 (c.1 : Int))).toNat : Int) = ((a.1 &&& c.1 : Nat) : Int) := by decide
theorem bits_or (a c : Nat) (ha : a < 16) (hc : c < 16) : bits .or .i64 (a : Int) (c : Int) = ((a ||| c : Nat) : Int) := or_all ⟨a, ha⟩ ⟨c, hc⟩
theorem bits_and (a c : Nat) (ha : a < 16) (hc : c < 16) : bits .and .i64 (a : Int) (c : Int) = ((a &&& c : Nat) : Int) := and_all ⟨a, ha⟩ ⟨c, hc⟩
set_option maxHeartbeats 2000000 in
set_option maxRecDepth 100000 in
theorem add_ok (b : Nat) (s : ByteArray) (c : Nat) (L : List (ByteArray × Nat)) (w : World) (hp : plainText s = true) (ht : Blanks w) (hm : MapS w b (encN L)) (hc : c < 16) (hL : ∀ s, getN L s < 16) :
    Calls Tryz.prog 62 #[.agg #[.map (some b)], .int .i64 (c : Int), .string s] w fun e w' => e = .returned (.tuple #[]) ∧ MapS w' b (encN (addN L c (words s))) ∧ Kept [b] w w' := by
  have hlen : (words s).length ≤ 4096 := by
    unfold plainText at hp
    simp only [Bool.and_eq_true, decide_eq_true_eq] at hp
    exact hp.2
  have k0 : Kept [] w (w.alloc (.cells #[.map (some b)] 92 (0, 0))) := (Kept.refl _ _).alloc _
  have g0 := heap_alloc_at w (.cells #[.map (some b)] 92 (0, 0))
  have HF := hide (fields_ok s (w.alloc (.cells #[.map (some b)] 92 (0, 0))) hp (Lib.tabIs_alloc ht _))
  have HM := hide (hm.kept k0 (by simp))
  have hbl := hm.lt
  have HL := hide hL
  clear hp ht hm hL
  generalize words s = ks at HF hlen ⊢
  obtain ⟨w0, hw0⟩ : ∃ w0, w0 = w.alloc (.cells #[.map (some b)] 92 (0, 0)) := ⟨_, rfl⟩
  go_enter Tryz.func62, Tryz.ntmps62
  go_wp2_with fail
  refine HF.out.mono ?_
  rintro e w1 ⟨rfl, hw1⟩
  rw [← hw0] at hw1 g0 k0 HM
  have z0 : w0.heap.size = w.heap.size + 1 := by rw [hw0]; simp
  have g1 : w1.heap[w.heap.size + 1]? = some (.cells (ks.map Value.string).toArray 9 (0, 0)) := by rw [hw1, ← z0]; exact heap_alloc_at w0 _
  have k1 : Kept [] w0 w1 := by rw [hw1]; exact (Kept.refl _ _).alloc _
  have HG := hide g1
  have HG0 := hide (k1.at g0 (by simp))
  have HK := hide (k0.trans k1)
  have HM1 := hide (HM.out.kept k1 (by simp))
  have HW0 := hide hw0
  have HZ0 := hide z0
  have HBL := hide hbl
  clear hw1 g1 k1 k0 hw0 z0 g0 hbl
  go_wp2
  go_loopw [11] (fun i wr => ∃ k : Nat, k ≤ ks.length ∧ i = .int .i64 k ∧ MapS wr b (encN (addN L c (ks.take k))) ∧ Kept [b] w wr ∧ wr.heap[w.heap.size + 1]? = some (.cells (ks.map Value.string).toArray 9 (0, 0)) ∧ wr.heap[w.heap.size]? = some (.cells #[.map (some b)] 92 (0, 0))) (fun i _ => ks.length - (intOf i).toNat)
  case atStart => exact ⟨0, Nat.zero_le _, rfl, HM1.out, HK.out.mono (by simp), HG.out, HG0.out⟩
  case round =>
    obtain ⟨k, hk, rfl, hmk, hkk, hgk, hck⟩ := hrel
    by_cases hlt : k < ks.length
    · have c1 : wr.cell? ⟨w.heap.size + 1, k, none⟩ = some (.string ks[k]) := by rw [cell_at hgk]; simp [hlt]
      have c2 : wr.cell? ⟨w.heap.size, 0, none⟩ = some (.map (some b)) := by rw [cell_at hck]; rfl
      have hl16 := addN_lt hc (ks.take k) L HL.out ks[k]
      have hlk := run_lookS (T := 90) (E := 95) (z := .int .i64 0) (by kernel_rfl) (by intro w; exact Tryz.zeroValue95 w) hmk ks[k]
      rw [getN_get] at hlk
      have hbo := bits_or _ c hl16 hc
      obtain ⟨w2, r2, m2, k2, z2⟩ := run_putS (T := 90) (E := 95) (by kernel_rfl) hmk ks[k] (.int .i64 ((getN (addN L c (ks.take k)) ks[k] ||| c : Nat) : Int))
      rw [putN_put, ← addN_step L ks c k hlt] at m2
      have HM2 := hide m2
      have HK2 := hide (hkk.trans k2)
      have HG2 := hide (k2.at hgk (by have := HBL.out; simp; omega))
      have HC2 := hide (k2.at hck (by have := HBL.out; simp; omega))
      obtain ⟨q, hq⟩ : ∃ q, q = getN (addN L c (ks.take k)) ks[k] := ⟨_, rfl⟩
      rw [← hq] at hlk hbo r2
      obtain ⟨q2, hq2⟩ : ∃ q2 : Nat, q2 = q ||| c := ⟨_, rfl⟩
      rw [← hq2] at hbo r2
      clear hmk hkk hgk hck m2 k2 z2 hq hq2 hl16
      go_wp2
      go_roundw
      case rel => exact ⟨k + 1, by omega, by go_num, HM2.out, HK2.out, HG2.out, HC2.out⟩
      case measure => simp [intOf]; omega
    · have hkn : k = ks.length := by omega
      have HMk := hide (show MapS wr b (encN (addN L c ks)) by rw [hkn, List.take_length] at hmk; exact hmk)
      have HKk := hide hkk
      clear hmk hkk hgk hkn hck
      go_wp2
      go_end0
      exact ⟨rfl, HMk.out, HKk.out⟩
end Go.Proofs.YtlhhgenpcjjajaaGreatDoor
namespace Go.Proofs.YtlhhgenpcjjajaaGreatDoor
open Go.RowKit
def wVoid : List ByteArray := [⟨#[98, 114]⟩, ⟨#[104, 114]⟩, ⟨#[105, 109, 103]⟩, ⟨#[105, 110, 112, 117, 116]⟩, ⟨#[109, 101, 116, 97]⟩, ⟨#[99, 111, 108]⟩]
def wSpecial : List ByteArray := [⟨#[104, 116, 109, 108]⟩, ⟨#[104, 101, 97, 100]⟩, ⟨#[116, 105, 116, 108, 101]⟩, ⟨#[115, 116, 121, 108, 101]⟩, ⟨#[109, 101, 116, 97]⟩, ⟨#[98, 111, 100, 121]⟩, ⟨#[112]⟩, ⟨#[100, 105, 118]⟩, ⟨#[104, 49]⟩, ⟨#[104, 50]⟩, ⟨#[117, 108]⟩, ⟨#[100, 108]⟩, ⟨#[108, 105]⟩, ⟨#[100, 100]⟩, ⟨#[100, 116]⟩, ⟨#[112, 114, 101]⟩, ⟨#[102, 111, 114, 109]⟩, ⟨#[98, 117, 116, 116, 111, 110]⟩, ⟨#[105, 110, 112, 117, 116]⟩, ⟨#[98, 114]⟩, ⟨#[104, 114]⟩, ⟨#[105, 109, 103]⟩, ⟨#[116, 97, 98, 108, 101]⟩, ⟨#[99, 97, 112, 116, 105, 111, 110]⟩, ⟨#[99, 111, 108, 103, 114, 111, 117, 112]⟩, ⟨#[99, 111, 108]⟩, ⟨#[116, 98, 111, 100, 121]⟩, ⟨#[116, 104, 101, 97, 100]⟩, ⟨#[116, 102, 111, 111, 116]⟩, ⟨#[116, 114]⟩, ⟨#[116, 100]⟩, ⟨#[116, 104]⟩, ⟨#[111, 98, 106, 101, 99, 116]⟩, ⟨#[115, 101, 108, 101, 99, 116]⟩, ⟨#[116, 101, 120, 116, 97, 114, 101, 97]⟩]
def wImplied : List ByteArray := [⟨#[100, 100]⟩, ⟨#[100, 116]⟩, ⟨#[108, 105]⟩, ⟨#[111, 112, 116, 105, 111, 110]⟩, ⟨#[111, 112, 116, 103, 114, 111, 117, 112]⟩, ⟨#[112]⟩]
def wBounds : List ByteArray := [⟨#[104, 116, 109, 108]⟩, ⟨#[116, 97, 98, 108, 101]⟩, ⟨#[116, 100]⟩, ⟨#[116, 104]⟩, ⟨#[99, 97, 112, 116, 105, 111, 110]⟩, ⟨#[111, 98, 106, 101, 99, 116]⟩]
def classL : List (ByteArray × Nat) := addN (addN (addN (addN [] 1 wVoid) 2 wSpecial) 4 wImplied) 8 wBounds
theorem Blanks.kept {S : List Nat} {w w' : World} (h : Blanks w) (hk : Kept S w w') (hg : 1 ∉ S) : Blanks w' := by
  unfold Blanks Lib.TabIs World.var? at *
  have e : Tryz.prog.globalNamed "strings.asciiSpace" = some 1 := by kernel_rfl
  simp only [e, Option.bind_some] at h ⊢
  have hlt : 1 < w.heap.size := by
    rcases Nat.lt_or_ge 1 w.heap.size with h' | h'
    · exact h'
    · rw [Array.getElem?_eq_none h'] at h; simp at h
  rw [hk.block _ hlt hg]
  exact h
theorem add_ok2 (b : Nat) (s : ByteArray) (c : Nat) (L : List (ByteArray × Nat)) (ks : List ByteArray) (w : World) (hp : plainText s = true) (hks : words s = ks) (ht : Blanks w) (hm : MapS w b (encN L)) (hc : c < 16) (hL : ∀ s, getN L s < 16) :
    Calls Tryz.prog 62 #[.agg #[.map (some b)], .int .i64 (c : Int), .string s] w fun e w' => e = .returned (.tuple #[]) ∧ MapS w' b (encN (addN L c ks)) ∧ Kept [b] w w' := by
  rw [← hks]
  exact add_ok b s c L w hp ht hm hc hL
theorem nil16 : ∀ s, getN [] s < 16 := fun _ => Nat.zero_lt_succ 15
set_option maxHeartbeats 2000000 in
set_option maxRecDepth 100000 in
theorem newClasses_ok (w : World) (ht : Blanks w) :
    Calls Tryz.prog 40 #[] w fun e w' => ∃ bm, e = .returned (.agg #[.map (some bm)]) ∧ MapS w' bm (encN classL) ∧ Kept [] w w' ∧ w.heap.size ≤ bm := by
  have hmm := @run_makeMap Tryz.prog
  obtain ⟨W, hW⟩ : ∃ W, W = ((w.alloc (.cells #[.map none] 92 (0, 0))).alloc (.map #[] 0)).alloc (.cells #[.map (some (w.heap.size + 1))] 92 (0, 0)) := ⟨_, rfl⟩
  have kW : Kept [] w W := by rw [hW]; exact (((Kept.refl _ _).alloc _).alloc _).alloc _
  have g0 : W.heap[w.heap.size]? = some (.cells #[.map none] 92 (0, 0)) := by
    rw [hW, Below.heap_alloc _ _ _ (by simp; omega), Below.heap_alloc _ _ _ (by simp)]; exact heap_alloc_at w _
  have g1 : W.heap[w.heap.size + 1]? = some (.map #[] 0) := by
    rw [hW, Below.heap_alloc _ _ _ (by simp)]
    have := heap_alloc_at (w.alloc (.cells #[.map none] 92 (0, 0))) (.map #[] 0)
    rwa [World.size_alloc] at this
  have g2 : W.heap[w.heap.size + 1 + 1]? = some (.cells #[.map (some (w.heap.size + 1))] 92 (0, 0)) := by
    rw [hW]
    have := heap_alloc_at ((w.alloc (.cells #[.map none] 92 (0, 0))).alloc (.map #[] 0)) (.cells #[.map (some (w.heap.size + 1))] 92 (0, 0))
    rwa [World.size_alloc, World.size_alloc] at this
  have m0 : MapS W (w.heap.size + 1) (encN []) := ⟨#[], 0, g1, rfl⟩
  have hgl : 1 ∉ [w.heap.size + 1] := by
    have hlt : 1 < w.heap.size := by
      have h := ht
      unfold Blanks Lib.TabIs World.var? at h
      have e : Tryz.prog.globalNamed "strings.asciiSpace" = some 1 := by kernel_rfl
      simp only [e, Option.bind_some] at h
      rcases Nat.lt_or_ge 1 w.heap.size with h' | h'
      · exact h'
      · rw [Array.getElem?_eq_none h'] at h; simp at h
    intro hmem
    have := List.mem_singleton.1 hmem
    omega
  have HT := hide (ht.kept kW (by simp))
  have HG := hide hgl
  have HK := hide (kW.mono (S' := [w.heap.size + 1]) (by simp))
  have HM := hide m0
  have H0 := hide g0
  have H2 := hide g2
  have HW := hide hW
  clear kW g0 g1 g2 m0 hW hgl ht
  go_enter Tryz.func40, Tryz.ntmps40
  go_wp2_with fail
  rw [← HW.out]
  refine (add_ok2 (w.heap.size + 1) _ 1 [] wVoid W (by kernel_rfl) (by kernel_rfl) HT.out HM.out (by decide) nil16).mono ?_
  rintro e w1 ⟨rfl, m1, k1⟩
  have HT1 := hide (HT.out.kept k1 HG.out)
  have HK1 := hide (HK.out.trans k1)
  have HM1 := hide m1
  have H01 := hide (k1.at H0.out (by simp))
  have H21 := hide (k1.at H2.out (by simp))
  have c1 : w1.cell? ⟨w.heap.size + 1 + 1, 0, none⟩ = some (.map (some (w.heap.size + 1))) := by rw [cell_at H21.out]; rfl
  clear k1 m1
  go_wp2_with fail
  refine (add_ok2 (w.heap.size + 1) _ 2 (addN [] 1 wVoid) wSpecial w1 (by kernel_rfl) (by kernel_rfl) HT1.out HM1.out (by decide) (addN_lt (by decide) _ _ nil16)).mono ?_
  rintro e w2 ⟨rfl, m2, k2⟩
  clear c1
  have HT2 := hide (HT1.out.kept k2 HG.out)
  have HK2 := hide (HK1.out.trans k2)
  have HM2 := hide m2
  have H02 := hide (k2.at H01.out (by simp))
  have H22 := hide (k2.at H21.out (by simp))
  have c2 : w2.cell? ⟨w.heap.size + 1 + 1, 0, none⟩ = some (.map (some (w.heap.size + 1))) := by rw [cell_at H22.out]; rfl
  clear k2 m2
  go_wp2_with fail
  refine (add_ok2 (w.heap.size + 1) _ 4 (addN (addN [] 1 wVoid) 2 wSpecial) wImplied w2 (by kernel_rfl) (by kernel_rfl) HT2.out HM2.out (by decide) (addN_lt (by decide) _ _ (addN_lt (by decide) _ _ nil16))).mono ?_
  rintro e w3 ⟨rfl, m3, k3⟩
  clear c2
  have HT3 := hide (HT2.out.kept k3 HG.out)
  have HK3 := hide (HK2.out.trans k3)
  have HM3 := hide m3
  have H03 := hide (k3.at H02.out (by simp))
  have H23 := hide (k3.at H22.out (by simp))
  have c3 : w3.cell? ⟨w.heap.size + 1 + 1, 0, none⟩ = some (.map (some (w.heap.size + 1))) := by rw [cell_at H23.out]; rfl
  clear k3 m3
  go_wp2_with fail
  refine (add_ok2 (w.heap.size + 1) _ 8 (addN (addN (addN [] 1 wVoid) 2 wSpecial) 4 wImplied) wBounds w3 (by kernel_rfl) (by kernel_rfl) HT3.out HM3.out (by decide) (addN_lt (by decide) _ _ (addN_lt (by decide) _ _ (addN_lt (by decide) _ _ nil16)))).mono ?_
  rintro e w4 ⟨rfl, m4, k4⟩
  clear c3
  have HT4 := hide (HT3.out.kept k4 HG.out)
  have HK4 := hide (HK3.out.trans k4)
  have HM4 := hide m4
  have H04 := hide (k4.at H03.out (by simp))
  have H24 := hide (k4.at H23.out (by simp))
  have c4 : w4.cell? ⟨w.heap.size + 1 + 1, 0, none⟩ = some (.map (some (w.heap.size + 1))) := by rw [cell_at H24.out]; rfl
  clear k4 m4
  have f4 := free_at H04.out 0
  have c04 : w4.cell? ⟨w.heap.size, 0, none⟩ = some (.map none) := by rw [cell_at H04.out]; rfl
  have HK5 := hide ((HK4.out.mono (S' := []) (fun k hk hl => by have := List.mem_singleton.1 hk; omega)).setCell (p := ⟨w.heap.size, 0, none⟩) (.inr (Nat.le_refl _)) (.map (some (w.heap.size + 1))))
  have HM5 := hide (HM4.out.keeps (w' := w4.setCell ⟨w.heap.size, 0, none⟩ (.map (some (w.heap.size + 1)))) (Below.heap_setCell w4 ⟨w.heap.size, 0, none⟩ _ _ (by simp)))
  have c5 := cell_at (block_setCell H04.out 0 (.map (some (w.heap.size + 1)))) 0
  go_wp2
  refine bodyPost_ret (v := .agg #[.map (some (w.heap.size + 1))]) ?_ rfl ⟨w.heap.size + 1, rfl, HM5.out, HK5.out, by omega⟩
  simp [results, Tryz.f40, go_sem, c5]
end Go.Proofs.YtlhhgenpcjjajaaGreatDoor
namespace Go.Proofs.YtlhhgenpcjjajaaGreatDoor
open Go.RowKit
def isC (L : List (ByteArray × Nat)) (c : Nat) (s : ByteArray) : Bool := decide (getN L s &&& c ≠ 0)
def pSpecial : ByteArray → Bool := isC classL 2
def pImplied : ByteArray → Bool := isC classL 4
def pBounds : ByteArray → Bool := isC classL 8
theorem class16 : ∀ s, getN classL s < 16 := addN_lt (by decide) _ _ (addN_lt (by decide) _ _ (addN_lt (by decide) _ _ (addN_lt (by decide) _ _ nil16)))
set_option maxHeartbeats 1000000 in
theorem are1_ok (b1 b2 bm c : Nat) (L : List (ByteArray × Nat)) (w : World) (h1 : w.heap[b1]? = some (.cells #[.map (some bm)] 92 (0, 0))) (h2 : w.heap[b2]? = some (.cells #[.int .i64 (c : Int)] 95 (0, 0))) (hm : MapS w bm (encN L)) (hc : c < 16) (hL : ∀ s, getN L s < 16) :
    AskAt [b1, b2, bm] (.func (.func 63) #[] #[.pointer (some ⟨b1, 0, none⟩), .pointer (some ⟨b2, 0, none⟩)]) (isC L c) w := by
  refine ⟨⟨_, _, rfl, enters_of Tryz.func63 (by kernel_rfl) rfl, fun W hW s => ?_⟩, fun e he => ?_⟩
  · have c1 : W.cell? ⟨b1, 0, none⟩ = some (.map (some bm)) := by rw [cell_at (keepsB_cell hW (by simp) h1)]; rfl
    have c2 : W.cell? ⟨b2, 0, none⟩ = some (.int .i64 (c : Int)) := by rw [cell_at (keepsB_cell hW (by simp) h2)]; rfl
    have hlk := run_lookS (T := 90) (E := 95) (z := .int .i64 0) (by kernel_rfl) (by intro w; exact Tryz.zeroValue95 w) (hm.keeps (hW bm (by simp))) s
    rw [getN_get] at hlk
    have hba := bits_and _ c (hL s) hc
    have hv : isC L c s = decide (getN L s &&& c ≠ 0) := rfl
    rw [hv]
    generalize getN L s = q at hlk hba ⊢
    obtain ⟨q2, hq2⟩ : ∃ q2 : Nat, q2 = q &&& c := ⟨_, rfl⟩
    rw [← hq2] at hba ⊢
    clear h1 h2 hm hW hL hq2 hv
    show Calls Tryz.prog 63 #[.string s, .pointer (some ⟨b1, 0, none⟩), .pointer (some ⟨b2, 0, none⟩)] W _
    by_cases h0 : q2 = 0
    · subst h0
      go_enter Tryz.func63, Tryz.ntmps63
      go_wp2
      go_ret
      exact ⟨by simp, rfl⟩
    · have h1 : ¬ ((q2 : Int) = 0) := by omega
      rw [decide_eq_true h0]
      go_enter Tryz.func63, Tryz.ntmps63
      go_wp2
      go_ret
      exact ⟨by simp [h0], rfl⟩
  · simp at he
    rcases he with rfl | rfl | rfl
    · exact lt_of_block h1
    · exact lt_of_block h2
    · exact hm.lt
end Go.Proofs.YtlhhgenpcjjajaaGreatDoor
