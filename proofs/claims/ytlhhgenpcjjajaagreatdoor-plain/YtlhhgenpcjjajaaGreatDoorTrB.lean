import Derived.Test.YtlhhgenpcjjajaaGreatDoorTrA
import Derived.LaidEql
import Derived.Laws.IdiomStrings
import Derived.Laws.Concat
import Derived.Deep.RegionHeld3
set_option linter.unusedSimpArgs false
set_option linter.unusedVariables false
namespace Go.Proofs.YtlhhgenpcjjajaaGreatDoor
open Go.RowKit
theorem info_ndD : (Tryz.prog.info? 142).map (fun i => (i.zero, i.size, i.bytes)) = some (some (.nilIface), 1, 16) := by kernel_rfl
theorem del_listN {l : List Value} {n i j : Nat} (hi : i < j) (hj : j ≤ n) (hn : n ≤ l.length) :
    ((l.take i ++ (l.take n).drop j ++ l.drop (i + (n - j))).take (n - (j - i))) = (l.take n).take i ++ (l.take n).drop j := by
  have e : (l.take i ++ (l.take n).drop j).length = n - (j - i) := by simp; omega
  rw [List.take_append_of_le_length (by omega), List.take_of_length_le (by omega)]
  congr 1
  rw [List.take_take, Nat.min_eq_left (by omega)]
set_option maxHeartbeats 4000000 in
set_option maxRecDepth 1000000 in
theorem delN_ok (g cap i j n : Nat) (cur : Array Value) (w : World) (hcur : w.heap[g]? = some (.cells cur 142 (0, 0))) (hnc : n ≤ cap) (hsz : cur.size = cap) (hi : i < j) (hj : j ≤ n) (hle : n ≤ 1048576)
    (h1 : ∀ u ∈ cur.toList.take n, u.oneCell' = true) :
    Calls Tryz.prog 386 #[.slice (some ⟨g, 0, none⟩) n cap, .int .i64 i, .int .i64 j] w fun e w' => e = .returned (.slice (some ⟨g, 0, none⟩) (n - (j - i)) cap) ∧
      ∃ cur', w'.heap[g]? = some (.cells cur' 142 (0, 0)) ∧ cur'.size = cap ∧ cur'.toList.take (n - (j - i)) = (cur.toList.take n).take i ++ (cur.toList.take n).drop j ∧ Kept [g] w w' := by
  obtain ⟨i0, hi0, hz0, hz1, hz2⟩ := info_parts info_ndD
  obtain ⟨news, hnews⟩ : ∃ news, news = (cur.toList.take n).drop j := ⟨_, rfl⟩
  have hlen : news.length = n - j := by rw [hnews]; simp; omega
  have hget : ∀ t u, news[t]? = some u → cur[j + t]? = some u := by
    intro t u hu
    rw [hnews, List.getElem?_drop, List.getElem?_take] at hu
    split at hu
    · simpa using hu
    · cases hu
  obtain ⟨A, hA, hsrc⟩ : ∃ A : Addr, (if cap = j then some (⟨g, 0, none⟩ : Addr) else some ⟨g, j, none⟩) = some A ∧ Hid (∀ t u, news[t]? = some u → w.drew.cell? (A.add t) = some u) := by
    by_cases h : cap = j
    · refine ⟨⟨g, 0, none⟩, by simp [h], fun t u hu => ?_⟩
      have h0 : news.length = 0 := by rw [hlen]; omega
      rw [List.length_eq_zero_iff.1 h0] at hu
      simp at hu
    · refine ⟨⟨g, j, none⟩, by simp [h], fun t u hu => ?_⟩
      rw [show (⟨g, j, none⟩ : Addr).add t = ⟨g, j + t, none⟩ from by unfold Addr.add; split <;> simp_all]
      exact (cell_at hcur _).trans (hget t u hu)
  have s1 : Hid (news.length = (n - j) * 1) := by rw [Nat.mul_one]; exact hlen
  have s2 : Hid (∀ u ∈ news, u.oneCell' = true) := fun u hu => h1 u (List.mem_of_mem_drop (hnews ▸ hu))
  have s3 : Hid (∀ t, t < news.length → (w.drew.cell? ⟨g, 0 + i * 1 + t, none⟩).isSome = true ∧ w.drew.frozen? ⟨g, 0 + i * 1 + t, none⟩ = false) := by
    intro t ht
    rw [hlen] at ht
    refine ⟨?_, free_at hcur _⟩
    show (w.cell? _).isSome = true
    rw [cell_at hcur, Array.getElem?_eq_getElem (by omega)]; rfl
  obtain ⟨W1, hW1⟩ : ∃ W1, W1 = w.drew.setCells g (0 + i * 1) news := ⟨_, rfl⟩
  have hB1 : W1.heap[g]? = some (.cells (putList cur (0 + i * 1) news) 142 (0, 0)) := by rw [hW1]; exact block_setCells news w.drew g cur _ _ _ hcur
  have hK1 : Kept [g] w W1 := by rw [hW1]; exact Kept.setCells (.inl (by simp)) news _ (Kept.refl _ _).drew
  have hcl : ∀ ty, (Builtin.clear_ #[138] ty #[.slice (some ⟨g, i + (n - j), none⟩) (n - (i + (n - j))) (cap - (i + (n - j)))]).run Tryz.prog W1 = .ok (.tuple #[]) (W1.setCells g (i + (n - j)) (List.replicate (n - (i + (n - j))) (.nilIface))) :=
    fun ty => Lib.run_clear_slice W1 _ _ ty _ Tryz.underlying138 Tryz.zeroValue142 rfl rfl g (i + (n - j)) _ _ (by omega) (fun t ht => by rw [cell_at hB1, Array.getElem?_eq_getElem (by rw [putList_size]; omega)]; rfl) (fun t ht => free_at hB1 _)
  have hB2 := block_setCells (List.replicate (n - (i + (n - j))) (Value.nilIface)) W1 g _ _ _ (i + (n - j)) hB1
  have hK2 := Kept.setCells (S := [g]) (a := w) (b := g) (.inl (by simp)) (List.replicate (n - (i + (n - j))) (Value.nilIface)) (i + (n - j)) hK1
  have hp1 : (putList cur (0 + i * 1) news).toList = cur.toList.take (0 + i * 1) ++ news ++ cur.toList.drop (0 + i * 1 + news.length) := putList_toList _ _ _ (by rw [hlen]; omega)
  have hp2 := putList_toList (List.replicate (n - (i + (n - j))) (Value.nilIface)) (putList cur (0 + i * 1) news) (i + (n - j)) (by rw [putList_size]; simp; omega)
  have hfin : (putList (putList cur (0 + i * 1) news) (i + (n - j)) (List.replicate (n - (i + (n - j))) (Value.nilIface))).toList.take (n - (j - i)) = (cur.toList.take n).take i ++ (cur.toList.take n).drop j := by
    rw [hp2, List.append_assoc, List.take_append_of_le_length (by simp [putList_size]; omega), hp1, hlen, hnews]
    rw [List.take_take, Nat.min_eq_left (by omega)]
    have := del_listN (l := cur.toList) hi hj (by simp; omega)
    simpa using this
  have HB := hide hB2
  have HK := hide hK2
  have HF := hide hfin
  have HW := hide hW1
  have hic : i ≤ cap := by omega
  have hjc : j ≤ cap := by omega
  clear hB1 hK1 hB2 hK2 hfin hW1 hget hnews hlen hcur h1 hp1 hp2
  go_enter Tryz.func386, Tryz.ntmps386
  go_wp2_with fail
  go_region_law (refine step_append_room rfl (.tmp 22) (.tmp 25) 138 rfl 142 i0 1 Tryz.underlying138 hi0 hz1 g 0 i cap (by simp [Act.eval, Act.put]) A (n - j) (cap - j) news (by simp [Act.eval, Act.put]) s1.out hsrc.out s2.out (by omega) s3.out ?_; rw [← HW.out])
  go_wp2
  go_ret
  exact ⟨by rw [show n - (j - i) = i + (n - j) by omega]; rfl, _, HB.out, by rw [putList_size, putList_size]; exact hsz, HF.out, HK.out⟩
end Go.Proofs.YtlhhgenpcjjajaaGreatDoor
namespace Go.Proofs.YtlhhgenpcjjajaaGreatDoor
open Go.RowKit
def Nd.blk : Nd → Nat
  | .el k => k
  | .tx k => k
  | .cm k => k
  | .dt k => k
def Nd.typ : Nd → TypeId
  | .el _ => 140
  | .tx _ => 284
  | .cm _ => 239
  | .dt _ => 243
def IsNd (w : World) (x : Nd) : Prop := ∃ c, w.heap[x.blk]? = some (.cells c x.typ (0, 0))
def Nd.isEl (j : Nat) : Nd → Bool
  | .el k => k == j
  | _ => false
theorem ndc : (Tryz.prog.info? 72).map (fun i => i.comparable) = some true := by kernel_rfl
theorem eql_if_ne {T U : TypeId} {v u : Value} (hne : T ≠ U) (w : World) : (binOp .eql 142 (.iface T v) (.iface U u)).run Tryz.prog w = .ok (.bool false) w := by
  have h : ∀ d : Nat, (Op.equalIn (d + 1) 142 (.iface T v) (.iface U u)).run Tryz.prog w = .ok false w := fun d => by simp [Op.equalIn, run_underlying Tryz.underlying142, hne]
  simp only [binOp]
  simp [Op.equal, Op.maxDepth, h 9999]
theorem eql_nd {w : World} {x : Nd} {j : Nat} (hx : IsNd w x) (hj : IsNd w (.el j)) :
    (binOp .eql 142 x.val (Nd.el j).val).run Tryz.prog w = .ok (.bool (x.isEl j)) w := by
  obtain ⟨i, hi, hcmp⟩ := Option.map_eq_some_iff.1 ndc
  obtain ⟨q, hq, hqs⟩ := Option.map_eq_some_iff.1 el_size
  cases x with
  | el k =>
    by_cases h : k = j
    · subst h
      have e : (Nd.el k).isEl k = true := by simp [Nd.isEl]
      rw [e]
      exact run_eql_iface_ptr_same (P := Tryz.prog) w (⟨k, 0, none⟩ : Addr) Tryz.underlying142 Tryz.underlying72 hi hcmp hq
    · obtain ⟨ca, ha⟩ := hx
      obtain ⟨cb, hb⟩ := hj
      have e : (Nd.el k).isEl j = false := by simp [Nd.isEl, h]
      rw [e]
      exact run_eql_iface_ptr_other (P := Tryz.prog) w (a := ⟨k, 0, none⟩) (b := ⟨j, 0, none⟩) Tryz.underlying142 Tryz.underlying72 hi hcmp hq (by rw [hqs]; decide) (by simp [h]) ha hb
  | tx k => exact eql_if_ne (by decide) w
  | cm k => exact eql_if_ne (by decide) w
  | dt k => exact eql_if_ne (by decide) w
theorem val_iface (x : Nd) : ∃ T v, x.val = .iface T (.pointer v) := by cases x <;> exact ⟨_, _, rfl⟩
set_option maxHeartbeats 1000000 in
theorem indexOf1_ok (bc j : Nat) (x : Nd) (w : World) (hb : w.cell? ⟨bc, 0, none⟩ = some (.pointer (some ⟨j, 0, none⟩))) (hx : IsNd w x) (hj : IsNd w (.el j)) :
    Calls Tryz.prog 371 #[x.val, .pointer (some ⟨bc, 0, none⟩)] w fun e w' => e = .returned (.bool (x.isEl j)) ∧ w' = w := by
  have hq := eql_nd hx hj
  obtain ⟨T, p, hv⟩ := val_iface x
  rw [hv] at hq ⊢
  unfold Nd.val at hq
  generalize x.isEl j = r at hq ⊢
  clear hx hj hv
  go_enter Tryz.func371, Tryz.ntmps371
  go_wp2
  go_ret
  exact ⟨rfl, rfl⟩
def posN (ns : List Nd) (p : Nd → Bool) : Int := if ns.findIdx p < ns.length then (ns.findIdx p : Int) else -1
theorem posN_at {ns : List Nd} {p : Nd → Bool} {k : Nat} (hk : k < ns.length) (hx : p ns[k] = true) (hno : ∀ j, (hj : j < ns.length) → j < k → p ns[j] = false) : posN ns p = k := by
  have h1 : ns.findIdx p = k := by
    have hlt : ns.findIdx p < ns.length := List.findIdx_lt_length_of_exists ⟨_, List.getElem_mem hk, hx⟩
    have hge : ¬ ns.findIdx p < k := fun hlt' => by
      have h2 := hno _ hlt hlt'
      rw [List.findIdx_getElem (w := hlt)] at h2
      cases h2
    have hle : ¬ k < ns.findIdx p := fun hlt' => by
      have := List.not_of_lt_findIdx hlt'
      rw [hx] at this
      cases this
    omega
  unfold posN
  rw [h1, if_pos hk]
theorem posN_no {ns : List Nd} {p : Nd → Bool} (hno : ∀ j, (hj : j < ns.length) → p ns[j] = false) : posN ns p = -1 := by
  unfold posN
  rw [if_neg]
  intro h
  have h2 := hno _ h
  rw [List.findIdx_getElem (w := h)] at h2
  cases h2
set_option maxHeartbeats 1000000 in
set_option maxRecDepth 100000 in
theorem idxF_ok (kv : Value) (ns : List Nd) (base bc j : Nat) (w : World) (ho : w.ownsRow base 142 1 kv ns.length (ns.map Nd.val)) (hn : ∀ x ∈ ns, IsNd w x) (hj : IsNd w (.el j)) (hb : w.cell? ⟨bc, 0, none⟩ = some (.pointer (some ⟨j, 0, none⟩))) (hle : ns.length ≤ 1048576) :
    Calls Tryz.prog 370 #[kv, .func (.func 371) #[] #[.pointer (some ⟨bc, 0, none⟩)]] w fun e w' => e = .returned (.int .i64 (posN ns (Nd.isEl j))) ∧ w' = w := by
  have HC := hide (fun x hx => indexOf1_ok bc j x w hb (hn x hx) hj)
  rcases ho.2 with ⟨rfl, e0⟩ | ⟨g, cap, cur, rfl, _, hcur, hnc, _, _, htake⟩
  · have hnil : ns = [] := List.eq_nil_of_length_eq_zero e0
    subst hnil
    clear ho hn hj hb HC
    go_enter Tryz.func370, Tryz.ntmps370
    go_wp2
    refine wp_loop_rounds 1 ?_
    rw [rounds_succ]
    go_wp2
    go_ret
    exact ⟨rfl, rfl⟩
  · have hcell : ∀ k, (hk : k < ns.length) → w.cell? ⟨g, k, none⟩ = some ns[k].val := by
      intro k hk
      rw [cell_at hcur]
      have : (cur.toList.take (ns.length * 1))[k]? = some ns[k].val := by rw [htake]; simp [hk]
      rw [List.getElem?_take] at this
      split at this
      · simpa using this
      · cases this
    have HL := hide hcell
    clear ho hn hj hb hcell hcur htake
    go_enter Tryz.func370, Tryz.ntmps370
    go_wp2
    go_loopw [8] (fun i wr => ∃ k : Nat, k ≤ ns.length ∧ i = .int .i64 k ∧ wr = w ∧ ∀ m, (hm : m < ns.length) → m < k → (ns[m]).isEl j = false) (fun i _ => ns.length - (intOf i).toNat)
    case atStart => exact ⟨0, Nat.zero_le _, rfl, rfl, fun m _ hm => absurd hm (Nat.not_lt_zero m)⟩
    case round =>
      obtain ⟨k, hk, rfl, rfl, hno⟩ := hrel
      have HN := hide hno
      clear hno
      by_cases hlt : k < ns.length
      · have c2 := HL.out k hlt
        have hcall := HC.out ns[k] (List.getElem_mem hlt)
        obtain ⟨T, p, hv⟩ := val_iface ns[k]
        rw [hv] at c2 hcall
        have HCL := hide hcall
        clear hcall hv
        cases hq : (ns[k]).isEl j with
        | true =>
          rw [hq] at HCL
          have hp := hide (posN_at hlt hq HN.out)
          clear hq
          go_wp2_with fail
          refine HCL.out.mono ?_
          rintro e w' ⟨rfl, hw⟩
          subst hw
          go_wp2
          go_ret
          exact ⟨by rw [hp.out]; rfl, rfl⟩
        | false =>
          rw [hq] at HCL
          have HQ := hide hq
          clear hq
          go_wp2_with fail
          refine HCL.out.mono ?_
          rintro e w' ⟨rfl, hw⟩
          subst hw
          go_wp2
          go_roundw
          case rel =>
            refine ⟨k + 1, by omega, by go_num, by first | rfl | trivial, fun m hm hmk => ?_⟩
            by_cases e : m = k
            · subst e; exact HQ.out
            · exact HN.out m hm (by omega)
          case measure => simp [intOf]; omega
      · have hp := hide (posN_no (ns := ns) (p := Nd.isEl j) (fun m hm => HN.out m hm (by omega)))
        go_wp2
        go_ret
        exact ⟨by rw [hp.out]; rfl, rfl⟩
set_option maxHeartbeats 1000000 in
theorem indexOf_ok (base k j : Nat) (name : ByteArray) (av kv : Value) (par : Option Nat) (ns : List Nd) (w : World) (h : El base w k name av par kv ns) (hn : ∀ x ∈ ns, IsNd w x) (hj : IsNd w (.el j)) :
    Calls Tryz.prog 348 #[.pointer (some ⟨k, 0, none⟩), .pointer (some ⟨j, 0, none⟩)] w fun e w' => e = .returned (.int .i64 (posN ns (Nd.isEl j))) ∧ Kept [] w w' := by
  have k1 : Kept [] w (w.alloc (.cells #[.pointer (some ⟨j, 0, none⟩)] 72 (0, 0))) := (Kept.refl _ _).alloc _
  have g1 := heap_alloc_at w (.cells #[.pointer (some ⟨j, 0, none⟩)] 72 (0, 0))
  have nd : ∀ x, IsNd w x → IsNd (w.alloc (.cells #[.pointer (some ⟨j, 0, none⟩)] 72 (0, 0))) x := fun x ⟨c, hc⟩ => ⟨c, k1.at hc (by simp)⟩
  have H := hide (idxF_ok kv ns base w.heap.size j _ (k1.ownsRow h.row (fun _ _ => by simp)) (fun x hx => nd x (hn x hx)) (nd _ hj) (by rw [cell_at g1]; rfl) h.le)
  have c3 : w.cell? ⟨k, 3, none⟩ = some kv := by rw [cell_at h.blk]; rfl
  have hlt := lt_of_block h.blk
  obtain ⟨ao, cap, rfl⟩ := owns_shape h.row
  have HK := hide k1
  clear h hn hj k1 g1 nd
  generalize posN ns (Nd.isEl j) = q at H ⊢
  go_enter Tryz.func348, Tryz.ntmps348
  go_wp2_with fail
  refine H.out.mono ?_
  rintro e w' ⟨rfl, rfl⟩
  go_wp2
  go_ret
  exact ⟨rfl, HK.out⟩
end Go.Proofs.YtlhhgenpcjjajaaGreatDoor
namespace Go.Proofs.YtlhhgenpcjjajaaGreatDoor
open Go.RowKit
theorem kid_cell {base k : Nat} {w : World} {name : ByteArray} {av kv : Value} {par : Option Nat} {ns : List Nd} (h : El base w k name av par kv ns) {m : Nat} (hm : m < ns.length) : ∃ g cap, kv = .slice (some ⟨g, 0, none⟩) ns.length cap ∧ w.cell? ⟨g, m, none⟩ = some ns[m].val := by
  rcases h.row.2 with ⟨_, e0⟩ | ⟨g, cap, cur, rfl, _, hcur, hnc, _, _, htake⟩
  · omega
  · refine ⟨g, cap, rfl, ?_⟩
    rw [cell_at hcur]
    have : (cur.toList.take (ns.length * 1))[m]? = some ns[m].val := by rw [htake]; simp [hm]
    rw [List.getElem?_take] at this
    split at this
    · simpa using this
    · cases this
set_option maxHeartbeats 2000000 in
set_option maxRecDepth 100000 in
theorem putChars_join (base k m t2 : Nat) (name old s : ByteArray) (av kv : Value) (par : Option Nat) (ns : List Nd) (w : World) (h : El base w k name av par kv ns) (hm : m < ns.length) (hx : ns[m] = .tx t2) (ht : w.heap[t2]? = some (.cells #[.string old] 284 (0, 0))) (hsz : old.size + s.size ≤ 1048576) :
    Calls Tryz.prog 182 #[place k (m + 1), .string s] w fun e w' => e = .returned (.tuple #[]) ∧ w'.heap[t2]? = some (.cells #[.string (old ++ s)] 284 (0, 0)) ∧ Kept [t2] w w' := by
  obtain ⟨g, cap, rfl, c4⟩ := kid_cell h hm
  rw [hx] at c4
  have hkl := lt_of_block h.blk
  have htl := lt_of_block ht
  have hle := h.le
  obtain ⟨w1, hw1⟩ : ∃ w1, w1 = w.alloc (.cells #[.pointer (some ⟨k, 0, none⟩), .int .i64 ((m + 1 : Nat) : Int)] 235 (0, 0)) := ⟨_, rfl⟩
  have k1 : Kept [] w w1 := by rw [hw1]; exact (Kept.refl _ _).alloc _
  have g1 : w1.heap[w.heap.size]? = some (.cells #[.pointer (some ⟨k, 0, none⟩), .int .i64 ((m + 1 : Nat) : Int)] 235 (0, 0)) := by rw [hw1]; exact heap_alloc_at w _
  have h1 := h.kept k1 (by simp) (by simp)
  have t1 := k1.at ht (by simp)
  have cB0 : w1.cell? ⟨w.heap.size, 0, none⟩ = some (.pointer (some ⟨k, 0, none⟩)) := by rw [cell_at g1]; rfl
  have cB1 : w1.cell? ⟨w.heap.size, 1, none⟩ = some (.int .i64 ((m : Int) + 1)) := by rw [cell_at g1]; rfl
  have cK3 : w1.cell? ⟨k, 3, none⟩ = some (.slice (some ⟨g, 0, none⟩) ns.length cap) := by rw [cell_at h1.blk]; rfl
  have cG : w1.cell? ⟨g, m, none⟩ = some (Nd.tx t2).val := by
    obtain ⟨g', cap', e, c⟩ := kid_cell h1 hm
    injection e with e1
    injection e1 with e2
    injection e2 with e3
    rw [e3, c, hx]
  unfold Nd.val at cG
  have cT : w1.cell? ⟨t2, 0, none⟩ = some (.string old) := by rw [cell_at t1]; rfl
  have fT := free_at t1 0
  have hta := tap_yes (X := 281) Tryz.underlying281
  have HW1 := hide hw1
  have HT1 := hide t1
  have HK1 := hide k1
  have hm1 : (m : Int) < ns.length := by omega
  clear h h1 k1 g1 t1 hw1 ht c4 hx
  go_enter Tryz.func182, Tryz.ntmps182
  go_wp2_with fail
  rw [show ((m + 1 : Nat) : Int) = (m : Int) + 1 by omega] at HW1
  rw [← HW1.out]
  go_quiet (fail)
  have cT2 : (w1.drewN nq).cell? ⟨t2, 0, none⟩ = some (.string old) := cT
  have fT2 : (w1.drewN nq).frozen? ⟨t2, 0, none⟩ = false := fT
  have hadd := run_string_add_sum (P := Tryz.prog) (w1.drewN nq) old s (by omega)
  have HB := hide (block_setCell (w := w1.drewN nq) HT1.out 0 (.string (old ++ s)))
  have HK := hide (((HK1.out.mono (S' := [t2]) (by simp)).drewN nq).setCell (p := ⟨t2, 0, none⟩) (.inl (by simp)) (.string (old ++ s)))
  clear cB0 cB1 cK3 cG cT fT hta
  go_wp2
  refine bodyPost_ret (results_none rfl _ _ _) rfl ?_
  exact ⟨rfl, HB.out, HK.out⟩
def NewText (base k : Nat) (name : ByteArray) (av kv : Value) (par : Option Nat) (ns : List Nd) (n : Nat) (s : ByteArray) (w : World) (e : Ending) (w' : World) : Prop :=
  e = .returned (.tuple #[]) ∧ ∃ t2, w.heap.size ≤ t2 ∧ w'.heap[t2]? = some (.cells #[.string s] 284 (0, 0)) ∧ Put1 base k name av kv par (ns.take n ++ [.tx t2] ++ ns.drop n) w w'
theorem Put1.before {base k : Nat} {name : ByteArray} {av kv : Value} {par : Option Nat} {ns : List Nd} {w w1 w' : World} (h : Put1 base k name av kv par ns w1 w') (hk : Kept [] w w1) : Put1 base k name av kv par ns w w' := by
  obtain ⟨⟨kv', E, f⟩, K⟩ := h
  refine ⟨⟨kv', E, ?_⟩, (hk.mono (by simp)).trans K⟩
  rcases f with e | e
  · exact .inl e
  · exact .inr fun g hg => Nat.le_trans hk.size (e g hg)
theorem newText_put (base k n : Nat) (name s : ByteArray) (av kv : Value) (par : Option Nat) (ns : List Nd) (w w1 : World) (h : El base w1 k name av par kv ns) (hn : n ≤ ns.length) (hl : ns.length < 1048576) (hb : base ≤ w.heap.size) (hk : Kept [] w w1) :
    Calls Tryz.prog 175 #[place k n, (Nd.tx w1.heap.size).val] (w1.alloc (.cells #[.string s] 284 (0, 0))) (NewText base k name av kv par ns n s w) := by
  have k2 : Kept [] w1 (w1.alloc (.cells #[.string s] 284 (0, 0))) := (Kept.refl _ _).alloc _
  have g2 := heap_alloc_at w1 (.cells #[.string s] 284 (0, 0))
  refine (put_ok base k n name av kv par ns (.tx w1.heap.size) _ (h.kept k2 (by simp) (by simp)) hn hl (by have := hk.size; simp; omega) (fun j e => by cases e)).mono ?_
  rintro e w' ⟨rfl, hp⟩
  have hp2 := (hp.before (hk.trans k2))
  refine ⟨rfl, w1.heap.size, hk.size, ?_, hp2⟩
  refine hp.kept.at g2 ?_
  intro hm
  rcases List.mem_cons.1 hm with e | hm
  · have := lt_of_block h.blk; omega
  · exact h.own_ne (b := w1.heap.size) (c := #[.string s]) (t := 284) (by have := (h.row.lt _ (by simpa using hm)).2; omega) (by decide) (by simpa using hm)
set_option maxHeartbeats 2000000 in
set_option maxRecDepth 100000 in
theorem putChars_new (base k n : Nat) (name s : ByteArray) (av kv : Value) (par : Option Nat) (ns : List Nd) (w : World) (h : El base w k name av par kv ns) (hn : n ≤ ns.length) (Q : World → Prop) (hPut : ∀ w1, Kept [] w w1 → Calls Tryz.prog 175 #[place k n, (Nd.tx w1.heap.size).val] (w1.alloc (.cells #[.string s] 284 (0, 0))) fun e w' => e = .returned (.tuple #[]) ∧ Q w') (hx : ∀ m, (hm : m < ns.length) → n = m + 1 → ∀ t, ns[m] ≠ .tx t) :
    Calls Tryz.prog 182 #[place k n, .string s] w fun e w' => e = .returned (.tuple #[]) ∧ Q w' := by
  have hkl := lt_of_block h.blk
  have hle := h.le
  obtain ⟨w1, hw1⟩ : ∃ w1, w1 = w.alloc (.cells #[.pointer (some ⟨k, 0, none⟩), .int .i64 (n : Int)] 235 (0, 0)) := ⟨_, rfl⟩
  have k1 : Kept [] w w1 := by rw [hw1]; exact (Kept.refl _ _).alloc _
  have g1 : w1.heap[w.heap.size]? = some (.cells #[.pointer (some ⟨k, 0, none⟩), .int .i64 (n : Int)] 235 (0, 0)) := by rw [hw1]; exact heap_alloc_at w _
  have h1 := h.kept k1 (by simp) (by simp)
  have cB0 : w1.cell? ⟨w.heap.size, 0, none⟩ = some (.pointer (some ⟨k, 0, none⟩)) := by rw [cell_at g1]; rfl
  have cB1 : w1.cell? ⟨w.heap.size, 1, none⟩ = some (.int .i64 (n : Int)) := by rw [cell_at g1]; rfl
  have HW1 := hide hw1
  have z1 : w1.heap.size = w.heap.size + 1 := by rw [hw1]; simp
  by_cases h0 : n = 0
  · subst h0
    have hP := hPut w1 k1
    rw [z1, hw1] at hP
    have HP := hide (show Calls Tryz.prog 175 #[.agg #[.pointer (some ⟨k, 0, none⟩), .int .i64 0], .iface 281 (.pointer (some ⟨w.heap.size + 1, 0, none⟩))] ((w.alloc (.cells #[.pointer (some ⟨k, 0, none⟩), .int .i64 0] 235 (0, 0))).alloc (.cells #[.string s] 284 (0, 0))) (fun e w' => e = .returned (.tuple #[]) ∧ Q w') from hP)
    clear h h1 k1 g1 hw1 hx hP z1 cB0 cB1 hPut
    go_enter Tryz.func182, Tryz.ntmps182
    go_wp2_with fail
    refine HP.out.mono ?_
    rintro e w' ⟨rfl, hr⟩
    have HR := hide hr
    clear hr
    go_wp2
    go_end0
    exact ⟨rfl, HR.out⟩
  · obtain ⟨m, rfl⟩ : ∃ m, n = m + 1 := ⟨n - 1, by omega⟩
    have hm : m < ns.length := by omega
    have hnx := hx m hm rfl
    obtain ⟨g, cap, hkv, c4⟩ := kid_cell h1 hm
    subst hkv
    have cK3 : w1.cell? ⟨k, 3, none⟩ = some (.slice (some ⟨g, 0, none⟩) ns.length cap) := by rw [cell_at h1.blk]; rfl
    have hta : ∀ (xT : TypeId) (w : World), (Instr.typeAssert ns[m].val xT 281 true).run Tryz.prog w = .ok (.tuple #[.pointer none, .bool false]) w := by
      intro xT w
      cases hq : ns[m] with
      | tx t => exact absurd hq (hnx t)
      | el t => exact tap_no (X := 281) Tryz.underlying281 (by kernel_rfl) (by decide) _ _ _
      | cm t => exact tap_no (X := 281) Tryz.underlying281 (by kernel_rfl) (by decide) _ _ _
      | dt t => exact tap_no (X := 281) Tryz.underlying281 (by kernel_rfl) (by decide) _ _ _
    have hP : ∀ q, Calls Tryz.prog 175 #[.agg #[.pointer (some ⟨k, 0, none⟩), .int .i64 ((m : Int) + 1)], .iface 281 (.pointer (some ⟨w1.heap.size, 0, none⟩))] ((w1.drewN q).alloc (.cells #[.string s] 284 (0, 0))) (fun e w' => e = .returned (.tuple #[]) ∧ Q w') :=
      fun q => hPut (w1.drewN q) (k1.drewN q)
    have HP := hide hP
    obtain ⟨xt, xp, hxv⟩ := val_iface ns[m]
    rw [hxv] at c4 hta
    have hm1 : (m : Int) < ns.length := by omega
    have cB1' : w1.cell? ⟨w.heap.size, 1, none⟩ = some (.int .i64 ((m : Int) + 1)) := cB1
    have hlt1 : w.heap.size < w1.heap.size := by omega
    rw [show ((m + 1 : Nat) : Int) = (m : Int) + 1 by omega] at HW1
    have HZ1 := hide z1
    clear h h1 k1 g1 hw1 hx hP z1 cB1 hxv hnx hPut
    go_enter Tryz.func182, Tryz.ntmps182
    go_wp2_with fail
    rw [← HW1.out]
    go_quiet (fail)
    go_wp2_with fail
    refine (HP.out nq).mono ?_
    rintro e w' ⟨rfl, hr⟩
    have HR := hide hr
    clear hr
    go_wp2
    go_end0
    exact ⟨rfl, HR.out⟩
end Go.Proofs.YtlhhgenpcjjajaaGreatDoor
namespace Go.Proofs.YtlhhgenpcjjajaaGreatDoor
open Go.RowKit
theorem IsNd.kept {w w' : World} {x : Nd} (h : IsNd w x) (hk : Kept [] w w') : IsNd w' x := by
  obtain ⟨c, hc⟩ := h
  exact ⟨c, hk.at hc (by simp)⟩
theorem El.isNd {base k : Nat} {w : World} {name : ByteArray} {av kv : Value} {par : Option Nat} {ns : List Nd} (h : El base w k name av par kv ns) : IsNd w (.el k) := ⟨_, h.blk⟩
theorem alloc_named0 (w : World) (o : Obj) : ∃ W, W = w.alloc o ∧ Kept [] w W ∧ W.heap[w.heap.size]? = some o ∧ W.heap.size = w.heap.size + 1 := ⟨_, rfl, (Kept.refl _ _).alloc _, heap_alloc_at w _, by simp⟩
set_option maxHeartbeats 1000000 in
theorem front_no (base j : Nat) (name : ByteArray) (av kv : Value) (ns : List Nd) (w : World) (h : El base w j name av none kv ns) :
    Calls Tryz.prog 321 #[.pointer (some ⟨j, 0, none⟩)] w fun e w' => e = .returned (.tuple #[.agg #[.pointer none, .int .i64 0], .bool false]) ∧ Kept [] w w' := by
  have c2 : w.cell? ⟨j, 2, none⟩ = some (.pointer none) := (cell_at h.blk 2).trans rfl
  have hlt := lt_of_block h.blk
  have HK := hide ((Kept.refl [] w).alloc (.cells #[.pointer none, .int .i64 0] 235 (0, 0)))
  clear h
  go_enter Tryz.func321, Tryz.ntmps321
  go_wp2
  refine bodyPost_ret (v := .tuple #[.agg #[.pointer none, .int .i64 0], .bool false]) ?_ rfl ⟨rfl, HK.out⟩
  simp [results, Tryz.results321, asAddr, Result.andThen, go_sem]
set_option maxHeartbeats 4000000 in
set_option maxRecDepth 100000 in
theorem front_yes (base j p : Nat) (name nm2 : ByteArray) (av kv av2 kv2 : Value) (par2 : Option Nat) (ns ns2 : List Nd) (w : World) (h : El base w j name av (some p) kv ns) (hp : El base w p nm2 av2 par2 kv2 ns2) (hn : ∀ x ∈ ns2, IsNd w x) :
    Calls Tryz.prog 321 #[.pointer (some ⟨j, 0, none⟩)] w fun e w' => e = .returned (.tuple #[.agg #[.pointer (some ⟨p, 0, none⟩), .int .i64 (posN ns2 (Nd.isEl j))], .bool true]) ∧ Kept [] w w' := by
  obtain ⟨w1, hw1, k1, g1, z1⟩ := alloc_named0 w (.cells #[.pointer none, .int .i64 0] 235 (0, 0))
  have c2 : w1.cell? ⟨j, 2, none⟩ = some (.pointer (some ⟨p, 0, none⟩)) := (cell_at (k1.at h.blk (by simp)) 2).trans rfl
  have hlt := lt_of_block h.blk
  have hne : j ≠ w.heap.size := by omega
  have CI := hide (fun (W : World) (hk : Kept [] w W) => indexOf_ok base p j nm2 av2 kv2 par2 ns2 W (hp.kept hk (by simp) (fun _ _ => by simp)) (fun x hx => (hn x hx).kept hk) (h.isNd.kept hk))
  have c2' : w.cell? ⟨j, 2, none⟩ = some (.pointer (some ⟨p, 0, none⟩)) := (cell_at h.blk 2).trans rfl
  have HK1 := hide k1
  have HG1 := hide g1
  have HW1 := hide hw1
  have HB := hide h.blk
  clear h hp hn k1 g1 z1 hw1
  generalize posN ns2 (Nd.isEl j) = q at CI ⊢
  go_enter Tryz.func321, Tryz.ntmps321
  go_wp2_with fail
  rw [← HW1.out]
  go_region_held3 (fun w' => w'.cell? ⟨j, 2, none⟩ = some (.pointer (some ⟨p, 0, none⟩))) ((first | assumption | go_keep | exact (cell_setCell_ne hne).trans (by assumption) | exact (cell_setCell_ne hne).trans ((cell_setCell_ne hne).trans (by assumption)))) ((go_at_call 348; refine (CI.out _ HK1.out.drew).mono ?_; rintro e w2 ⟨rfl, hk2⟩; have K2 : Kept [] w w2 := HK1.out.drew.trans hk2; have d2 : w2.cell? ⟨j, 2, none⟩ = some (.pointer (some ⟨p, 0, none⟩)) := (cell_at (K2.at HB.out (by simp)) 2).trans rfl; have g2 : w2.heap[w.heap.size]? = some (.cells #[.pointer none, .int .i64 0] 235 (0, 0)) := ((Kept.refl [] w1).drew.trans hk2).at HG1.out (by simp); have e0 : w2.cell? ⟨w.heap.size, 0, none⟩ = some (.pointer none) := (cell_at g2 0).trans rfl; have e1 : w2.cell? ⟨w.heap.size, 1, none⟩ = some (.int .i64 0) := (cell_at g2 1).trans rfl; have y0 := free_at g2 0; have y1 := free_at g2 1; have HG2 := hide g2; have HK2 := hide K2; clear g2 K2 hk2))
  all_goals (try (go_wp2_with fail))
  have hb := block_setCell (block_setCell HG2.out 0 (.pointer (some ⟨p, 0, none⟩))) 1 (.int .i64 q)
  have hc := cell_at hb
  refine bodyPost_ret (v := .tuple #[.agg #[.pointer (some ⟨p, 0, none⟩), .int .i64 q], .bool true]) ?_ rfl ⟨rfl, (HK2.out.setCell (p := ⟨w.heap.size, 0, none⟩) (.inr (Nat.le_refl _)) _).setCell (p := ⟨w.heap.size, 1, none⟩) (.inr (Nat.le_refl _)) _⟩
  simp [results, Tryz.results321, asAddr, Result.andThen, go_sem, hc]
set_option maxHeartbeats 4000000 in
set_option maxRecDepth 100000 in
theorem takeOut_no (base j : Nat) (name : ByteArray) (av kv : Value) (ns : List Nd) (w : World) (h : El base w j name av none kv ns) :
    Calls Tryz.prog 374 #[.pointer (some ⟨j, 0, none⟩)] w fun e w' => e = .returned (.tuple #[]) ∧ w' = w := by
  have c2 : w.cell? ⟨j, 2, none⟩ = some (.pointer none) := (cell_at h.blk 2).trans rfl
  clear h
  go_enter Tryz.func374, Tryz.ntmps374
  go_wp2
  go_end0
  exact ⟨rfl, rfl⟩
end Go.Proofs.YtlhhgenpcjjajaaGreatDoor
