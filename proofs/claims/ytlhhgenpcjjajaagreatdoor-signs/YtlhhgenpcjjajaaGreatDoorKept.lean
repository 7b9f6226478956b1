import Derived.WalkKit
import Derived.WalkSpells
import Derived.WalkLawsBesides
import Derived.Deep.Draws
import Derived.ArgAppend
import Derived.Laws.OwnMore
import Derived.Test.YtlhhgenpcjjajaaGreatDoorProg
import Derived.LaidEqlPtr
import Derived.Deep.RegionLaw
import Derived.Lib.SliceRun
import Derived.Laws.IdiomCopy
import Derived.Shelf.RegionOpenPlain
import Derived.Lib.Overlaps
import Derived.Lib.AppendZerosOnto
import Derived.Laws.NewBlocks
import Derived.Laws.Externs
import Derived.Shelf.Spec.SlicesInsert
set_option linter.unusedSimpArgs false
set_option linter.unusedVariables false
namespace Go.Proofs.YtlhhgenpcjjajaaGreatDoor
open Go.RowKit
theorem hide {p : Prop} (h : p) : Hid p := h
structure Kept (S : List Nat) (w w' : World) : Prop where
  os : w'.os = w.os
  tape : w'.tape = w.tape
  output : w'.output = w.output
  size : w.heap.size ≤ w'.heap.size
  block : ∀ k, k < w.heap.size → k ∉ S → w'.heap[k]? = w.heap[k]?
theorem Kept.refl (S : List Nat) (w : World) : Kept S w w := ⟨rfl, rfl, rfl, Nat.le_refl _, fun _ _ _ => rfl⟩
theorem Kept.trans {S : List Nat} {a b c : World} (h : Kept S a b) (k : Kept S b c) : Kept S a c :=
  ⟨k.os.trans h.os, k.tape.trans h.tape, k.output.trans h.output, Nat.le_trans h.size k.size, fun i hi hs => (k.block i (Nat.lt_of_lt_of_le hi h.size) hs).trans (h.block i hi hs)⟩
theorem Kept.mono {S S' : List Nat} {w w' : World} (h : Kept S w w') (hs : ∀ k, k ∈ S → k < w.heap.size → k ∈ S') : Kept S' w w' :=
  ⟨h.os, h.tape, h.output, h.size, fun k hk hn => h.block k hk (fun hm => hn (hs k hm hk))⟩
theorem Kept.next {S S' : List Nat} {a b c : World} (h : Kept S a b) (k : Kept S' b c) (hs : ∀ x ∈ S', x ∈ S ∨ a.heap.size ≤ x) : Kept S a c :=
  ⟨k.os.trans h.os, k.tape.trans h.tape, k.output.trans h.output, Nat.le_trans h.size k.size, fun i hi hn => (k.block i (Nat.lt_of_lt_of_le hi h.size) (fun hm => by rcases hs i hm with h1 | h1; exact hn h1; omega)).trans (h.block i hi hn)⟩
theorem Kept.drew {S : List Nat} {a w : World} (h : Kept S a w) : Kept S a w.drew := ⟨h.os, h.tape, h.output, h.size, h.block⟩
theorem Kept.drewN {S : List Nat} {a w : World} (h : Kept S a w) (q : Nat) : Kept S a (w.drewN q) := ⟨h.os, h.tape, h.output, h.size, h.block⟩
theorem Kept.alloc {S : List Nat} {a w : World} (h : Kept S a w) (o : Obj) : Kept S a (w.alloc o) :=
  ⟨h.os, h.tape, h.output, Nat.le_trans h.size (by simp), fun k hk hs => (Below.heap_alloc w o k (Nat.lt_of_lt_of_le hk h.size)).trans (h.block k hk hs)⟩
theorem Kept.setCell {S : List Nat} {a w : World} (h : Kept S a w) {p : Addr} (hp : p.block ∈ S ∨ a.heap.size ≤ p.block) (u : Value) : Kept S a (w.setCell p u) :=
  ⟨h.os, h.tape, h.output, by simpa using h.size, fun k hk hs => by
    have hne : k ≠ p.block := by
      rintro rfl
      rcases hp with hp | hp
      · exact hs hp
      · omega
    exact (Below.heap_setCell w p u k hne).trans (h.block k hk hs)⟩
theorem Kept.grown {S : List Nat} {a w w' : World} {row : Option Nat} (h : Kept S a w) (hg : w.grownBy w' row) (hr : ∀ k, row = some k → k ∈ S ∨ a.heap.size ≤ k) : Kept S a w' :=
  ⟨hg.os.trans h.os, hg.tape.trans h.tape, hg.output.trans h.output, Nat.le_trans h.size hg.size, fun k hk hs => by
    have hne : some k ≠ row := by
      rintro rfl
      rcases hr k rfl with hp | hp
      · exact hs hp
      · omega
    exact (hg.block k (Nat.lt_of_lt_of_le hk h.size) hne).trans (h.block k hk hs)⟩
theorem Kept.below {S : List Nat} {w w' : World} (h : Kept S w w') {B : Nat} (hB : B ≤ w.heap.size) (hs : ∀ k ∈ S, B ≤ k) : Below B w w' :=
  ⟨h.os, h.tape, h.output, h.size, fun k hk => h.block k (Nat.lt_of_lt_of_le hk hB) (fun hm => by have := hs k hm; omega)⟩
theorem Kept.cell {S : List Nat} {w w' : World} (h : Kept S w w') {p : Addr} (hp : p.block < w.heap.size) (hs : p.block ∉ S) : w'.cell? p = w.cell? p := World.cell?_of_block (w := w) (h.block p.block hp hs)
theorem Kept.at {S : List Nat} {w w' : World} (h : Kept S w w') {k : Nat} {o : Obj} (ho : w.heap[k]? = some o) (hs : k ∉ S) : w'.heap[k]? = some o :=
  (h.block k (lt_of_block ho) hs).trans ho
theorem block_ne {w : World} {a b : Nat} {ca cb : Array Value} {ta tb : TypeId} {ma mb : Nat × Nat} (ha : w.heap[a]? = some (.cells ca ta ma)) (hb : w.heap[b]? = some (.cells cb tb mb)) (h : ta ≠ tb) : a ≠ b := by
  rintro rfl
  rw [ha] at hb
  simp at hb
  exact h hb.2.1
theorem heap_alloc_at (w : World) (o : Obj) : (w.alloc o).heap[w.heap.size]? = some o := by
  show (w.heap.push o)[w.heap.size]? = some o
  simp
theorem Kept.ownsRow {S : List Nat} {w w' : World} (h : Kept S w w') {base : Nat} {e : TypeId} {size : Nat} {v : Value} {n : Nat} {xs : List Value} (ho : w.ownsRow base e size v n xs) (hs : ∀ k, v.ownBlock = some k → k ∉ S) : w'.ownsRow base e size v n xs := by
  obtain ⟨h1, h2⟩ := ho
  refine ⟨h1, ?_⟩
  rcases h2 with h2 | ⟨g, cap, cur, rfl, hb, hc, hr⟩
  · exact .inl h2
  · exact .inr ⟨g, cap, cur, rfl, hb, (h.at hc (hs g rfl)), hr⟩
end Go.Proofs.YtlhhgenpcjjajaaGreatDoor
namespace Go.Proofs.YtlhhgenpcjjajaaGreatDoor
open Go.RowKit
section
variable {P : Program} (w : World)
theorem ownsRow_base {w : World} {base base' : Nat} {e : TypeId} {size : Nat} {v : Value} {n : Nat} {xs : List Value} (h : w.ownsRow base e size v n xs) (hb : base' ≤ base) : w.ownsRow base' e size v n xs := by
  obtain ⟨h1, h2⟩ := h
  refine ⟨h1, ?_⟩
  rcases h2 with h2 | ⟨g, cap, cur, rfl, hg, hr⟩
  · exact .inl h2
  · exact .inr ⟨g, cap, cur, rfl, Nat.le_trans hb hg, hr⟩
theorem grownBy_weak {w w' : World} {row : Option Nat} (h : w.grownBy w' none) : w.grownBy w' row := ⟨h.os, h.tape, h.output, h.size, fun k hk _ => h.block k hk (by simp)⟩
theorem run_append_ownF (base : Nat) (t ty e : TypeId) (i : TypeInfo) (z : Value) (size bytes : Nat) (ht : P.underlying t = some (.slice e)) (hi : P.info? e = some i) (hz : i.zero = some z)
    (hsize : i.size = size) (hby : i.bytes = bytes) (hzs : z.cells.size = size) (hsz : 0 < size)
    (v : Value) (n : Nat) (xs : List Value) (hown : w.ownsRow base e size v n xs)
    (a : Addr) (m c : Nat) (news : List Value) (hl : news.length = m * size) (hnews : ∀ j u, news[j]? = some u → w.cell? (a.add j) = some u) (h1 : ∀ u ∈ news, u.oneCell' = true)
    (h63 : n + m ≤ maxLen) (hbytes : (n + m) * bytes ≤ 140737488355328) (hbase : base ≤ w.heap.size) :
    ∃ v' w', (Builtin.append_ #[t, t] ty #[v, .slice (some a) m c]).run P w = .ok v' w' ∧ w'.ownsRow base e size v' (n + m) (xs ++ news) ∧ w.grownBy w' v.ownBlock ∧
      (v'.ownBlock = v.ownBlock ∨ ∀ k, v'.ownBlock = some k → w.heap.size ≤ k) := by
  rcases hown.2 with ⟨rfl, rfl⟩ | ⟨g, cap, cur, rfl, hbg, hg, hnc, hcm, hcs, htake⟩
  · have hx : xs = [] := List.eq_nil_of_length_eq_zero (by simpa using hown.1)
    subst hx
    obtain ⟨v', w', hr, ho, hgr, _⟩ := run_append_own (P := P) w w.heap.size t ty e i z size bytes ht hi hz hsize hby hzs hsz (.slice none 0 0) 0 [] (World.ownsRow_nil _ _ _ _) a m c news hl hnews h1 h63 hbytes (Nat.le_refl _)
    exact ⟨v', w', hr, ownsRow_base ho hbase, hgr, .inr fun k hk => (ho.lt k hk).1⟩
  · by_cases hroom : n + m ≤ cap
    · obtain ⟨w', hr, ho, hgr⟩ := run_append_fits (P := P) w base t ty e i size ht hi hsize g n cap xs hown a m c news hl hnews h1 hroom
      exact ⟨_, w', hr, ho, hgr, .inl rfl⟩
    · obtain ⟨v', w', hr, ho, hgr⟩ := run_append_arg_grows (P := P) w t ty e i z size bytes ht hi hz hsize hby hzs hsz ⟨g, 0, none⟩ n cap xs hown.1 (hown.cells (g := g) rfl) a m c news hl hnews (by omega) h63 hbytes
      exact ⟨v', w', hr, ownsRow_base ho hbase, grownBy_weak hgr, .inr fun k hk => (ho.lt k hk).1⟩
theorem wpList_append_ownF {ops : Array Oper} {rest : List Oper} {o : Oper} {a : Act} {Q : Exit → Act → World → Prop} (hgd : o.guard = none) (s x : Operand) (t : TypeId)
    (ho : o.op = .call { callee := .builtin .append, args := #[s, x], argTypes := #[t, t] })
    (base : Nat) (e : TypeId) (i : TypeInfo) (z : Value) (size bytes : Nat) (ht : P.underlying t = some (.slice e)) (hi : P.info? e = some i) (hz : i.zero = some z)
    (hsize : i.size = size) (hby : i.bytes = bytes) (hzs : z.cells.size = size) (hsz : 0 < size)
    (v : Value) (n : Nat) (xs : List Value) (hs : a.eval s = v) (hown : w.ownsRow base e size v n xs)
    (ad : Addr) (m c : Nat) (news : List Value) (hx : a.eval x = .slice (some ad) m c) (hl : news.length = m * size) (hnews : ∀ j u, news[j]? = some u → w.cell? (ad.add j) = some u) (h1 : ∀ u ∈ news, u.oneCell' = true)
    (h63 : n + m ≤ maxLen) (hbytes : (n + m) * bytes ≤ 140737488355328) (hbase : base ≤ w.heap.size)
    (h : ∀ v' w', w'.ownsRow base e size v' (n + m) (xs ++ news) → w.grownBy w' v.ownBlock → (v'.ownBlock = v.ownBlock ∨ ∀ k, v'.ownBlock = some k → w.heap.size ≤ k) → wpList P ops Q rest (a.put o.dst v') w') : wpList P ops Q (o :: rest) a w := by
  refine wpList_plain hgd fun _ hK => ?_
  obtain ⟨v', w', hr, h2, h3, h4⟩ := run_append_ownF (P := P) w base t o.type e i z size bytes ht hi hz hsize hby hzs hsz v n xs hown ad m c news hl hnews h1 h63 hbytes hbase
  unfold Oper.wp execOp
  simp only [ho, resolve, invoke, builtin, Sem.run_bind, Sem.run_pure, Result.andThen_ok, List.map_toArray, List.map_cons, List.map_nil, hs, hx, hr]
  exact hK _ _ (h v' w' h2 h3 h4)
end
def bcells (s : ByteArray) : List Value := s.data.toList.map fun b => Value.int .u8 b.toNat
theorem bcells_length (s : ByteArray) : (bcells s).length = s.size := by
  unfold bcells
  rw [List.length_map]
  rfl
theorem bcells_append (s t : ByteArray) : bcells (s ++ t) = bcells s ++ bcells t := by
  unfold bcells
  rw [ByteArray.data_append, Array.toList_append, List.map_append]
theorem bcells_one (s : ByteArray) : ∀ u ∈ bcells s, u.oneCell' = true := by
  intro u hu
  simp [bcells] at hu
  obtain ⟨b, _, rfl⟩ := hu
  rfl
theorem cell_at {w : World} {b : Nat} {c : Array Value} {t : TypeId} (h : w.heap[b]? = some (.cells c t (0, 0))) (j : Nat) : w.cell? ⟨b, j, none⟩ = c[j]? := by simp [World.cell?, h]
theorem free_at {w : World} {b : Nat} {c : Array Value} {t : TypeId} (h : w.heap[b]? = some (.cells c t (0, 0))) (j : Nat) : w.frozen? ⟨b, j, none⟩ = false := by simp [World.frozen?, h]
theorem block_setCell {w : World} {b : Nat} {c : Array Value} {t : TypeId} (h : w.heap[b]? = some (.cells c t (0, 0))) (j : Nat) (u : Value) : (w.setCell ⟨b, j, none⟩ u).heap[b]? = some (.cells (c.setIfInBounds j u) t (0, 0)) := by
  have hl := lt_of_block h
  simp only [World.setCell]
  rw [Array.getElem?_eq_getElem hl] at h
  have h' := Option.some.inj h
  simp [hl, Array.getElem_modify_self, h']
theorem owns_shape {w : World} {base : Nat} {e : TypeId} {size : Nat} {v : Value} {n : Nat} {xs : List Value} (ho : w.ownsRow base e size v n xs) : ∃ ao cap, v = .slice ao n cap := by
  rcases ho.2 with ⟨rfl, h0⟩ | ⟨g, cap, cur, rfl, _⟩
  · exact ⟨_, _, by rw [h0]⟩
  · exact ⟨_, _, rfl⟩
theorem addr_add (g j : Nat) : (⟨g, 0, none⟩ : Addr).add j = ⟨g, j, none⟩ := by unfold Addr.add; split <;> simp_all
end Go.Proofs.YtlhhgenpcjjajaaGreatDoor
namespace Go.Proofs.YtlhhgenpcjjajaaGreatDoor
open Go.RowKit
def ptr (x : Option Nat) : Option Addr := x.map fun k => ⟨k, 0, none⟩
abbrev enc (x : Option Nat) : Value := .pointer (ptr x)
def getAt (xs : List (Option Nat)) (n : Int) : Option Nat := if 0 ≤ n ∧ n < xs.length then xs.getD n.toNat none else none
structure Lst (base b j : Nat) (tB : TypeId) (C : Array Value) (v : Value) (xs : List (Option Nat)) (w : World) : Prop where
  blk : w.heap[b]? = some (.cells C tB (0, 0))
  cell : C[j]? = some v
  row : w.ownsRow base 72 1 v xs.length (xs.map enc)
  ne : tB ≠ 72
  le : xs.length ≤ 4096
theorem Lst.at {base b j : Nat} {tB : TypeId} {C : Array Value} {v : Value} {xs : List (Option Nat)} {w : World} (h : Lst base b j tB C v xs w) : w.cell? ⟨b, j, none⟩ = some v := by rw [cell_at h.blk]; exact h.cell
theorem Lst.free {base b j : Nat} {tB : TypeId} {C : Array Value} {v : Value} {xs : List (Option Nat)} {w : World} (h : Lst base b j tB C v xs w) : w.frozen? ⟨b, j, none⟩ = false := free_at h.blk j
set_option maxHeartbeats 400000 in
theorem l_len (base b j : Nat) (tB : TypeId) (C : Array Value) (v : Value) (xs : List (Option Nat)) (w : World) (h : Lst base b j tB C v xs w) :
    Calls Tryz.prog 269 #[.pointer (some ⟨b, j, none⟩)] w fun e w' => e = .returned (.int .i64 xs.length) ∧ w' = w := by
  have c1 := h.at
  obtain ⟨ao, cap, rfl⟩ := owns_shape h.row
  have H := hide h
  clear h
  go_enter Tryz.func269, Tryz.ntmps269
  go_wp2
  go_ret
  exact ⟨rfl, rfl⟩
set_option maxHeartbeats 1000000 in
theorem l_at (base b j : Nat) (tB : TypeId) (C : Array Value) (v : Value) (xs : List (Option Nat)) (n : Int) (w : World) (h : Lst base b j tB C v xs w) :
    Calls Tryz.prog 248 #[.pointer (some ⟨b, j, none⟩), .int .i64 n] w fun e w' => e = .returned (enc (getAt xs n)) ∧ w' = w := by
  have c1 := h.at
  have hle := h.le
  by_cases h0 : n < 0
  · obtain ⟨ao, cap, rfl⟩ := owns_shape h.row
    have hg : getAt xs n = none := by unfold getAt; rw [if_neg (by omega)]
    rw [hg]
    clear h
    go_enter Tryz.func248, Tryz.ntmps248
    go_wp2
    go_ret
    exact ⟨rfl, rfl⟩
  by_cases h1 : (xs.length : Int) ≤ n
  · obtain ⟨ao, cap, rfl⟩ := owns_shape h.row
    have hg : getAt xs n = none := by unfold getAt; rw [if_neg (by omega)]
    rw [hg]
    clear h
    go_enter Tryz.func248, Tryz.ntmps248
    go_wp2
    go_ret
    exact ⟨rfl, rfl⟩
  obtain ⟨k, rfl⟩ : ∃ k : Nat, n = k := ⟨n.toNat, by omega⟩
  have hk : k < xs.length := by omega
  have hg : getAt xs k = xs[k] := by unfold getAt; rw [if_pos (by omega)]; simp [hk]
  rw [hg]
  rcases h.row.2 with ⟨_, e0⟩ | ⟨g, cap, cur, rfl, _, hcur, hnc, _, _, htake⟩
  · omega
  have c2 : w.cell? ⟨g, k, none⟩ = some (enc xs[k]) := by
    rw [cell_at hcur]
    have : (cur.toList.take (xs.length * 1))[k]? = some (enc xs[k]) := by rw [htake]; simp [hk]
    rw [List.getElem?_take] at this
    split at this
    · simpa using this
    · cases this
  clear h htake hcur
  go_enter Tryz.func248, Tryz.ntmps248
  go_wp2
  go_ret
  exact ⟨rfl, rfl⟩
end Go.Proofs.YtlhhgenpcjjajaaGreatDoor
namespace Go.Proofs.YtlhhgenpcjjajaaGreatDoor
open Go.RowKit
def posOf (xs : List (Option Nat)) (x : Option Nat) : Int := if xs.idxOf x < xs.length then (xs.idxOf x : Int) else -1
def IsEl (w : World) (x : Option Nat) : Prop := ∀ k, x = some k → ∃ c, w.heap[k]? = some (.cells c 140 (0, 0))
theorem el_size : (Tryz.prog.info? 140).map (·.size) = some 4 := by kernel_rfl
theorem el_under : Tryz.prog.underlying 72 = some (.pointer (Tryz.prog.pointee 72)) := by kernel_rfl
theorem eql_el {w : World} {x y : Option Nat} (hx : IsEl w x) (hy : IsEl w y) :
    (binOp .eql 72 (.pointer (ptr x)) (.pointer (ptr y))).run Tryz.prog w = .ok (.bool (decide (x = y))) w := by
  obtain ⟨j, hj, hjs⟩ := Option.map_eq_some_iff.1 el_size
  cases x with
  | none =>
    cases y with
    | none => exact run_eql_pointer_nil (P := Tryz.prog) w 72 none el_under
    | some b =>
      have h : ∀ d : Nat, (Op.equalIn (d + 1) 72 (.pointer none) (.pointer (some ⟨b, 0, none⟩))).run Tryz.prog w = .ok false w := fun d => by
        simp [Op.equalIn, run_underlying Tryz.underlying72]
      show (binOp .eql 72 (.pointer none) (.pointer (some ⟨b, 0, none⟩))).run Tryz.prog w = .ok (.bool false) w
      simp only [binOp]
      simp [Op.equal, Op.maxDepth, h 9999]
  | some a =>
    cases y with
    | none => exact run_eql_pointer_nil (P := Tryz.prog) w 72 (some ⟨a, 0, none⟩) el_under
    | some b =>
      by_cases h : a = b
      · subst h
        rw [decide_eq_true rfl]
        exact run_eql_ptr_same (P := Tryz.prog) w (⟨a, 0, none⟩ : Addr) Tryz.underlying72 hj
      · obtain ⟨ca, ha⟩ := hx a rfl
        obtain ⟨cb, hb⟩ := hy b rfl
        rw [decide_eq_false (by simpa using h)]
        exact run_eql_ptr_other (P := Tryz.prog) w (a := ⟨a, 0, none⟩) (b := ⟨b, 0, none⟩) Tryz.underlying72 hj (by rw [hjs]; decide) (by simp) ha hb
def Ents (v : Value) (xs : List (Option Nat)) (w : World) : Prop := ((xs = [] ∧ ∃ ao cap, v = .slice ao 0 cap) ∨ ∃ g cap, v = .slice (some ⟨g, 0, none⟩) xs.length cap ∧ ∀ k, (hk : k < xs.length) → w.cell? ⟨g, k, none⟩ = some (enc xs[k])) ∧ ∀ x ∈ xs, IsEl w x
theorem ents_of {w : World} {base : Nat} {v : Value} {xs : List (Option Nat)} (ho : w.ownsRow base 72 1 v xs.length (xs.map enc)) (he : ∀ x ∈ xs, IsEl w x) : Ents v xs w := by
  refine ⟨?_, he⟩
  rcases ho.2 with ⟨rfl, e0⟩ | ⟨g, cap, cur, rfl, _, hcur, hnc, _, _, htake⟩
  · exact .inl ⟨List.eq_nil_of_length_eq_zero e0, _, _, rfl⟩
  · refine .inr ⟨g, cap, rfl, fun k hk => ?_⟩
    rw [cell_at hcur]
    have : (cur.toList.take (xs.length * 1))[k]? = some (enc xs[k]) := by rw [htake]; simp [hk]
    rw [List.getElem?_take] at this
    split at this
    · simpa using this
    · cases this
theorem posOf_at {xs : List (Option Nat)} {x : Option Nat} {k : Nat} (hk : k < xs.length) (hx : xs[k] = x) (hno : ∀ j, j < k → xs[j]? ≠ some x) : posOf xs x = k := by
  have h1 : xs.idxOf x = k := by
    have hm : x ∈ xs := hx ▸ List.getElem_mem hk
    have hlt := List.idxOf_lt_length_iff.2 hm
    have hge : ¬ xs.idxOf x < k := fun hlt' => hno _ hlt' (by rw [List.getElem?_eq_getElem hlt]; simp)
    have hle : ¬ k < xs.idxOf x := fun hlt' => by
      have := List.not_of_lt_findIdx (p := (· == x)) (xs := xs) (i := k) (by simpa [List.idxOf] using hlt')
      simp [hx] at this
    omega
  unfold posOf
  rw [h1, if_pos hk]
theorem posOf_no {xs : List (Option Nat)} {x : Option Nat} (hno : ∀ j, j < xs.length → xs[j]? ≠ some x) : posOf xs x = -1 := by
  unfold posOf
  rw [if_neg]
  intro h
  exact hno _ h (by rw [List.getElem?_eq_getElem h]; simp)
set_option maxHeartbeats 1000000 in
set_option maxRecDepth 100000 in
theorem idx_ok (v : Value) (xs : List (Option Nat)) (x : Option Nat) (w : World) (h : Ents v xs w) (hxe : IsEl w x) (hle : xs.length ≤ 4096) :
    Calls Tryz.prog 272 #[v, enc x] w fun e w' => e = .returned (.int .i64 (posOf xs x)) ∧ w' = w := by
  rcases h with ⟨⟨rfl, ao, cap, rfl⟩ | ⟨g, cap, rfl, hc⟩, hel⟩
  · go_enter Tryz.func272, Tryz.ntmps272
    go_wp2
    refine wp_loop_rounds 1 ?_
    rw [rounds_succ]
    go_wp2
    go_ret
    exact ⟨rfl, rfl⟩
  · have HC := hide hc
    have HE := hide hel
    have HX := hide hxe
    clear hc hel hxe
    have heq : ∀ k, (hk : k < xs.length) → (binOp .eql 72 (.pointer (ptr x)) (.pointer (ptr xs[k]))).run Tryz.prog w = .ok (.bool (decide (x = xs[k]))) w := fun k hk => eql_el HX.out (HE.out _ (List.getElem_mem hk))
    have HQ := hide heq
    clear heq
    go_enter Tryz.func272, Tryz.ntmps272
    go_wp2
    go_loopw [8] (fun i wr => ∃ k : Nat, k ≤ xs.length ∧ i = .int .i64 k ∧ wr = w ∧ ∀ j, j < k → xs[j]? ≠ some x) (fun i _ => xs.length - (intOf i).toNat)
    case atStart => exact ⟨0, Nat.zero_le _, rfl, rfl, fun j hj => absurd hj (Nat.not_lt_zero j)⟩
    case round =>
      obtain ⟨k, hk, rfl, rfl, hno⟩ := hrel
      have HN := hide hno
      clear hno
      by_cases hlt : k < xs.length
      · have c2 := HC.out k hlt
        have hq := HQ.out k hlt
        by_cases hx : x = xs[k]
        · have hp := hide (posOf_at hlt hx.symm HN.out)
          rw [decide_eq_true hx] at hq
          clear hx
          go_wp2
          go_ret
          exact ⟨by rw [hp.out]; rfl, rfl⟩
        · rw [decide_eq_false hx] at hq
          have HXK := hide hx
          clear hx
          go_wp2
          go_roundw
          case rel =>
            refine ⟨k + 1, by omega, by go_num, by first | rfl | trivial, fun j hj => ?_⟩
            by_cases e : j = k
            · subst e; rw [List.getElem?_eq_getElem hlt]; exact fun h => HXK.out (Option.some.inj h).symm
            · exact HN.out j (by omega)
          case measure => simp [intOf]; omega
      · have hp := hide (posOf_no (xs := xs) (x := x) (fun j hj => HN.out j (by omega)))
        go_wp2
        go_ret
        exact ⟨by rw [hp.out]; rfl, rfl⟩
end Go.Proofs.YtlhhgenpcjjajaaGreatDoor
namespace Go.Proofs.YtlhhgenpcjjajaaGreatDoor
open Go.RowKit
def putList : Array Value → Nat → List Value → Array Value
  | c, _, [] => c
  | c, o, v :: r => putList (c.setIfInBounds o v) (o + 1) r
theorem putList_size : ∀ (vs : List Value) (c : Array Value) (o : Nat), (putList c o vs).size = c.size
  | [], _, _ => rfl
  | v :: r, c, o => by rw [putList, putList_size r]; simp
theorem putList_toList : ∀ (vs : List Value) (c : Array Value) (o : Nat), o + vs.length ≤ c.size → (putList c o vs).toList = c.toList.take o ++ vs ++ c.toList.drop (o + vs.length)
  | [], c, o, _ => by simp [putList]
  | v :: r, c, o, h => by
    have h' : o + 1 + r.length ≤ (c.setIfInBounds o v).size := by simp at h ⊢; omega
    rw [putList, putList_toList r _ _ h']
    simp only [List.length_cons] at h
    have e1 : (c.setIfInBounds o v).toList = c.toList.set o v := by simp
    rw [e1]
    have hl : o < c.toList.length := by simp; omega
    rw [List.take_succ_eq_append_getElem (by simpa using hl), List.take_set_of_le (Nat.le_refl _), List.drop_set_of_lt (by omega)]
    simp
    omega
theorem block_setCells : ∀ (vs : List Value) (w : World) (g : Nat) (c : Array Value) (t : TypeId) (m : Nat × Nat) (o : Nat), w.heap[g]? = some (.cells c t m) → (w.setCells g o vs).heap[g]? = some (.cells (putList c o vs) t m)
  | [], _, _, _, _, _, _, h => h
  | v :: r, w, g, c, t, m, o, h => by
    rw [World.setCells, putList]
    refine block_setCells r _ g _ t m (o + 1) ?_
    have hl := lt_of_block h
    rw [Array.getElem?_eq_getElem hl] at h
    have h' := Option.some.inj h
    simp only [World.setCell]
    simp [hl, Array.getElem_modify_self, h']
theorem Kept.setCells {S : List Nat} {a : World} {b : Nat} (hb : b ∈ S ∨ a.heap.size ≤ b) : ∀ (vs : List Value) (o : Nat) {w : World}, Kept S a w → Kept S a (w.setCells b o vs)
  | [], _, _, h => h
  | v :: r, o, w, h => by rw [World.setCells]; exact Kept.setCells hb r (o + 1) (h.setCell (p := ⟨b, o, none⟩) hb v)
end Go.Proofs.YtlhhgenpcjjajaaGreatDoor
namespace Go.Proofs.YtlhhgenpcjjajaaGreatDoor
open Go.RowKit
end Go.Proofs.YtlhhgenpcjjajaaGreatDoor
namespace Go.Proofs.YtlhhgenpcjjajaaGreatDoor
open Go.RowKit
theorem info_E : (Tryz.prog.info? 72).map (fun i => (i.zero, i.size, i.bytes)) = some (some (.pointer none), 1, 8) := by kernel_rfl
end Go.Proofs.YtlhhgenpcjjajaaGreatDoor
namespace Go.Proofs.YtlhhgenpcjjajaaGreatDoor
open Go.RowKit
theorem info_N : (Tryz.prog.info? 142).map (fun i => (i.zero, i.size, i.bytes)) = some (some (.nilIface), 1, 16) := by kernel_rfl
def InsN (base : Nat) (v : Value) (n i : Nat) (xs : List Value) (u : Value) (w : World) (e : Ending) (w' : World) : Prop :=
  ∃ v', e = .returned v' ∧ w'.ownsRow base 142 1 v' (n + 1) (xs.take i ++ [u] ++ xs.drop i) ∧ Kept v.ownBlock.toList w w' ∧ (v'.ownBlock = v.ownBlock ∨ ∀ k, v'.ownBlock = some k → w.heap.size ≤ k)
set_option maxHeartbeats 4000000 in
set_option maxRecDepth 100000 in
theorem ins_end_N (base n bv : Nat) (v u : Value) (xs : List Value) (w : World) (ho : w.ownsRow base 142 1 v n xs) (hv : w.heap[bv]? = some (.cells #[u] 142 (0, 0))) (hu : u.oneCell' = true) (hle : n ≤ 1048576) (hb : base ≤ w.heap.size) :
    Calls Tryz.prog 266 #[v, .int .i64 n, .slice (some ⟨bv, 0, none⟩) 1 1] w (InsN base v n n xs u w) := by
  obtain ⟨i0, hi, hz0, hz1, hz2⟩ := info_parts info_N
  obtain ⟨ao, cap, rfl⟩ := owns_shape ho
  have hlen : xs.length = n := by have := ho.1; omega
  have HV := hide hv
  clear hv
  by_cases hcn : cap = n
  · subst hcn
    have HO := hide ho
    clear ho
    go_enter Tryz.func266, Tryz.ntmps266
    go_wp2_with (at_builtin; refine wpList_append_ownF _ rfl _ _ 138 rfl base 142 i0 (.nilIface) 1 16 Tryz.underlying138 hi hz0 hz1 hz2 rfl (by decide) (.slice ao cap cap) cap xs rfl HO.out ⟨bv, 0, none⟩ 1 1 [u] rfl rfl (fun j x hx => by rw [addr_add, cell_at HV.out, ← hx]; simp) (fun x hx => by simp at hx; subst hx; exact hu) (by unfold maxLen; omega) (by omega) hb ?_; intro v' w2 hown' hgrow hfr)
    have HG := hide ((Kept.refl (Value.slice ao cap cap).ownBlock.toList w).grown hgrow (fun k hk => .inl (by rw [hk]; simp)))
    have HN := hide hown'
    have HF := hide hfr
    clear hown' hgrow hfr
    go_wp2
    go_ret
    refine ⟨_, rfl, ?_, HG.out, HF.out⟩
    rw [List.take_of_length_le (by omega), List.drop_of_length_le (by omega), List.append_nil]
    exact HN.out
  · have HO := hide ho
    clear ho
    go_enter Tryz.func266, Tryz.ntmps266
    go_wp2_with (at_builtin; refine wpList_append_ownF _ rfl _ _ 138 rfl base 142 i0 (.nilIface) 1 16 Tryz.underlying138 hi hz0 hz1 hz2 rfl (by decide) (.slice ao n cap) n xs rfl HO.out ⟨bv, 0, none⟩ 1 1 [u] rfl rfl (fun j x hx => by rw [addr_add, cell_at HV.out, ← hx]; simp) (fun x hx => by simp at hx; subst hx; exact hu) (by unfold maxLen; omega) (by omega) hb ?_; intro v' w2 hown' hgrow hfr)
    have HG := hide ((Kept.refl (Value.slice ao n cap).ownBlock.toList w).grown hgrow (fun k hk => .inl (by rw [hk]; simp)))
    have HN := hide hown'
    have HF := hide hfr
    clear hown' hgrow hfr
    go_wp2
    go_ret
    refine ⟨_, rfl, ?_, HG.out, HF.out⟩
    rw [List.take_of_length_le (by omega), List.drop_of_length_le (by omega), List.append_nil]
    exact HN.out
theorem ins_list_N {l : List Value} {n i : Nat} {u : Value} {c : Array Value} (hl : c.toList.take n = l) (hn : n + 1 ≤ c.size) (hi : i < n) :
    (putList (putList c (i + 1) (l.drop i)) i [u]).toList.take (n + 1) = l.take i ++ [u] ++ l.drop i := by
  have hll : l.length = n := by rw [← hl]; simp; omega
  have h1 := putList_toList (l.drop i) c (i + 1) (by simp; omega)
  rw [putList_toList [u] _ i (by rw [putList_size]; simp; omega), h1]
  have e1 : (c.toList.take (i + 1) ++ l.drop i ++ c.toList.drop (i + 1 + (l.drop i).length)).take i = l.take i := by
    rw [List.append_assoc, List.take_append_of_le_length (by simp; omega), List.take_take, Nat.min_eq_left (by omega), ← hl, List.take_take, Nat.min_eq_left (by omega)]
  have e2 : (c.toList.take (i + 1) ++ l.drop i ++ c.toList.drop (i + 1 + (l.drop i).length)).drop (i + [u].length) = l.drop i ++ c.toList.drop (i + 1 + (l.drop i).length) := by
    rw [List.append_assoc, List.drop_append_of_le_length (by simp; omega), List.drop_of_length_le (by simp; omega), List.nil_append]
  rw [e1, e2, ← List.append_assoc, List.take_append_of_le_length (by simp; omega), List.take_of_length_le (by simp; omega)]
set_option maxHeartbeats 4000000 in
set_option maxRecDepth 100000 in
theorem ins_shift_N (base g cap n i bv : Nat) (u : Value) (cur : Array Value) (xs : List Value) (w : World) (hbg : base ≤ g) (hcur : w.heap[g]? = some (.cells cur 142 (0, 0))) (hxs : cur.toList.take n = xs) (hsz : cur.size = cap) (hm : cap ≤ maxLen)
    (hroom : n + 1 ≤ cap) (hi : i < n) (hv : w.heap[bv]? = some (.cells #[u] 142 (0, 0))) (hne : bv ≠ g) (hu : u.oneCell' = true) (h1 : ∀ x ∈ xs, x.oneCell' = true) (hle : n ≤ 1048576) :
    Calls Tryz.prog 266 #[.slice (some ⟨g, 0, none⟩) n cap, .int .i64 i, .slice (some ⟨bv, 0, none⟩) 1 1] w (InsN base (.slice (some ⟨g, 0, none⟩) n cap) n i xs u w) := by
  have hlen : xs.length = n := by rw [← hxs]; simp; omega
  have hz1 : (Tryz.prog.info? 142).map (·.size) = some 1 := by kernel_rfl
  have hov : ∀ lb cb, (callFunc 319 #[.slice (some ⟨bv, 0, none⟩) 1 1, .slice (some ⟨g, i + 1, none⟩) lb cb]).run Tryz.prog w = .ok (.value (.bool false)) w := fun lb cb => by
    rw [run_callFunc_extern Tryz.func319 (by kernel_rfl) (by kernel_rfl) (by kernel_rfl) (e := Extern.SlicesOverlaps.overlaps #[138, 138] #[4]) (by kernel_rfl),
      Lib.run_overlaps_apart w 138 4 142 Tryz.underlying138 1 Tryz.sizeOf142 ⟨bv, 0, none⟩ ⟨g, i + 1, none⟩ 1 1 lb cb hne 142 142 1 cap (by simp [World.shape?, hv]) (by simp [World.shape?, hcur, hsz]) (by omega) (free_at hv 0) (free_at hv 1)]
    rfl
  have hsp : ∀ j, j < cap → (w.cell? ⟨g, j, none⟩).isSome = true := fun j hj => by rw [cell_at hcur, Array.getElem?_eq_getElem (by omega)]; rfl
  have hcs : ∀ j x, xs[j]? = some x → w.cell? ⟨g, j, none⟩ = some x := fun j x hj => by
    rw [cell_at hcur]
    rw [← hxs, List.getElem?_take] at hj
    split at hj
    · simpa using hj
    · cases hj
  have hdl : (xs.drop i).length = n - i := by rw [List.length_drop, hlen]
  obtain ⟨W1, hW1⟩ : ∃ W1, W1 = w.drew.setCells g (i + 1) (xs.drop i) := ⟨_, rfl⟩
  have hcp1 : ∀ ty dc sc, (Builtin.copy_ #[138, 138] ty #[.slice (some ⟨g, i + 1, none⟩) (n - i) dc, .slice (some ⟨g, i, none⟩) (n + 1 - i) sc]).run Tryz.prog w.drew = .ok (goInt (xs.drop i).length) W1 := fun ty dc sc => by
    rw [hW1]
    exact run_copy_cells w.drew _ _ ty 142 g (i + 1) (n - i) dc ⟨g, i, none⟩ (n + 1 - i) sc (xs.drop i) Tryz.underlying138 hz1 (by rw [hdl]; simp only [Nat.min_def]; split <;> omega)
      (fun j x hj => by rw [Addr.add_lit]; exact hcs (i + j) x (by rwa [List.getElem?_drop] at hj))
      (fun j hj => hsp _ (by omega)) (fun j hj => free_at hcur _) (fun x hx => h1 x (List.mem_of_mem_drop hx))
  have hB1 : W1.heap[g]? = some (.cells (putList cur (i + 1) (xs.drop i)) 142 (0, 0)) := by rw [hW1]; exact block_setCells (xs.drop i) w.drew g cur _ _ _ hcur
  have hK1 : Kept [g] w W1 := by rw [hW1]; exact Kept.setCells (.inl (by simp)) _ _ (Kept.refl _ _).drew
  have hV1 : W1.heap[bv]? = some (.cells #[u] 142 (0, 0)) := hK1.at hv (by simpa using hne)
  have hcp2 : ∀ ty dc, (Builtin.copy_ #[138, 138] ty #[.slice (some ⟨g, i, none⟩) (n + 1 - i) dc, .slice (some ⟨bv, 0, none⟩) 1 1]).run Tryz.prog W1 = .ok (goInt 1) (W1.setCells g i [u]) := fun ty dc =>
    run_copy_cells W1 _ _ ty 142 g i (n + 1 - i) dc ⟨bv, 0, none⟩ 1 1 [u] Tryz.underlying138 hz1 (by simp only [Nat.min_def, List.length_cons, List.length_nil]; split <;> omega)
      (fun j x hj => by rw [addr_add, cell_at hV1, ← hj]; simp)
      (fun j hj => by rw [cell_at hB1, Array.getElem?_eq_getElem (by rw [putList_size]; simp at hj; omega)]; rfl) (fun j hj => free_at hB1 _) (fun x hx => by simp at hx; subst hx; exact hu)
  have hB2 := block_setCells [u] W1 g _ _ _ i hB1
  have hK2 := Kept.setCells (S := [g]) (a := w) (b := g) (.inl (by simp)) [u] i hK1
  have hfin := ins_list_N (u := u) hxs (by omega : n + 1 ≤ cur.size) hi
  have HB := hide hB2
  have HK := hide hK2
  have HF := hide hfin
  clear hB1 hK1 hB2 hK2 hfin hW1 hcur hv hV1 h1 hsp hcs hxs
  have hw1 : IntKind.i64.wrap ((i : Int) + 1) = (i : Int) + 1 := by rw [IntKind.wrap_i64]; omega
  have hb1 : (0 : Int) ≤ (i : Int) + 1 := by omega
  have hb2 : (i : Int) + 1 ≤ (n : Int) + 1 := by omega
  have htn : ((i : Int) + 1).toNat = i + 1 := by omega
  have hb3 : (i : Int) ≤ (n : Int) + 1 := by omega
  have hb4 : ¬ (cap = i + 1) := by omega
  have hb5 : ¬ (cap = i) := by omega
  go_enter Tryz.func266, Tryz.ntmps266
  go_wp2_with (simp only [hov])
  go_region_law (refine step_copy_runI rfl _ _ 138 138 rfl _ _ (by simp [Act.eval, Act.put]) (by simp [Act.eval, Act.put]) (hcp1 _ _ _) ?_)
  go_wp2_with (at_builtin; refine wpList_copy_runI _ rfl _ _ 138 138 rfl _ _ rfl rfl (hcp2 _ _) ?_)
  go_ret
  exact ⟨_, rfl, ⟨by simp [hlen]; omega, .inr ⟨g, cap, _, rfl, hbg, HB.out, by omega, hm, by rw [putList_size, putList_size]; omega, by rw [Nat.mul_one]; exact HF.out⟩⟩, HK.out, .inl rfl⟩
theorem ins_list2_N {l : List Value} {n i : Nat} {u : Value} {R : Array Value} (hll : l.length = n) (hR : R.toList.take i = l.take i) (hn : n + 1 ≤ R.size) (hi : i < n) :
    (putList (putList R i [u]) (i + 1) (l.drop i)).toList.take (n + 1) = l.take i ++ [u] ++ l.drop i := by
  have h1 := putList_toList [u] R i (by simp; omega)
  rw [putList_toList (l.drop i) _ (i + 1) (by rw [putList_size]; simp; omega), h1, hR]
  have e0 : ∀ X : List Value, (l.take i ++ [u] ++ X).take (i + 1) = l.take i ++ [u] := fun X => by rw [List.take_append_of_le_length (by simp; omega), List.take_of_length_le (by simp; omega)]
  rw [e0, List.take_append_of_le_length (by simp; omega), List.take_of_length_le (by simp; omega)]
set_option maxHeartbeats 4000000 in
set_option maxRecDepth 100000 in
theorem ins_grow_N (base g cap n i bv : Nat) (u : Value) (cur : Array Value) (xs : List Value) (w : World) (hcur : w.heap[g]? = some (.cells cur 142 (0, 0))) (hxs : cur.toList.take n = xs) (hsz : cur.size = cap)
    (hnc : n ≤ cap) (hroom : cap < n + 1) (hi : i < n) (hv : w.heap[bv]? = some (.cells #[u] 142 (0, 0))) (hu : u.oneCell' = true) (h1 : ∀ x ∈ xs, x.oneCell' = true) (hle : n ≤ 1048576) (hb : base ≤ w.heap.size) :
    Calls Tryz.prog 266 #[.slice (some ⟨g, 0, none⟩) n cap, .int .i64 i, .slice (some ⟨bv, 0, none⟩) 1 1] w (InsN base (.slice (some ⟨g, 0, none⟩) n cap) n i xs u w) := by
  obtain ⟨i0, hi0, hz0, hzs, hzb⟩ := info_parts info_N
  obtain rfl : cap = n := by omega
  have hlen : xs.length = cap := by rw [← hxs]; simp; omega
  have hz1 : (Tryz.prog.info? 142).map (·.size) = some 1 := by kernel_rfl
  have hgl := lt_of_block hcur
  have hvl := lt_of_block hv
  have hcs : ∀ j x, xs[j]? = some x → w.cell? ⟨g, j, none⟩ = some x := fun j x hj => by
    rw [cell_at hcur]
    rw [← hxs, List.getElem?_take] at hj
    split at hj
    · simpa using hj
    · cases hj
  have hold : (Builtin.firstCells i0.size i (.slice (some ⟨g, 0, none⟩) i cap)).run Tryz.prog w.drew = .ok (xs.take i).toArray w.drew := by
    rw [hzs]
    exact run_firstCells_some w.drew 1 i ⟨g, 0, none⟩ i cap (xs.take i) (by rw [List.length_take]; omega) (fun j x hj => by
      rw [addr_add]
      rw [List.getElem?_take] at hj
      split at hj
      · exact hcs j x hj
      · cases hj)
  obtain ⟨G, hG⟩ : ∃ G, G = grownCap w (cap + 1) cap 142 := ⟨_, rfl⟩
  obtain ⟨R, hR⟩ : ∃ R : Array Value, R = (xs.take i).toArray ++ Builtin.zeroCells (.nilIface : Value).cells (cap + 1 - i) ++ Builtin.zeroCells (.nilIface : Value).cells (G - (cap + 1)) := ⟨_, rfl⟩
  obtain ⟨W1, hW1⟩ : ∃ W1, W1 = w.drew.alloc (.cells R 142 (0, 0)) := ⟨_, rfl⟩
  have hrz : ∀ ty, (Builtin.append_ #[138, 3] ty #[.slice (some ⟨g, 0, none⟩) i cap, .int .i64 ((cap : Int) + 1 - (i : Int))]).run Tryz.prog w = .ok (.slice (some ⟨w.heap.size, 0, none⟩) (cap + 1) G) W1 := fun ty => by
    have h := Lib.run_append_grow_zeros w 138 3 ty 142 i0 _ .i64 .i64 Tryz.underlying138 Tryz.underlying3 hi0 hz0 (some ⟨g, 0, none⟩) i cap (xs.take i) hold (cap + 1 - i) (by omega) (by omega) (by omega) (by omega) (by rw [hzb]; omega) (by rw [hzb, show i + (cap + 1 - i) = cap + 1 by omega]; exact growslice_fits (by omega) (by omega))
    rw [show i + (cap + 1 - i) = cap + 1 by omega, ← hG, ← hR, ← hW1] at h
    rw [show (cap : Int) + 1 - (i : Int) = ((cap + 1 - i : Nat) : Int) by omega]
    exact h
  have hGn : cap + 1 ≤ G := by rw [hG]; exact grownCap_ge w _ _ _
  have hGm : G ≤ maxLen := by rw [hG]; exact grownCap_le_maxLen w (cap + 1) cap 142 (by unfold maxLen; omega)
  have hRs : R.size = G := by
    rw [hR]
    simp [Builtin.zeroCells, Value.cells]
    omega
  have hRt : R.toList.take i = xs.take i := by
    rw [hR]
    simp only [Array.toList_append, List.append_assoc]
    rw [List.take_append_of_le_length (by simp; omega), List.take_of_length_le (by simp; omega)]
  have hB1 : W1.heap[w.heap.size]? = some (.cells R 142 (0, 0)) := by rw [hW1]; exact heap_alloc_at w.drew _
  have hK1 : Kept [] w W1 := by rw [hW1]; exact (Kept.refl [] w).drew.alloc _
  have hV1 := hK1.at hv (by simp)
  have hC1 := hK1.at hcur (by simp)
  obtain ⟨W2, hW2⟩ : ∃ W2, W2 = W1.setCells w.heap.size i [u] := ⟨_, rfl⟩
  have hcpA : ∀ ty dc, (Builtin.copy_ #[138, 138] ty #[.slice (some ⟨w.heap.size, i, none⟩) (cap + 1 - i) dc, .slice (some ⟨bv, 0, none⟩) 1 1]).run Tryz.prog W1 = .ok (goInt 1) W2 := fun ty dc => by
    rw [hW2]
    exact run_copy_cells W1 _ _ ty 142 w.heap.size i (cap + 1 - i) dc ⟨bv, 0, none⟩ 1 1 [u] Tryz.underlying138 hz1 (by simp only [Nat.min_def, List.length_cons, List.length_nil]; split <;> omega)
      (fun j x hj => by rw [addr_add, cell_at hV1, ← hj]; simp)
      (fun j hj => by rw [cell_at hB1, Array.getElem?_eq_getElem (by simp at hj; omega)]; rfl) (fun j hj => free_at hB1 _) (fun x hx => by simp at hx; subst hx; exact hu)
  have hB2 : W2.heap[w.heap.size]? = some (.cells (putList R i [u]) 142 (0, 0)) := by rw [hW2]; exact block_setCells [u] W1 _ R _ _ _ hB1
  have hK2 : Kept [] w W2 := by rw [hW2]; exact Kept.setCells (.inr (Nat.le_refl _)) _ _ hK1
  have hC2 := hK2.at hcur (by simp)
  have hcpB : ∀ ty dc sc, (Builtin.copy_ #[138, 138] ty #[.slice (some ⟨w.heap.size, i + 1, none⟩) (cap - i) dc, .slice (some ⟨g, i, none⟩) (cap - i) sc]).run Tryz.prog W2.drew = .ok (goInt (xs.drop i).length) (W2.drew.setCells w.heap.size (i + 1) (xs.drop i)) := fun ty dc sc =>
    run_copy_cells W2.drew _ _ ty 142 w.heap.size (i + 1) (cap - i) dc ⟨g, i, none⟩ (cap - i) sc (xs.drop i) Tryz.underlying138 hz1 (by rw [List.length_drop, hlen]; simp only [Nat.min_def]; split <;> omega)
      (fun j x hj => by
        rw [Addr.add_lit]
        have h3 := hcs (i + j) x (by rwa [List.getElem?_drop] at hj)
        rw [cell_at hcur] at h3
        exact (cell_at hC2 _).trans h3)
      (fun j hj => by show (W2.cell? _).isSome = true; rw [cell_at hB2, Array.getElem?_eq_getElem (by rw [putList_size]; simp at hj; omega)]; rfl) (fun j hj => free_at hB2 _) (fun x hx => h1 x (List.mem_of_mem_drop hx))
  have hB3 := block_setCells (xs.drop i) W2.drew w.heap.size _ _ _ (i + 1) hB2
  have hK3 := Kept.setCells (S := []) (a := w) (b := w.heap.size) (.inr (Nat.le_refl _)) (xs.drop i) (i + 1) hK2.drew
  have hfin := ins_list2_N (u := u) hlen hRt (by omega) hi
  have HB := hide hB3
  have HK := hide hK3
  have HF := hide hfin
  have HRs := hide hRs
  have HGm := hide hGm
  have hz3 : (cap : Int) < (cap : Int) + 1 := by omega
  have hGi : ¬ (G = i) := by omega
  have hGim : ¬ (G = i + 1) := by omega
  have hci : ¬ (cap = i) := by omega
  have hw1 : IntKind.i64.wrap ((i : Int) + 1) = (i : Int) + 1 := by rw [IntKind.wrap_i64]; omega
  have hb1 : (0 : Int) ≤ (i : Int) + 1 := by omega
  have hb2 : (i : Int) + 1 ≤ (cap : Int) + 1 := by omega
  have htn : ((i : Int) + 1).toNat = i + 1 := by omega
  have hb3 : (i : Int) ≤ (cap : Int) := by omega
  clear hB1 hK1 hB2 hK2 hB3 hK3 hfin hW1 hcur hv hV1 hC1 hC2 h1 hcs hxs hold hR hG hRs hRt hW2 hGm
  go_enter Tryz.func266, Tryz.ntmps266
  go_wp2_with (first
    | (at_builtin; refine Lib.wpList_append_run _ rfl _ _ _ _ rfl _ _ rfl rfl _ _ (hrz _) ?_)
    | (at_builtin; refine wpList_copy_runI _ rfl _ _ 138 138 rfl _ _ rfl rfl (hcpA _ _) ?_))
  go_region_law (refine step_copy_runI rfl _ _ 138 138 rfl (.slice (some ⟨w.heap.size, i + 1, none⟩) (cap - i) (G - (i + 1))) (.slice (some ⟨g, i, none⟩) (cap - i) (cap - i)) (by simp [Act.eval, Act.put]) (by simp [Act.eval, Act.put]) (hcpB _ _ _) ?_)
  go_wp2
  go_ret
  refine ⟨_, rfl, ⟨by simp [hlen]; omega, .inr ⟨w.heap.size, G, _, rfl, hb, HB.out, hGn, HGm.out, by rw [putList_size, putList_size, Nat.mul_one]; exact HRs.out, by rw [Nat.mul_one]; exact HF.out⟩⟩, HK.out.mono (by simp), .inr ?_⟩
  intro k hk
  simp [Value.ownBlock] at hk
  omega
theorem ins_N (base n i bv : Nat) (v u : Value) (xs : List Value) (w : World) (ho : w.ownsRow base 142 1 v n xs) (hv : w.heap[bv]? = some (.cells #[u] 142 (0, 0))) (hne : v.ownBlock ≠ some bv) (hu : u.oneCell' = true) (h1 : ∀ x ∈ xs, x.oneCell' = true) (hi : i ≤ n) (hle : n ≤ 1048576) (hb : base ≤ w.heap.size) :
    Calls Tryz.prog 266 #[v, .int .i64 i, .slice (some ⟨bv, 0, none⟩) 1 1] w (InsN base v n i xs u w) := by
  by_cases hin : i = n
  · subst hin
    exact ins_end_N base i bv v u xs w ho hv hu hle hb
  · rcases ho.2 with ⟨_, e0⟩ | ⟨g, cap, cur, rfl, hbg, hcur, hnc, hm, hsz, htake⟩
    · omega
    · have hg : bv ≠ g := fun e => hne (by rw [e]; rfl)
      rw [Nat.mul_one] at hsz htake
      by_cases hr : n + 1 ≤ cap
      · exact ins_shift_N base g cap n i bv u cur xs w hbg hcur htake hsz hm hr (by omega) hv hg hu h1 hle
      · exact ins_grow_N base g cap n i bv u cur xs w hcur htake hsz hnc (by omega) (by omega) hv hu h1 hle hb
end Go.Proofs.YtlhhgenpcjjajaaGreatDoor
