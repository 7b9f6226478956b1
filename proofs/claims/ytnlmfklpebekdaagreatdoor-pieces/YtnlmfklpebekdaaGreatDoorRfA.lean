import Derived.Test.YtnlmfklpebekdaaGreatDoorRdZD
import Derived.Maps.RangeRun
set_option linter.unusedSimpArgs false
set_option linter.unusedVariables false
namespace Go.Proofs.YtnlmfklpebekdaaGreatDoor
open Go.RowKit Go.PlainAid
open Go.ChangeMaps (setBlock)

def kvOf (e : MapEntry) : Value × Value := (e.key, e.val)
def kv (p : ByteArray × ByteArray) : Value × Value := (.string p.1, .agg #[.string p.2])
/-- The map at b holds L, in this order. -/
structure Mp (w : World) (b : Nat) (L : List (ByteArray × ByteArray)) (es : Array MapEntry) (clock : Nat) : Prop where
  at_ : w.heap[b]? = some (.map es clock)
  kvs : es.toList.map kvOf = L.map kv
  nod : (es.toList.map (·.born)).Nodup
  old : ∀ x ∈ es.toList, x.born < clock
theorem Mp.kept {w w' : World} {b : Nat} {L : List (ByteArray × ByteArray)} {es : Array MapEntry} {clock : Nat} {S : List Nat} (h : Mp w b L es clock) (hk : Kept S w w') (hb : b ∉ S) : Mp w' b L es clock := ⟨hk.at h.at_ hb, h.kvs, h.nod, h.old⟩

theorem find_no (k : ByteArray) : ∀ (es : List MapEntry) (L : List (ByteArray × ByteArray)) (i : Nat), es.map kvOf = L.map kv → L.all (fun p => !(k == p.1)) = true → Instr.findNow .string (.string k) es i = some none
  | [], _, _, _, _ => rfl
  | e :: es, [], _, h, _ => by simp at h
  | e :: es, p :: L, i, h, hn => by
    simp only [List.map_cons, List.cons.injEq] at h
    simp only [List.all_cons, Bool.and_eq_true] at hn
    have hk : e.key = .string p.1 := congrArg Prod.fst h.1
    have hf : (k == p.1) = false := by simpa using hn.1
    unfold Instr.findNow
    simp only [hk, Instr.sameNow, hf]
    exact find_no k es L (i + 1) h.2 hn.2
theorem find_yes (k : ByteArray) : ∀ (es : List MapEntry) (L : List (ByteArray × ByteArray)) (i : Nat) (p : ByteArray × ByteArray), es.map kvOf = L.map kv → L.find? (fun p => k == p.1) = some p → ∃ j, Instr.findNow .string (.string k) es i = some (some (j, .agg #[.string p.2]))
  | [], [], _, _, _, h => by simp at h
  | [], _ :: _, _, _, h, _ => by simp at h
  | e :: es, [], _, _, h, _ => by simp at h
  | e :: es, q :: L, i, p, h, hp => by
    simp only [List.map_cons, List.cons.injEq] at h
    have hk : e.key = .string q.1 := congrArg Prod.fst h.1
    have hv : e.val = .agg #[.string q.2] := congrArg Prod.snd h.1
    unfold Instr.findNow
    cases hf : (k == q.1)
    · simp only [hk, Instr.sameNow, hf]
      rw [List.find?_cons, hf] at hp
      exact find_yes k es L (i + 1) p h.2 hp
    · simp only [hk, Instr.sameNow, hf]
      rw [List.find?_cons, hf] at hp
      obtain rfl := Option.some.inj hp
      exact ⟨i, by rw [hv]⟩

theorem kept_setBlock {S : List Nat} {a w : World} (h : Kept S a w) {b : Nat} (hb : b ∈ S ∨ a.heap.size ≤ b) (o : Obj) : Kept S a (setBlock w b o) :=
  ⟨h.os, h.tape, h.output, by show a.heap.size ≤ (w.heap.setIfInBounds b o).size; rw [Array.size_setIfInBounds]; exact h.size, fun k hk hs => by
    show (w.heap.setIfInBounds b o)[k]? = _
    rw [Array.getElem?_setIfInBounds_ne (by rintro rfl; rcases hb with hb | hb; exact hs hb; omega)]
    exact h.block k hk hs⟩
theorem setBlock_at {w : World} {b : Nat} (h : b < w.heap.size) (o : Obj) : (setBlock w b o).heap[b]? = some o := by
  show (w.heap.setIfInBounds b o)[b]? = _
  rw [Array.getElem?_setIfInBounds]; simp [h]

/-- A name that is new goes in. -/
theorem run_put {w : World} {b : Nat} {L : List (ByteArray × ByteArray)} {es : Array MapEntry} {clock : Nat} (h : Mp w b L es clock) (k t : ByteArray) (hn : L.all (fun p => !(k == p.1)) = true) :
    ∃ w' es' clock', (Instr.mapUpdate 121 (.map (some b)) (.string k) (.agg #[.string t])).run Tryz.prog w = .ok () w' ∧ Mp w' b (L ++ [(k, t)]) es' clock' ∧ Kept [b] w w' ∧ w'.heap.size = w.heap.size := by
  have hl := lt_of_block h.at_
  refine ⟨setBlock w b (.map (es.push { key := .string k, val := .agg #[.string t], born := clock }) (clock + 1)), _, _, ?_, ⟨setBlock_at hl _, ?_, ?_, ?_⟩, kept_setBlock (Kept.refl _ _) (.inl (by simp)) _, ?_⟩
  · have hf := find_no k es.toList L 0 h.kvs hn
    have hu : (underlying 9).run Tryz.prog w = .ok .string w := run_underlying Tryz.underlying9 _
    have hc : (Instr.checkKey false 10000 9 (.string k)).run Tryz.prog w = .ok () w := by
      unfold Instr.checkKey
      simp [hu]
    simp [Instr.mapUpdate, run_underlying Tryz.underlying121, MapKept.run_getObj_map h.at_, hc, Instr.findKey, hu, hf, setObj, Sem.run, h.at_, setBlock, Result.andThen]
  · simp [h.kvs, kvOf, kv]
  · simp only [Array.toList_push, List.map_append, List.map_cons, List.map_nil]
    rw [List.nodup_append]
    refine ⟨h.nod, by simp, ?_⟩
    intro x hx y hy e
    obtain ⟨z, hz, rfl⟩ := List.mem_map.1 hx
    have := h.old z hz
    simp at hy
    omega
  · intro x hx
    simp only [Array.toList_push, List.mem_append, List.mem_singleton] at hx
    rcases hx with hx | rfl
    · have := h.old x hx; omega
    · exact Nat.lt_succ_self _
  · show (w.heap.setIfInBounds b _).size = _; simp

def lookL (L : List (ByteArray × ByteArray)) (k : ByteArray) : Option ByteArray := (L.find? (fun p => k == p.1)).map (·.2)
theorem zero_meaning (w : World) : (zeroValue 147).run Tryz.prog w = .ok (.agg #[.string ⟨#[]⟩]) w := by
  have h : (Tryz.prog.info? 147).bind (·.zero) = some (.agg #[.string ⟨#[]⟩]) := by kernel_rfl
  obtain ⟨i, hi, hz⟩ := Option.bind_eq_some_iff.1 h
  simp [zeroValue, typeInfo, hi, hz]
theorem Mp.lk {w : World} {b : Nat} {L : List (ByteArray × ByteArray)} {es : Array MapEntry} {clock : Nat} (h : Mp w b L es clock) (hs : L.all (fun p => decide (p.2.size ≤ 16)) = true) : Lk w b (lookL L) where
  lt := lt_of_block h.at_
  short k t ht := by
    unfold lookL at ht
    obtain ⟨p, hp, rfl⟩ := Option.map_eq_some_iff.1 ht
    have := List.all_eq_true.1 hs p (List.mem_of_find?_eq_some hp)
    simpa using this
  run k w' e := by
    have ha : w'.heap[b]? = some (.map es clock) := e.trans h.at_
    have hu : (underlying 9).run Tryz.prog w' = .ok .string w' := run_underlying Tryz.underlying9 _
    have hc : ∀ x, (Instr.checkKey x 10000 9 (.string k)).run Tryz.prog w' = .ok () w' := fun x => by
      unfold Instr.checkKey
      simp [hu]
    cases hf : L.find? (fun p => k == p.1) with
    | none =>
      have hn : L.all (fun p => !(k == p.1)) = true := by
        rw [List.all_eq_true]; intro p hp
        have := List.find?_eq_none.1 hf p hp
        simpa using this
      have h1 := find_no k es.toList L 0 h.kvs hn
      have h2 : lookL L k = none := by unfold lookL; rw [hf]; rfl
      rw [h2]
      simp [Instr.lookup, run_underlying Tryz.underlying121, MapKept.run_getObj_map ha, hc, Instr.findKey, hu, h1, zero_meaning, Result.andThen]
    | some p =>
      obtain ⟨j, h1⟩ := find_yes k es.toList L 0 p h.kvs hf
      have h2 : lookL L k = some p.2 := by unfold lookL; rw [hf]; rfl
      rw [h2]
      simp [Instr.lookup, run_underlying Tryz.underlying121, MapKept.run_getObj_map ha, hc, Instr.findKey, hu, h1, Result.andThen]
end Go.Proofs.YtnlmfklpebekdaaGreatDoor
