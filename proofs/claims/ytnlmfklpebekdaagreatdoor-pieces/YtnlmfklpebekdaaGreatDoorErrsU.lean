import Derived.Test.YtnlmfklpebekdaaGreatDoorErrsT
set_option linter.unusedSimpArgs false
set_option linter.unusedVariables false
namespace Go.Proofs.YtnlmfklpebekdaaGreatDoor
open Go.RowKit Go.Extern.Stop Go.Stop Go.Extern

set_option maxHeartbeats 8000000 in
/-- errors.As(a *Stop, &e), e an api.Errno: what it wraps. -/
theorem as_stop_errno (p : Nat) (at_ k : Int) (t : Addr) (old : Value) (w : World) (hp : w.heap[p]? = some (.cells #[.int .i64 k, .int .i64 at_] 73 (0, 0))) (hg : w.cell? ⟨0, 0, none⟩ = some (.iface 106 (.agg #[.pointer (some ⟨4, 54, none⟩)]))) (ht0 : w.cell? t = some old) (hf0 : w.frozen? t = false) :
    Calls Tryz.prog 25 #[.iface 68 (.pointer (some ⟨p, 0, none⟩)), .iface 75 (.pointer (some t))] w fun ev w' => ev = .returned (.bool true) ∧ w' = ((((w.alloc (.cells #[.pointer (some t)] 75)).alloc (.cells (rv 75 w.heap.size) 82)).alloc (.cells (rv 75 w.heap.size) 82)).alloc (.cells #[.int .i64 k] 24)).setCell t (.int .i64 k) := by
  have h6 := @run_callFunc_extern Tryz.prog 30 _ (fun args => ReflectliteValue.unpack (args.getD 0 (.tuple #[]))) Tryz.func30 (by kernel_rfl) (by kernel_rfl) (by kernel_rfl) (by kernel_rfl)
  have h7 := @run_callFunc_extern Tryz.prog 31 _ (ReflectliteValue.methodAny (ReflectliteValue.valueError "reflectlite.Value.Type" 0) (fun t _ _ _ => ReflectliteType.toType t)) Tryz.func31 (by kernel_rfl) (by kernel_rfl) (by kernel_rfl) (by kernel_rfl)
  have h8 := @run_callFunc_extern Tryz.prog 32 _ (ReflectliteValue.method (ReflectliteValue.valueError "reflectlite.Value.IsNil" 0) ReflectliteValue.isNil) Tryz.func32 (by kernel_rfl) (by kernel_rfl) (by kernel_rfl) (by kernel_rfl)
  have h27 := @run_callFunc_extern Tryz.prog 144 _ (ReflectliteType.abiMethod fun t => do pure (.int .u8 (← Rtype.kind t))) Tryz.func144 (by kernel_rfl) (by kernel_rfl) (by kernel_rfl) (by kernel_rfl)
  have h37 := @run_callFunc_extern Tryz.prog 156 _ (ReflectliteType.method ReflectliteType.elem) Tryz.func156 (by kernel_rfl) (by kernel_rfl) (by kernel_rfl) (by kernel_rfl)
  have h38 := @run_callFunc_extern Tryz.prog 157 _ (ReflectliteType.relation "Implements" ReflectliteType.implements_) Tryz.func157 (by kernel_rfl) (by kernel_rfl) (by kernel_rfl) (by kernel_rfl)
  have h10 := @run_callFunc_extern Tryz.prog 34 _ ReflectliteType.typeOf Tryz.func34 (by kernel_rfl) (by kernel_rfl) (by kernel_rfl) (by kernel_rfl)
  have h35 := @run_callFunc_extern Tryz.prog 154 _ (ReflectliteType.relation "AssignableTo" ReflectliteType.assignableTo) Tryz.func154 (by kernel_rfl) (by kernel_rfl) (by kernel_rfl) (by kernel_rfl)
  have h11 := @run_callFunc_extern Tryz.prog 43 _ (ReflectliteValue.method (ReflectliteValue.valueError "reflectlite.Value.Elem" 0) ReflectliteValue.elem) Tryz.func43 (by kernel_rfl) (by kernel_rfl) (by kernel_rfl) (by kernel_rfl)
  have h12 := @run_callFunc_extern Tryz.prog 44 _ ReflectliteValue.set Tryz.func44 (by kernel_rfl) (by kernel_rfl) (by kernel_rfl) (by kernel_rfl)
  have tO := sp_typeOf
  have tO2 := en_typeOf
  have mA := rt_assignable
  have a25 := sp_notAssignable
  have a26 := en_assignable
  have v25 := en_valueOfE
  have f6 := en_valueOf
  have f7 := en_type
  have mK := rt_kind
  have mE := rt_elem
  have mI := rt_implements
  have k27 := en_kindp
  have k25 := en_kind
  have e27 := en_elem
  have i25 := en_implements
  have x1 := sp_noAs
  have x2 := sp_hasUnwrap
  have x3 := sp_methodUnwrap
  have n8 := en_isNil ⟨w.heap.size, 0, none⟩ t ((w.alloc (.cells #[.pointer (some t)] 75)).alloc (.cells (rv 75 w.heap.size) 82)) (by simp)
  have hlt : 0 < w.heap.size := by
    rcases Nat.eq_zero_or_pos w.heap.size with h0 | h
    · simp [World.cell?, h0] at hg
    · exact h
  have hg2 : ((w.alloc (.cells #[.pointer (some t)] 75)).alloc (.cells (rv 75 w.heap.size) 82)).cell? ⟨0, 0, none⟩ = some (.iface 106 (.agg #[.pointer (some ⟨4, 54, none⟩)])) := by
    rw [World.cell?_alloc_lt _ _ ⟨0, 0, none⟩ (by simp), World.cell?_alloc_lt _ _ ⟨0, 0, none⟩ hlt]; exact hg
  have htl : t.block < w.heap.size := by
    rcases Nat.lt_or_ge t.block w.heap.size with h | h
    · exact h
    · simp [World.cell?, Array.getElem?_eq_none h] at ht0
  have hpl := lt_of_block hp
  have HP : Hid ((((w.alloc (.cells #[.pointer (some t)] 75)).alloc (.cells (rv 75 w.heap.size) 82)).alloc (.cells (rv 75 w.heap.size) 82)).heap[p]? = some (.cells #[.int .i64 k, .int .i64 at_] 73 (0, 0))) := by
    show _ = _
    rw [Below.heap_alloc _ _ _ (by simp; omega), Below.heap_alloc _ _ _ (by simp; omega), Below.heap_alloc _ _ _ hpl]; exact hp
  clear hp
  have el := en_elemV ⟨w.heap.size, 0, none⟩ t (((w.alloc (.cells #[.pointer (some t)] 75)).alloc (.cells (rv 75 w.heap.size) 82)).alloc (.cells (rv 75 w.heap.size) 82)) (by rw [World.cell?_alloc_lt _ _ ⟨w.heap.size, 0, none⟩ (by simp; omega)]; simp)
  have st := en_set t ⟨w.heap.size + 1 + 1 + 1, 0, none⟩ k old ((((w.alloc (.cells #[.pointer (some t)] 75)).alloc (.cells (rv 75 w.heap.size) 82)).alloc (.cells (rv 75 w.heap.size) 82)).alloc (.cells #[.int .i64 k] 24))
    (by rw [World.cell?_alloc_at _ _ _ _ (by simp)]; rfl)
    (by rw [World.cell?_alloc_lt _ _ t (by simp; omega), World.cell?_alloc_lt _ _ t (by simp; omega), World.cell?_alloc_lt _ _ t (by simp; omega), World.cell?_alloc_lt _ _ t htl]; exact ht0)
    (by rw [World.frozen?_alloc_old _ _ t (by simp; omega), World.frozen?_alloc_old _ _ t (by simp; omega), World.frozen?_alloc_old _ _ t (by simp; omega), World.frozen?_alloc_old _ _ t (Nat.ne_of_lt htl)]; exact hf0)
  go_enter Tryz.func25, Tryz.ntmps25
  go_wp2
  refine wp_loop_rounds 2 ?_
  rw [rounds_succ]
  go_wp2_with (go_at_call 149; refine (unwrap_stop p 0 at_ k _ HP.out rfl).mono ?_; rintro e w' ⟨rfl, hw'⟩; subst hw')
  rw [rounds_succ]
  go_wp2
  go_ret
  exact ⟨rfl, rfl⟩

set_option maxHeartbeats 4000000 in
/-- errors.Is(a *Stop, what it wraps). -/
theorem is_stop (p : Nat) (at_ k : Int) (w : World) (hp : w.heap[p]? = some (.cells #[.int .i64 k, .int .i64 at_] 73 (0, 0))) :
    Calls Tryz.prog 26 #[.iface 68 (.pointer (some ⟨p, 0, none⟩)), .iface 24 (.int .i64 k)] w fun e w' => e = .returned (.bool true) ∧ w' = w := by
  obtain ⟨i, hi, hcmp⟩ := Option.map_eq_some_iff.1 en_comp
  have h8 := @run_callFunc_extern Tryz.prog 34 _ Extern.ReflectliteType.typeOf Tryz.func34 (by kernel_rfl) (by kernel_rfl) (by kernel_rfl) (by kernel_rfl)
  have h32 := @run_callFunc_extern Tryz.prog 155 _ cmpEntry Tryz.func155 (by kernel_rfl) (by kernel_rfl) (by kernel_rfl) (by kernel_rfl)
  have tT := en_typeOf
  have cT := en_isComparable
  have mR := rt_comparable
  have x1 := sp_noIs
  have x2 := sp_hasUnwrap
  have x3 := sp_methodUnwrap
  have heq : ∀ w : World, (binOp .eql 54 (.iface 24 (.int .i64 k)) (.iface 24 (.int .i64 k))).run Tryz.prog w = .ok (.bool true) w := fun w => by
    rw [run_eql_iface_int w k k Tryz.underlying54 Tryz.underlying24 hi hcmp]; simp
  have hty := fun w => run_eql_iface_types (P := Tryz.prog) 68 24 (.pointer (some ⟨p, 0, none⟩)) (.int .i64 k) Tryz.underlying54 (by decide) w
  have HP : Hid (w.heap[p]? = some (.cells #[.int .i64 k, .int .i64 at_] 73 (0, 0))) := hp
  clear hp
  go_enter Tryz.func26, Tryz.ntmps26
  go_wp2
  refine wp_loop_rounds 2 ?_
  rw [rounds_succ]
  go_wp2_with (go_at_call 149; refine (unwrap_stop p 0 at_ k _ HP.out rfl).mono ?_; rintro e w' ⟨rfl, hw'⟩; subst hw')
  rw [rounds_succ]
  go_wp2
  go_ret
  exact ⟨rfl, rfl⟩
end Go.Proofs.YtnlmfklpebekdaaGreatDoor
