import Derived.Test.YtlhhgenpcjjajaaGreatDoorRlA
import Derived.Test.YtlhhgenpcjjajaaGreatDoorCfA
import Derived.Test.YtlhhgenpcjjajaaGreatDoorTrA
import Derived.Deep.RegionWith
import Derived.Deep.CutRange
set_option linter.unusedSimpArgs false
set_option linter.unusedVariables false
namespace Go.Proofs.YtlhhgenpcjjajaaGreatDoor
open Go.RowKit
set_option maxRecDepth 100000 in
set_option maxHeartbeats 1000000 in
theorem kind_char (E : Env) (a b : Nat) (s : ByteArray) (w : World) : Calls Tryz.prog 58 #[tokV E ⟨a, b, .char s, []⟩] w fun e w' => e = .returned (.int .i64 1) ∧ w' = w := by
  simp only [tokV]
  have q_Char := fun (v : Value) (xT : TypeId) (w : World) => ta_yes Tryz.underlying188 v xT w
  go_enter Tryz.func58, Tryz.ntmps58
  go_wp2
  go_ret
  exact ⟨rfl, rfl⟩
set_option maxRecDepth 100000 in
set_option maxHeartbeats 1000000 in
theorem kind_end (E : Env) (a b : Nat) (w : World) : Calls Tryz.prog 58 #[tokV E ⟨a, b, .textEnd, []⟩] w fun e w' => e = .returned (.int .i64 0) ∧ w' = w := by
  simp only [tokV]
  have q_Char := fun (v : Value) (xT : TypeId) (w : World) => ta_no (T := 186) (z := .agg #[.int .i64 0, .int .i64 0, .string ⟨#[]⟩]) Tryz.underlying188 (by kernel_rfl) (by decide) v xT w
  have q_Comment := fun (v : Value) (xT : TypeId) (w : World) => ta_no (T := 186) (z := .agg #[.int .i64 0, .int .i64 0, .string ⟨#[]⟩]) Tryz.underlying198 (by kernel_rfl) (by decide) v xT w
  have q_Doctype := fun (v : Value) (xT : TypeId) (w : World) => ta_no (T := 186) (z := .agg #[.int .i64 0, .int .i64 0, .string ⟨#[]⟩, .bool false]) Tryz.underlying200 (by kernel_rfl) (by decide) v xT w
  have q_StartTag := fun (v : Value) (xT : TypeId) (w : World) => ta_no (T := 186) (z := .agg #[.int .i64 0, .int .i64 0, .string ⟨#[]⟩, .slice none 0 0]) Tryz.underlying196 (by kernel_rfl) (by decide) v xT w
  have q_EndTag := fun (v : Value) (xT : TypeId) (w : World) => ta_no (T := 186) (z := .agg #[.int .i64 0, .int .i64 0, .string ⟨#[]⟩, .slice none 0 0]) Tryz.underlying197 (by kernel_rfl) (by decide) v xT w
  have q_Lost := fun (v : Value) (xT : TypeId) (w : World) => ta_no (T := 186) (z := .agg #[.int .i64 0, .int .i64 0]) Tryz.underlying190 (by kernel_rfl) (by decide) v xT w
  go_enter Tryz.func58, Tryz.ntmps58
  go_wp2
  go_ret
  exact ⟨rfl, rfl⟩
set_option maxHeartbeats 1000000 in
theorem document_ok (E : Env) (f : Nat → Nat) (σ : Ab) (w : World) (h : RF E f σ w) : Calls Tryz.prog 59 #[Bp E] w fun e w' => e = .returned (nV f 0) ∧ w' = w := by
  have c := (At.start h).c187
  have hlt := h.lt
  clear h
  go_enter Tryz.func59, Tryz.ntmps59
  go_wp2
  go_ret
  exact ⟨rfl, rfl⟩
theorem RF.rdR {bs bm bB r : Nat} {C : Array Value} {R : RC} {bg ps : Nat} {w0 : World} {f : Nat → Nat} {σ : Ab} {w : World} (h : RF (envOf bs bm bB r C R bg ps w0) f σ w) (ho : R.ofT = σ.ofT) (hp : R.plT = σ.plainT) : Rd w r R bg ps := by
  obtain ⟨L, _, hr⟩ := h
  have := hr.rd
  have e : w.heap[r]? = some (.cells (((rcells R bg ps).setIfInBounds 7 (.string σ.ofT)).setIfInBounds 8 (.bool σ.plainT)) 165 (0, 0)) := this
  rw [rcells_same R bg ps _ _ ho.symm hp.symm] at e
  exact e
structure RgP (w : World) (bm bB bD r : Nat) (C : Array Value) (R : RC) (g cap : Nat) (cut : Nat → Nat) (d f l base : Nat) (bg ps : Nat) (v : Value) (L : List Sp) (wr : World) : Prop where
  rel : ∃ fl a w0, fl 0 = bD ∧ RF (envOf w.heap.size bm bB r C R bg ps w0) fl (stI d f l R.cs ps a) wr
  ats : Ats wr r R g cap cut
  aty : ∃ cA, wr.heap[g]? = some (.cells cA 3 (0, 0))
  tb : wr.heap[w.heap.size + 1]? = some (.cells #[v, .pointer none] 74 (0, 0))
  sb : wr.heap[w.heap.size + 2]? = some (.cells #[.pointer none] 78 (0, 0))
  own : wr.ownsRow base 53 3 v L.length (scells L)
  kept : Kept [] w wr
  le : ps ≤ R.cs.size
  len : L.length ≤ ps
  big : w.heap.size ≤ base ∧ base ≤ wr.heap.size
  rge : w.heap.size ≤ r
theorem RgP.rd {w : World} {bm bB bD r : Nat} {C : Array Value} {R : RC} {g cap : Nat} {cut : Nat → Nat} {d f l base bg ps : Nat} {v : Value} {L : List Sp} {wr : World} (h : RgP w bm bB bD r C R g cap cut d f l base bg ps v L wr) (ho : R.ofT = ⟨#[]⟩) (hp : R.plT = false) : Rd wr r R bg ps := by
  obtain ⟨fl, a, w0, _, hr⟩ := h.rel
  exact hr.rdR (by rw [ho, (stI_of _ _ _ _ _ _).1]) (by rw [hp, (stI_of _ _ _ _ _ _).2])
theorem RgP.next {w : World} {bm bB bD r : Nat} {C : Array Value} {R : RC} {g cap : Nat} {cut : Nat → Nat} {d f l base bg ps : Nat} {v : Value} {L : List Sp} {wr w2 : World} (h : RgP w bm bB bD r C R g cap cut d f l base bg ps v L wr) (ho : R.ofT = ⟨#[]⟩) (hp : R.plT = false) (hk : Kept [r] wr w2) {bg' ps' : Nat} (hr : Rd w2 r R bg' ps') :
    (∃ fl a, fl 0 = bD ∧ RF (envOf w.heap.size bm bB r C R bg' ps' w2) fl (stI d f l R.cs ps a) w2) ∧ Ats w2 r R g cap cut ∧ (∃ cA, w2.heap[g]? = some (.cells cA 3 (0, 0))) ∧ w2.heap[w.heap.size + 1]? = some (.cells #[v, .pointer none] 74 (0, 0)) ∧ w2.heap[w.heap.size + 2]? = some (.cells #[.pointer none] 78 (0, 0)) ∧ w2.ownsRow base 53 3 v L.length (scells L) ∧ Kept [] w w2 := by
  have hrd := h.rd ho hp
  obtain ⟨fl, a, w0, h0, hrf⟩ := h.rel
  have ne : ∀ {k : Nat} {c : Array Value} {t : TypeId}, wr.heap[k]? = some (.cells c t (0, 0)) → t ≠ 165 → k ∉ [r] := by
    intro k c t hk' ht hm
    have e := List.mem_singleton.1 hm
    subst e
    unfold Rd at hrd
    rw [hrd] at hk'
    simp at hk'
    exact ht hk'.2.symm
  refine ⟨⟨fl, a, h0, hrf.turn [165] (.of_kept hk (fun k hk' _ => by
    have e := List.mem_singleton.1 hk'
    subst e
    exact ⟨⟨_, _, _, hrd, by simp⟩, h.rge⟩)) (fun t _ ht => by simpa using ht) (by decide) hr (by rw [ho, (stI_of _ _ _ _ _ _).1]) (by rw [hp, (stI_of _ _ _ _ _ _).2])⟩, h.ats.kept hk, ?_, hk.at h.tb (ne h.tb (by decide)), hk.at h.sb (ne h.sb (by decide)), hk.ownsRow h.own ?_, h.kept.next hk (by simpa using h.rge)⟩
  · obtain ⟨cA, hA⟩ := h.aty
    exact ⟨cA, hk.at hA (ne hA (by decide))⟩
  · intro k hk'
    rcases h.own.2 with ⟨e, _⟩ | ⟨q, cap', cur, e, _, hc, _⟩
    · rw [e] at hk'; cases hk'
    · rw [e] at hk'
      have e3 := Option.some.inj hk'
      subst e3
      exact ne hc (by decide)
end Go.Proofs.YtlhhgenpcjjajaaGreatDoor
namespace Go.Proofs.YtlhhgenpcjjajaaGreatDoor
open Go.RowKit
inductive Tn
  | el (name : ByteArray) (ats : List (ByteArray × ByteArray)) (kids : List Tn)
  | tx (s : ByteArray)
  | cm (s : ByteArray)
  | dt (s : ByteArray)
inductive Ev
  | dt (s : ByteArray)
  | cm (s : ByteArray)
  | tx (s : ByteArray)
  | enter (name : ByteArray) (ats : List (ByteArray × ByteArray))
  | leave (name : ByteArray)
mutual
def evT (vd : ByteArray → Bool) : Tn → List Ev
  | .el name ats ks => .enter name ats :: (if vd name then [] else evS vd ks ++ [.leave name])
  | .tx s => [.tx s]
  | .cm s => [.cm s]
  | .dt s => [.dt s]
def evS (vd : ByteArray → Bool) : List Tn → List Ev
  | [] => []
  | t :: ts => evT vd t ++ evS vd ts
end
abbrev flatA (ats : List (ByteArray × ByteArray)) : List Value := ats.flatMap fun a => [.string a.1, .string a.2]
abbrev AtrA (w : World) (v : Value) (ats : List (ByteArray × ByteArray)) : Prop := w.ownsRow 0 299 2 v ats.length (flatA ats)
mutual
def IsTn (w : World) : Tn → Nd → Prop
  | .el name ats ks, .el k => ∃ av par kv ns, El 0 w k name av par kv ns ∧ AtrA w av ats ∧ ats.length ≤ 4096 ∧ IsTs w ks ns
  | .tx s, .tx k => w.heap[k]? = some (.cells #[.string s] 284 (0, 0))
  | .cm s, .cm k => w.heap[k]? = some (.cells #[.string s] 239 (0, 0))
  | .dt s, .dt k => w.heap[k]? = some (.cells #[.string s] 243 (0, 0))
  | _, _ => False
def IsTs (w : World) : List Tn → List Nd → Prop
  | [], [] => True
  | t :: ts, n :: ns => IsTn w t n ∧ IsTs w ts ns
  | _, _ => False
end
theorem IsTs.len {w : World} : ∀ {ts : List Tn} {ns : List Nd}, IsTs w ts ns → ts.length = ns.length
  | [], [], _ => rfl
  | _ :: _, _ :: _, h => by unfold IsTs at h; simp [IsTs.len h.2]
  | [], _ :: _, h => by unfold IsTs at h; exact h.elim
  | _ :: _, [], h => by unfold IsTs at h; exact h.elim
theorem IsTs.get {w : World} : ∀ {ts : List Tn} {ns : List Nd} (_ : IsTs w ts ns) (k : Nat) (h1 : k < ts.length) (h2 : k < ns.length), IsTn w ts[k] ns[k]
  | [], _, _, _, h1, _ => by simp at h1
  | _ :: _, [], h, _, _, _ => by unfold IsTs at h; exact h.elim
  | _ :: _, _ :: _, h, 0, _, _ => by unfold IsTs at h; exact h.1
  | _ :: _, _ :: _, h, k + 1, h1, h2 => by
    unfold IsTs at h
    exact IsTs.get h.2 k (by simpa using h1) (by simpa using h2)
theorem evS_append (vd : ByteArray → Bool) : ∀ (a b : List Tn), evS vd (a ++ b) = evS vd a ++ evS vd b
  | [], b => by simp [evS]
  | t :: a, b => by simp [evS, evS_append vd a b]
theorem evS_one (vd : ByteArray → Bool) (t : Tn) : evS vd [t] = evT vd t := by simp [evS]
def Tells (T : TypeId) (x : Value) (m : String) (args : Array Value) (w0 : World) (tot : List Ev) (J : List Ev → World → Prop) (ev : Ev) (r : Value) : Prop :=
  ∃ f y, (∀ w, (Go.method 500 T x m).run Tryz.prog w = .ok (f, y) w) ∧ (∀ w, (nilAhead 500 T x m).run Tryz.prog w = .ok (some false) w) ∧ (∀ args w, (callFunc f args).run Tryz.prog w = .ok (.enter f args) w) ∧
    ∀ pre W, Kept [] w0 W → J pre W → pre ++ [ev] <+: tot → Calls Tryz.prog f (#[y] ++ args) W fun e W' => e = .returned r ∧ J (pre ++ [ev]) W' ∧ Kept [] w0 W'
structure Vis (T : TypeId) (x : Value) (vd : ByteArray → Bool) (tot : List Ev) (w0 : World) (J : List Ev → World → Prop) : Prop where
  mono : ∀ pre W W', J pre W → Kept [] W W' → J pre W'
  dt : ∀ s, Tells T x "Doctype" #[.string s] w0 tot J (.dt s) (.tuple #[])
  cm : ∀ s, Tells T x "Comment" #[.string s] w0 tot J (.cm s) (.tuple #[])
  tx : ∀ s, Tells T x "Text" #[.string s] w0 tot J (.tx s) (.tuple #[])
  leave : ∀ s, Tells T x "Leave" #[.string s] w0 tot J (.leave s) (.tuple #[])
  enter : ∃ f y, (∀ w, (Go.method 500 T x "Enter").run Tryz.prog w = .ok (f, y) w) ∧ (∀ w, (nilAhead 500 T x "Enter").run Tryz.prog w = .ok (some false) w) ∧ (∀ args w, (callFunc f args).run Tryz.prog w = .ok (.enter f args) w) ∧
    ∀ pre W s av ats, Kept [] w0 W → J pre W → pre ++ [.enter s ats] <+: tot → AtrA W av ats → ats.length ≤ 4096 → Calls Tryz.prog f #[y, .string s, av] W fun e W' => e = .returned (.bool (!vd s)) ∧ J (pre ++ [.enter s ats]) W' ∧ Kept [] w0 W'
set_option maxRecDepth 100000 in
set_option maxHeartbeats 1000000 in
theorem textV {T : TypeId} {x : Value} {vd : ByteArray → Bool} {tot : List Ev} {w0 : World} {J : List Ev → World → Prop} (V : Vis T x vd tot w0 J) (k : Nat) (s : ByteArray) (pre : List Ev) (W : World) (hK : Kept [] w0 W) (hJ : J pre W) (hp : pre ++ [.tx s] <+: tot) (hb : W.heap[k]? = some (.cells #[.string s] 284 (0, 0))) :
    Calls Tryz.prog 445 #[.pointer (some ⟨k, 0, none⟩), .iface T x] W fun e W' => e = .returned (.tuple #[]) ∧ J (pre ++ [.tx s]) W' ∧ Kept [] w0 W' := by
  have hmf : ∀ (fn : Fn) (first cap : Array Value) (w : World), (Instr.makeFunc fn first cap).run Tryz.prog w = .ok (.func fn first cap) w := fun _ _ _ _ => rfl
  obtain ⟨f, y, hm, hna, hcf, hc⟩ := V.tx s
  have C := hide (fun q => hc pre (W.drewN q) (hK.drewN q) (V.mono _ _ _ hJ ((Kept.refl _ _).drewN q)) hp)
  have c0 : W.cell? ⟨k, 0, none⟩ = some (.string s) := by rw [cell_at hb]; rfl
  clear hc V hb hK hJ hp
  generalize hJJ : J (pre ++ [.tx s]) = J' at C ⊢
  clear hJJ
  go_enter Tryz.func445, Tryz.ntmps445
  go_wp2_with fail
  go_region_with (refine (C.out _).mono ?_; rintro e W1 ⟨rfl, h1, h2⟩)
  all_goals (try go_wp2)
  all_goals (go_end0; exact ⟨rfl, h1, h2⟩)
set_option maxRecDepth 100000 in
set_option maxHeartbeats 1000000 in
theorem commentV {T : TypeId} {x : Value} {vd : ByteArray → Bool} {tot : List Ev} {w0 : World} {J : List Ev → World → Prop} (V : Vis T x vd tot w0 J) (k : Nat) (s : ByteArray) (pre : List Ev) (W : World) (hK : Kept [] w0 W) (hJ : J pre W) (hp : pre ++ [.cm s] <+: tot) (hb : W.heap[k]? = some (.cells #[.string s] 239 (0, 0))) :
    Calls Tryz.prog 443 #[.pointer (some ⟨k, 0, none⟩), .iface T x] W fun e W' => e = .returned (.tuple #[]) ∧ J (pre ++ [.cm s]) W' ∧ Kept [] w0 W' := by
  have hmf : ∀ (fn : Fn) (first cap : Array Value) (w : World), (Instr.makeFunc fn first cap).run Tryz.prog w = .ok (.func fn first cap) w := fun _ _ _ _ => rfl
  obtain ⟨f, y, hm, hna, hcf, hc⟩ := V.cm s
  have C := hide (fun q => hc pre (W.drewN q) (hK.drewN q) (V.mono _ _ _ hJ ((Kept.refl _ _).drewN q)) hp)
  have c0 : W.cell? ⟨k, 0, none⟩ = some (.string s) := by rw [cell_at hb]; rfl
  clear hc V hb hK hJ hp
  generalize hJJ : J (pre ++ [.cm s]) = J' at C ⊢
  clear hJJ
  go_enter Tryz.func443, Tryz.ntmps443
  go_wp2_with fail
  go_region_with (refine (C.out _).mono ?_; rintro e W1 ⟨rfl, h1, h2⟩)
  all_goals (try go_wp2)
  all_goals (go_end0; exact ⟨rfl, h1, h2⟩)
set_option maxRecDepth 100000 in
set_option maxHeartbeats 1000000 in
theorem doctypeV {T : TypeId} {x : Value} {vd : ByteArray → Bool} {tot : List Ev} {w0 : World} {J : List Ev → World → Prop} (V : Vis T x vd tot w0 J) (k : Nat) (s : ByteArray) (pre : List Ev) (W : World) (hK : Kept [] w0 W) (hJ : J pre W) (hp : pre ++ [.dt s] <+: tot) (hb : W.heap[k]? = some (.cells #[.string s] 243 (0, 0))) :
    Calls Tryz.prog 444 #[.pointer (some ⟨k, 0, none⟩), .iface T x] W fun e W' => e = .returned (.tuple #[]) ∧ J (pre ++ [.dt s]) W' ∧ Kept [] w0 W' := by
  have hmf : ∀ (fn : Fn) (first cap : Array Value) (w : World), (Instr.makeFunc fn first cap).run Tryz.prog w = .ok (.func fn first cap) w := fun _ _ _ _ => rfl
  obtain ⟨f, y, hm, hna, hcf, hc⟩ := V.dt s
  have C := hide (fun q => hc pre (W.drewN q) (hK.drewN q) (V.mono _ _ _ hJ ((Kept.refl _ _).drewN q)) hp)
  have c0 : W.cell? ⟨k, 0, none⟩ = some (.string s) := by rw [cell_at hb]; rfl
  clear hc V hb hK hJ hp
  generalize hJJ : J (pre ++ [.dt s]) = J' at C ⊢
  clear hJJ
  go_enter Tryz.func444, Tryz.ntmps444
  go_wp2_with fail
  go_region_with (refine (C.out _).mono ?_; rintro e W1 ⟨rfl, h1, h2⟩)
  all_goals (try go_wp2)
  all_goals (go_end0; exact ⟨rfl, h1, h2⟩)
theorem info_atV : (Tryz.prog.info? 299).map (fun i => (i.zero, i.size, i.bytes)) = some (some (.agg #[.string ⟨#[]⟩, .string ⟨#[]⟩]), 2, 32) := by kernel_rfl
theorem flatA_length (L : List (ByteArray × ByteArray)) : (flatA L).length = L.length * 2 := by
  induction L with
  | nil => rfl
  | cons a L ih => simp [flatA] at ih ⊢; omega
set_option maxHeartbeats 1000000 in
theorem cloneV (v : Value) (L : List (ByteArray × ByteArray)) (w : World) (ho : AtrA w v L) (hL : L.length ≤ 4096) :
    Calls Tryz.prog 413 #[v] w fun e w' => ∃ v', e = .returned v' ∧ AtrA w' v' L ∧ Kept [] w w' := by
  obtain ⟨i0, hi, hz0, hz1, hz2⟩ := info_parts info_atV
  rcases ho.2 with ⟨rfl, h0⟩ | ⟨g, cap, cur, rfl, hbg, hg, _⟩
  · have hn := fun w => Lib.run_eql_slice_nil (P := Tryz.prog) w 137 299 none 0 0 0 0 Tryz.underlying137
    have : L = [] := List.eq_nil_of_length_eq_zero h0
    subst this
    clear ho
    go_enter Tryz.func413, Tryz.ntmps413
    go_wp2
    go_ret
    exact ⟨_, rfl, World.ownsRow_nil _ _ _ _, Kept.refl _ _⟩
  · have hn := fun w => Lib.run_eql_slice_nil (P := Tryz.prog) w 137 299 (some ⟨g, 0, none⟩) L.length cap 0 0 Tryz.underlying137
    have HO := hide ho
    have hlt := lt_of_block hg
    have hempty : (w.alloc (.cells #[] 299)).ownsRow w.heap.size 299 2 (.slice (some ⟨w.heap.size, 0, none⟩) 0 0) 0 [] :=
      ⟨rfl, .inr ⟨w.heap.size, 0, #[], rfl, Nat.le_refl _, heap_alloc_at w _, Nat.le_refl _, Nat.zero_le _, rfl, rfl⟩⟩
    have HE := hide hempty
    clear ho hempty
    go_enter Tryz.func413, Tryz.ntmps413
    go_wp2_with (at_builtin; refine wpList_append_ownF _ rfl _ _ 137 rfl w.heap.size 299 i0 (.agg #[.string ⟨#[]⟩, .string ⟨#[]⟩]) 2 32 Tryz.underlying137 hi hz0 hz1 hz2 rfl (by decide) _ _ _ rfl HE.out ⟨g, 0, none⟩ L.length cap (flatA L) rfl ?c1 ?c2 ?c3 ?c4 ?c5 ?c6 ?_)
    case c1 => exact flatA_length L
    case c2 =>
      intro j u hj
      have := HO.out.cells (g := g) rfl j u hj
      rw [addr_add] at this ⊢
      rw [← this]
      exact World.cell?_alloc_lt _ _ _ hlt
    case c3 =>
      intro u hu
      unfold flatA at hu
      simp at hu
      obtain ⟨p, q, _, h | h⟩ := hu <;> (subst h; rfl)
    case c4 => unfold maxLen; omega
    case c5 => omega
    case c6 => simp
    intro v' w3 ho3 hg3 hf3
    have h9 : w3.ownsRow w.heap.size 299 2 v' L.length (flatA L) := by simpa using ho3
    have h8 : AtrA w3 v' L := by
      refine ⟨h9.1, ?_⟩
      rcases h9.2 with e | ⟨g1, cap1, cur1, e, _, r⟩
      · exact .inl e
      · exact .inr ⟨g1, cap1, cur1, e, Nat.zero_le _, r⟩
    have HF := hide h8
    clear h9 h8
    have HK : Hid (Kept [] w w3) := ((Kept.refl [] w).alloc _).grown hg3 (fun x hx => .inr (HE.out.lt x hx).1)
    clear ho3 hg3 hf3
    go_wp2
    go_ret
    exact ⟨_, rfl, HF.out, HK.out⟩
end Go.Proofs.YtlhhgenpcjjajaaGreatDoor
namespace Go.Proofs.YtlhhgenpcjjajaaGreatDoor
open Go.RowKit
theorem AtrA.kept {w w' : World} {v : Value} {ats : List (ByteArray × ByteArray)} (h : AtrA w v ats) (hk : Kept [] w w') : AtrA w' v ats := by
  refine ⟨h.1, ?_⟩
  rcases h.2 with e | ⟨g, cap, cur, e, h1, hc, r⟩
  · exact .inl e
  · exact .inr ⟨g, cap, cur, e, h1, hk.at hc (by simp), r⟩
theorem El.kept0 {w w' : World} {k : Nat} {name : ByteArray} {av : Value} {par : Option Nat} {kv : Value} {ns : List Nd} (h : El 0 w k name av par kv ns) (hk : Kept [] w w') : El 0 w' k name av par kv ns := by
  refine ⟨hk.at h.blk (by simp), ⟨h.row.1, ?_⟩, h.le, h.avs⟩
  rcases h.row.2 with e | ⟨g, cap, cur, e, h1, hc, r⟩
  · exact .inl e
  · exact .inr ⟨g, cap, cur, e, h1, hk.at hc (by simp), r⟩
mutual
theorem IsTn.kept {w w' : World} (hk : Kept [] w w') : ∀ {t : Tn} {n : Nd}, IsTn w t n → IsTn w' t n
  | .el name ats ks, .el k, h => by
    unfold IsTn at h ⊢
    obtain ⟨av, par, kv, ns, h1, h2, h3, h4⟩ := h
    exact ⟨av, par, kv, ns, h1.kept0 hk, h2.kept hk, h3, IsTs.kept hk h4⟩
  | .tx _, .tx _, h => by unfold IsTn at h ⊢; exact hk.at h (by simp)
  | .cm _, .cm _, h => by unfold IsTn at h ⊢; exact hk.at h (by simp)
  | .dt _, .dt _, h => by unfold IsTn at h ⊢; exact hk.at h (by simp)
  | .el _ _ _, .tx _, h => by unfold IsTn at h; exact h.elim
  | .el _ _ _, .cm _, h => by unfold IsTn at h; exact h.elim
  | .el _ _ _, .dt _, h => by unfold IsTn at h; exact h.elim
  | .tx _, .el _, h => by unfold IsTn at h; exact h.elim
  | .tx _, .cm _, h => by unfold IsTn at h; exact h.elim
  | .tx _, .dt _, h => by unfold IsTn at h; exact h.elim
  | .cm _, .el _, h => by unfold IsTn at h; exact h.elim
  | .cm _, .tx _, h => by unfold IsTn at h; exact h.elim
  | .cm _, .dt _, h => by unfold IsTn at h; exact h.elim
  | .dt _, .el _, h => by unfold IsTn at h; exact h.elim
  | .dt _, .tx _, h => by unfold IsTn at h; exact h.elim
  | .dt _, .cm _, h => by unfold IsTn at h; exact h.elim
theorem IsTs.kept {w w' : World} (hk : Kept [] w w') : ∀ {ts : List Tn} {ns : List Nd}, IsTs w ts ns → IsTs w' ts ns
  | [], [], _ => by unfold IsTs; trivial
  | t :: ts, n :: ns, h => by
    unfold IsTs at h ⊢
    exact ⟨IsTn.kept hk h.1, IsTs.kept hk h.2⟩
  | [], _ :: _, h => by unfold IsTs at h; exact h.elim
  | _ :: _, [], h => by unfold IsTs at h; exact h.elim
end
section
variable {T : TypeId} {x : Value} {vd : ByteArray → Bool} {tot : List Ev} {w0 : World} {J : List Ev → World → Prop}
def visitF : Nd → Nat
  | .el _ => 412
  | .tx _ => 445
  | .cm _ => 443
  | .dt _ => 444
def Nd.bk : Nd → Nat
  | .el k => k
  | .tx k => k
  | .cm k => k
  | .dt k => k
def VisitOk (T : TypeId) (x : Value) (vd : ByteArray → Bool) (tot : List Ev) (w0 : World) (J : List Ev → World → Prop) (t : Tn) (n : Nd) : Prop :=
  ∀ pre W, Kept [] w0 W → J pre W → pre ++ evT vd t <+: tot →
    Calls Tryz.prog (visitF n) #[.pointer (some ⟨n.bk, 0, none⟩), .iface T x] W fun e W' => e = .returned (.tuple #[]) ∧ J (pre ++ evT vd t) W' ∧ Kept [] w0 W'
theorem nd_method (n : Nd) (w : World) : ∃ t y, n.val = .iface t y ∧ y = .pointer (some ⟨n.bk, 0, none⟩) ∧ (∀ w, (Go.method 500 t y "Visit").run Tryz.prog w = .ok (visitF n, y) w) := by
  cases n with
  | el k => exact ⟨_, _, rfl, rfl, fun w => by kernel_rfl⟩
  | tx k => exact ⟨_, _, rfl, rfl, fun w => by kernel_rfl⟩
  | cm k => exact ⟨_, _, rfl, rfl, fun w => by kernel_rfl⟩
  | dt k => exact ⟨_, _, rfl, rfl, fun w => by kernel_rfl⟩
theorem nd_enters (n : Nd) : ∀ args w, (callFunc (visitF n) args).run Tryz.prog w = .ok (.enter (visitF n) args) w := by
  cases n with
  | el k => exact enters_of Tryz.func412 (by kernel_rfl) rfl
  | tx k => exact enters_of Tryz.func445 (by kernel_rfl) rfl
  | cm k => exact enters_of Tryz.func443 (by kernel_rfl) rfl
  | dt k => exact enters_of Tryz.func444 (by kernel_rfl) rfl
theorem pre_of {a b c : List Ev} (h : a ++ (b ++ c) <+: tot) : a ++ b <+: tot := by
  obtain ⟨r, hr⟩ := h
  exact ⟨c ++ r, by rw [← hr]; simp⟩
set_option maxRecDepth 100000 in
set_option maxHeartbeats 1000000 in
theorem children_ok (V : Vis T x vd tot w0 J) (k : Nat) (name : ByteArray) (av : Value) (par : Option Nat) (kv : Value) (ts : List Tn) (ns : List Nd) (hl : ts.length = ns.length)
    (hE : El 0 w0 k name av par kv ns) (hv : ∀ i (h1 : i < ts.length) (h2 : i < ns.length), VisitOk T x vd tot w0 J ts[i] ns[i]) (pre : List Ev) (W : World) (hK : Kept [] w0 W) (hJ : J pre W) (hp : pre ++ evS vd ts <+: tot) :
    Calls Tryz.prog 42 #[.pointer (some ⟨k, 0, none⟩), .iface T x] W fun e W' => e = .returned (.tuple #[]) ∧ J (pre ++ evS vd ts) W' ∧ Kept [] w0 W' := by
  have c3 : W.cell? ⟨k, 3, none⟩ = some kv := by rw [cell_at (hE.kept0 hK).blk]; rfl
  have hle := hE.le
  obtain ⟨ao, cap, hkv⟩ := owns_shape hE.row
  have HE := hide hE
  have HV := hide hv
  have HP := hide hp
  have HJ := hide hJ
  have HK := hide hK
  have HL := hide hl
  obtain ⟨n, hn⟩ : ∃ n, n = ns.length := ⟨_, rfl⟩
  have HN := hide hn
  subst hkv
  rw [← hn] at c3 hle
  clear hE hv hp hJ hK hl hn
  go_enter Tryz.func42, Tryz.ntmps42
  go_wp2_with fail
  go_loopw [11] (fun v wr => ∃ i : Nat, v = .int .i64 i ∧ i ≤ n ∧ J (pre ++ evS vd (ts.take i)) wr ∧ Kept [] w0 wr) (fun v _ => n - (intOf v).toNat)
  case atStart => exact ⟨0, rfl, Nat.zero_le _, by simpa [evS] using HJ.out, HK.out⟩
  case round =>
    obtain ⟨i, rfl, hi, hj, hkw⟩ := hrel
    by_cases hlt : i < n
    · have h2 : i < ns.length := by rw [← HN.out]; exact hlt
      have h1 : i < ts.length := by rw [HL.out]; exact h2
      obtain ⟨t, y, hval, hy, hm⟩ := nd_method ns[i] wr
      have hcf := nd_enters ns[i]
      obtain ⟨g, hao⟩ : ∃ g, ao = some ⟨g, 0, none⟩ := by
        rcases HE.out.row.2 with ⟨e, h0⟩ | ⟨g, cap', cur, e, _⟩
        · omega
        · injection e with e1; exact ⟨g, e1⟩
      subst hao
      have hc : wr.cell? ⟨g, i, none⟩ = some (.iface t y) := by
        have := (HE.out.kept0 hkw).row.cells (g := g) rfl i ns[i].val (by simp [h2])
        rw [addr_add] at this
        rw [← hval]
        simpa using this
      have hstep : evS vd (ts.take (i + 1)) = evS vd (ts.take i) ++ evT vd ts[i] := by
        rw [List.take_add_one, List.getElem?_eq_getElem h1, evS_append]
        simp [evS_one]
      have hpre : pre ++ evS vd (ts.take (i + 1)) <+: tot := by
        refine pre_of (c := evS vd (ts.drop (i + 1))) ?_
        rw [← evS_append, List.take_append_drop]
        exact HP.out
      have C := hide (HV.out i h1 h2 _ wr hkw hj (by rw [List.append_assoc, ← hstep]; exact hpre))
      rw [List.append_assoc, ← hstep] at C
      rw [hy] at hc hm
      clear hval hy hpre hj hkw
      generalize visitF ns[i] = fv at *
      generalize ns[i].bk = kb at *
      generalize hZ : J (pre ++ evS vd (ts.take (i + 1))) = Z at C
      have HZ := hide hZ
      clear hZ hstep
      go_wp2_with fail
      refine C.out.mono ?_
      rintro e W2 ⟨rfl, hz, hk2⟩
      have HZ2 := hide hz
      have HK2 := hide hk2
      clear hz hk2
      go_wp2
      go_roundw
      case rel => exact ⟨i + 1, by go_num, by omega, by rw [HZ.out]; exact HZ2.out, HK2.out⟩
      case measure => simp [intOf]; omega
    · have he : ts.take i = ts := List.take_of_length_le (by rw [HL.out, ← HN.out]; omega)
      rw [he] at hj
      have HJ2 := hide hj
      have HK2 := hide hkw
      clear hj hkw he
      go_wp2
      go_end0
      exact ⟨rfl, HJ2.out, HK2.out⟩
set_option maxRecDepth 100000 in
set_option maxHeartbeats 2000000 in
theorem elementV (V : Vis T x vd tot w0 J) (k : Nat) (name : ByteArray) (ats : List (ByteArray × ByteArray)) (av : Value) (par : Option Nat) (kv : Value) (ts : List Tn) (ns : List Nd) (hl : ts.length = ns.length)
    (hE : El 0 w0 k name av par kv ns) (hA : AtrA w0 av ats) (hal : ats.length ≤ 4096) (hv : ∀ i (h1 : i < ts.length) (h2 : i < ns.length), VisitOk T x vd tot w0 J ts[i] ns[i]) : VisitOk T x vd tot w0 J (.el name ats ts) (.el k) := by
  intro pre W hK hJ hp
  show Calls Tryz.prog 412 #[.pointer (some ⟨k, 0, none⟩), .iface T x] W _
  have hmf : ∀ (fn : Fn) (first cap : Array Value) (w : World), (Instr.makeFunc fn first cap).run Tryz.prog w = .ok (.func fn first cap) w := fun _ _ _ _ => rfl
  have c0 : W.cell? ⟨k, 0, none⟩ = some (.string name) := by rw [cell_at (hE.kept0 hK).blk]; rfl
  have c1 : W.cell? ⟨k, 1, none⟩ = some av := by rw [cell_at (hE.kept0 hK).blk]; rfl
  have hp1 : pre ++ [.enter name ats] <+: tot := by
    unfold evT at hp
    exact pre_of (b := [.enter name ats]) (by simpa using hp)
  obtain ⟨f, y, hm, hna, hcf, hc⟩ := V.enter
  have C1 := hide (fun q => cloneV av ats (W.drewN q) ((hA.kept hK).kept ((Kept.refl _ _).drewN q)) hal)
  have C2 := hide (fun q W1 v1 (hk : Kept [] (W.drewN q) W1) (ha : AtrA W1 v1 ats) => hc pre W1 name v1 ats ((hK.drewN q).trans hk) (V.mono _ _ _ hJ (((Kept.refl _ _).drewN q).trans hk)) hp1 ha hal)
  obtain ⟨ao, n, cp, hav⟩ := hE.avs
  subst hav
  have HV := hide V
  have HE := hide hE
  have HW := hide hv
  have HP := hide hp
  have HL := hide hl
  have HKW := hide hK
  clear hc V hK hJ hp hp1 hA hal hE hv hl
  go_enter Tryz.func412, Tryz.ntmps412
  go_wp2_with fail
  go_cut [17] from 4 to 16 (fun r wc => r = .bool (!vd name) ∧ J (pre ++ [.enter name ats]) wc ∧ Kept [] w0 wc)
  case first =>
    go_region_with (first
      | (go_at_call 413; refine (C1.out _).mono ?_; rintro e W1 ⟨v1, rfl, ha1, hk1⟩; obtain ⟨ao1, cp1, hv1⟩ := owns_shape ha1; subst hv1; have HA1 := hide ha1; have HK1 := hide hk1; have c2 : W1.cell? ⟨k, 0, none⟩ = some (.string name) := (by rw [cell_at (HE.out.kept0 ((HKW.out.drewN _).trans hk1)).blk]; rfl); clear ha1 hk1)
      | (refine (C2.out _ _ _ HK1.out HA1.out).mono ?_; rintro e W2 ⟨rfl, hj2, hk2⟩; have HJ2 := hide hj2; have HK2 := hide hk2; clear hj2 hk2))
    all_goals (try (go_wp2_with fail))
    all_goals (go_meet; exact ⟨rfl, HJ2.out, HK2.out⟩)
  case rest =>
    obtain ⟨rfl, hj, hk⟩ := hcut
    clear C1 C2 hm hna hcf c0 c1
    cases hvd : vd name with
    | true =>
      have he : pre ++ evT vd (.el name ats ts) = pre ++ [.enter name ats] := by simp [evT, hvd]
      rw [← he] at hj
      have HJ := hide hj
      have HK := hide hk
      clear hj hk he
      rename_i K hK
      refine hK _ _ ?_
      clear hK
      simp only [Bool.not_true]
      go_wp2
      go_end0
      exact ⟨rfl, HJ.out, HK.out⟩
    | false =>
      have he : evT vd (.el name ats ts) = .enter name ats :: (evS vd ts ++ [.leave name]) := by simp [evT, hvd]
      have hp2 : (pre ++ [.enter name ats]) ++ evS vd ts <+: tot := pre_of (c := [.leave name]) (by have := HP.out; rw [he] at this; simpa using this)
      have hp3 : (pre ++ [.enter name ats] ++ evS vd ts) ++ [.leave name] <+: tot := by have := HP.out; rw [he] at this; simpa using this
      have e3 : pre ++ evT vd (.el name ats ts) = (pre ++ [.enter name ats] ++ evS vd ts) ++ [.leave name] := by rw [he]; simp
      have C3 := hide (children_ok HV.out k name _ par kv ts ns HL.out HE.out HW.out _ wc hk hj hp2)
      obtain ⟨f, y, hm, hna, hcf, hc⟩ := HV.out.leave name
      have C4 := hide (fun q W2 (hk2 : Kept [] w0 W2) (hj2 : J (pre ++ [.enter name ats] ++ evS vd ts) W2) => hc _ (W2.drewN q) (hk2.drewN q) (HV.out.mono _ _ _ hj2 ((Kept.refl _ _).drewN q)) hp3)
      rw [← e3] at C4
      clear hp2 hp3 he e3 hj hk hc
      generalize hJJ : J (pre ++ [.enter name ats] ++ evS vd ts) = J1 at C3 C4
      clear hJJ
      rename_i K hK
      refine hK _ _ ?_
      clear hK
      simp only [Bool.not_false]
      go_wp2_with fail
      refine C3.out.mono ?_
      rintro e W2 ⟨rfl, hj2, hk2⟩
      have c0 : W2.cell? ⟨k, 0, none⟩ = some (.string name) := by rw [cell_at (HE.out.kept0 hk2).blk]; rfl
      have HJ2 := hide hj2
      have HK2 := hide hk2
      clear hj2 hk2
      go_wp2_with fail
      go_region_with (refine (C4.out _ _ HK2.out HJ2.out).mono ?_; rintro e W3 ⟨rfl, hj3, hk3⟩)
      all_goals (try go_wp2)
      all_goals (go_end0; exact ⟨rfl, hj3, hk3⟩)
end
end Go.Proofs.YtlhhgenpcjjajaaGreatDoor
namespace Go.Proofs.YtlhhgenpcjjajaaGreatDoor
open Go.RowKit
section
variable {T : TypeId} {x : Value} {vd : ByteArray → Bool} {tot : List Ev} {w0 : World} {J : List Ev → World → Prop}
theorem visit_ok (V : Vis T x vd tot w0 J) : ∀ (t : Tn) (n : Nd), IsTn w0 t n → VisitOk T x vd tot w0 J t n
  | .el name ats ks, .el k, h => by
    unfold IsTn at h
    obtain ⟨av, par, kv, ns, h1, h2, h3, h4⟩ := h
    exact elementV V k name ats av par kv ks ns h4.len h1 h2 h3 (fun i i1 i2 => visit_ok V ks[i] ns[i] (h4.get i i1 i2))
  | .tx s, .tx k, h => by
    unfold IsTn at h
    intro pre W hK hJ hp
    unfold evT at hp ⊢
    exact textV V k s pre W hK hJ hp (hK.at h (by simp))
  | .cm s, .cm k, h => by
    unfold IsTn at h
    intro pre W hK hJ hp
    unfold evT at hp ⊢
    exact commentV V k s pre W hK hJ hp (hK.at h (by simp))
  | .dt s, .dt k, h => by
    unfold IsTn at h
    intro pre W hK hJ hp
    unfold evT at hp ⊢
    exact doctypeV V k s pre W hK hJ hp (hK.at h (by simp))
  | .el _ _ _, .tx _, h => by unfold IsTn at h; exact h.elim
  | .el _ _ _, .cm _, h => by unfold IsTn at h; exact h.elim
  | .el _ _ _, .dt _, h => by unfold IsTn at h; exact h.elim
  | .tx _, .el _, h => by unfold IsTn at h; exact h.elim
  | .tx _, .cm _, h => by unfold IsTn at h; exact h.elim
  | .tx _, .dt _, h => by unfold IsTn at h; exact h.elim
  | .cm _, .el _, h => by unfold IsTn at h; exact h.elim
  | .cm _, .tx _, h => by unfold IsTn at h; exact h.elim
  | .cm _, .dt _, h => by unfold IsTn at h; exact h.elim
  | .dt _, .el _, h => by unfold IsTn at h; exact h.elim
  | .dt _, .tx _, h => by unfold IsTn at h; exact h.elim
  | .dt _, .cm _, h => by unfold IsTn at h; exact h.elim
  termination_by t => SizeOf.sizeOf t
  decreasing_by
    have := List.sizeOf_lt_of_mem (List.getElem_mem i1)
    simp
    omega
theorem visitChildren_ok (V : Vis T x vd tot w0 J) (k : Nat) (name : ByteArray) (ats : List (ByteArray × ByteArray)) (ts : List Tn) (h : IsTn w0 (.el name ats ts) (.el k)) (ht : evS vd ts = tot) (W : World) (hK : Kept [] w0 W) (hJ : J [] W) :
    Calls Tryz.prog 42 #[.pointer (some ⟨k, 0, none⟩), .iface T x] W fun e W' => e = .returned (.tuple #[]) ∧ J tot W' ∧ Kept [] w0 W' := by
  unfold IsTn at h
  obtain ⟨av, par, kv, ns, h1, h2, h3, h4⟩ := h
  have := children_ok V k name av par kv ts ns h4.len h1 (fun i i1 i2 => visit_ok V ts[i] ns[i] (h4.get i i1 i2)) [] W hK hJ (by rw [ht]; exact ⟨[], by simp⟩)
  rw [List.nil_append, ht] at this
  exact this
end
end Go.Proofs.YtlhhgenpcjjajaaGreatDoor
