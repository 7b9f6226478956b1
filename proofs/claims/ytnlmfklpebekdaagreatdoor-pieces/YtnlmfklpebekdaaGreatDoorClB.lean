import Derived.Test.YtnlmfklpebekdaaGreatDoorClA
import Derived.Test.YtnlmfklpebekdaaGreatDoorToldS
import Derived.Lib.SliceRun
set_option linter.unusedSimpArgs false
set_option linter.unusedVariables false
namespace Go.Proofs.YtnlmfklpebekdaaGreatDoor
open Go.RowKit Go.PlainAid

theorem xlist (p : Value) (w : World) : Calls Tryz.prog 14 #[p] w fun e w' => e = .returned (.slice none 0 0) ∧ w' = w := by
  go_enter Tryz.func14, Tryz.ntmps14
  go_wp2
  go_ret
  exact ⟨rfl, rfl⟩
theorem xtext (p : Value) (w : World) : Calls Tryz.prog 15 #[p] w fun e w' => e = .returned (.string ⟨#[]⟩) ∧ w' = w := by
  go_enter Tryz.func15, Tryz.ntmps15
  go_wp2
  go_ret
  exact ⟨rfl, rfl⟩
set_option maxRecDepth 100000 in
set_option maxHeartbeats 1000000 in
/-- A list of spans, cloned. -/
theorem clone_any (base : Nat) (v : Value) (L : List Sp) (w : World) (ho : w.ownsRow base 52 3 v L.length (scells L)) (hL : L.length ≤ 4096) :
    Calls Tryz.prog 24 #[v] w fun e w' => ∃ v', e = .returned v' ∧ w'.ownsRow w.heap.size 52 3 v' L.length (scells L) ∧ Kept [] w w' := by
  obtain ⟨i0, hi, hz0, hz1, hz2⟩ := info_parts info_span
  rcases ho.2 with ⟨rfl, h0⟩ | ⟨g, cap, cur, rfl, hbg, hg, _⟩
  · have hn := fun w => Lib.run_eql_slice_nil (P := Tryz.prog) w 26 52 none 0 0 0 0 Tryz.underlying26
    have : L = [] := List.eq_nil_of_length_eq_zero h0
    subst this
    clear ho
    go_enter Tryz.func24, Tryz.ntmps24
    go_wp2
    go_ret
    exact ⟨_, rfl, World.ownsRow_nil _ _ _ _, Kept.refl _ _⟩
  · have hn := fun w => Lib.run_eql_slice_nil (P := Tryz.prog) w 26 52 (some ⟨g, 0, none⟩) L.length cap 0 0 Tryz.underlying26
    have HO := hide ho
    have hlt := lt_of_block hg
    have hempty : (w.alloc (.cells #[] 52)).ownsRow w.heap.size 52 3 (.slice (some ⟨w.heap.size, 0, none⟩) 0 0) 0 [] :=
      ⟨rfl, .inr ⟨w.heap.size, 0, #[], rfl, Nat.le_refl _, heap_alloc_at w _, Nat.le_refl _, Nat.zero_le _, rfl, rfl⟩⟩
    have HE := hide hempty
    clear ho hempty
    go_enter Tryz.func24, Tryz.ntmps24
    go_wp2_with (at_builtin; refine wpList_append_ownF _ rfl _ _ 26 rfl w.heap.size 52 i0 (.agg #[.int .i64 0, .int .i64 0, .int .i64 0]) 3 24 Tryz.underlying26 hi hz0 hz1 hz2 rfl (by decide) _ _ _ rfl HE.out ⟨g, 0, none⟩ L.length cap (scells L) rfl ?c1 ?c2 ?c3 ?c4 ?c5 ?c6 ?_)
    case c1 => exact scells_length L
    case c2 =>
      intro j u hj
      have := HO.out.cells (g := g) rfl j u hj
      rw [addr_add] at this ⊢
      rw [← this]
      exact World.cell?_alloc_lt _ _ _ hlt
    case c3 =>
      intro u hu
      unfold scells at hu
      simp at hu
      obtain ⟨p, _, h | h | h⟩ := hu <;> (subst h; rfl)
    case c4 => unfold maxLen; omega
    case c5 => omega
    case c6 => simp
    intro v' w3 ho3 hg3 hf3
    have h9 : w3.ownsRow w.heap.size 52 3 v' L.length (scells L) := by simpa using ho3
    have HF := hide h9
    clear h9
    have HK : Hid (Kept [] w w3) := ((Kept.refl [] w).alloc _).grown hg3 (fun x hx => .inr (HE.out.lt x hx).1)
    clear ho3 hg3 hf3
    go_wp2
    go_ret
    exact ⟨_, rfl, HF.out, HK.out⟩

set_option maxHeartbeats 400000 in
theorem xtrail_done (bx : Nat) (a en : Int) (ev v : Value) (base : Nat) (L : List Sp) (w : World) (hx : w.heap[bx]? = some (.cells (dcells a en ev v) 65 (0, 0))) (ho : w.ownsRow base 52 3 v L.length (scells L)) (hL : L.length ≤ 4096) :
    Calls Tryz.prog 16 #[.pointer (some ⟨bx, 0, none⟩)] w fun e w' => ∃ v', e = .returned v' ∧ w'.ownsRow w.heap.size 52 3 v' L.length (scells L) ∧ Kept [] w w' := by
  have c5 : w.cell? ⟨bx, 5, none⟩ = some v := by rw [cell_at hx]; rfl
  have C := hide (clone_any base v L w ho hL)
  obtain ⟨ao, cp, hv⟩ := owns_shape ho
  subst hv
  clear hx ho
  go_enter Tryz.func16, Tryz.ntmps16
  go_wp2_with fail
  refine C.out.mono ?_
  rintro e w' ⟨v', rfl, h1, h2⟩
  have H1 := hide h1
  have H2 := hide h2
  clear h1 h2
  go_wp2
  go_ret
  exact ⟨_, rfl, H1.out, H2.out⟩
set_option maxHeartbeats 400000 in
theorem xstop_done (bx : Nat) (a en : Int) (ev v : Value) (w : World) (hx : w.heap[bx]? = some (.cells (dcells a en ev v) 65 (0, 0))) :
    Calls Tryz.prog 23 #[.pointer (some ⟨bx, 0, none⟩)] w fun e w' => e = .returned (.tuple #[.int .i64 en, ev]) ∧ Kept [] w w' := by
  have c2 : w.cell? ⟨bx, 2, none⟩ = some (.bool true) := by rw [cell_at hx]; rfl
  have c3 : w.cell? ⟨bx, 3, none⟩ = some (.int .i64 en) := by rw [cell_at hx]; rfl
  have c4 : w.cell? ⟨bx, 4, none⟩ = some ev := by rw [cell_at hx]; rfl
  clear hx
  go_enter Tryz.func23, Tryz.ntmps23
  go_wp2_with fail
  go_region
  all_goals (try go_wp2)
  all_goals (try go_ret2)
  all_goals exact ⟨rfl, (Kept.refl [] w).drew⟩
theorem MaxL.kept {S : List Nat} {w w' : World} (h : MaxL w) (hk : Kept S w w') (hs : 1 ∉ S) : MaxL w' := by
  obtain ⟨⟨m, h1⟩, h2⟩ := h
  exact ⟨⟨m, (hk.cell (p := ⟨1, 0, none⟩) h2 hs).trans h1⟩, Nat.lt_of_lt_of_le h2 hk.size⟩
theorem errorType.kept {S : List Nat} {w w' : World} (h : errorType w) (hk : Kept S w w') (hs : 0 ∉ S) : errorType w' := by
  have h2 : 0 < w.heap.size := by
    rcases Nat.lt_or_ge 0 w.heap.size with h' | h'
    · exact h'
    · unfold errorType at h; simp [World.cell?, Array.getElem?_eq_none h'] at h
  exact (hk.cell (p := ⟨0, 0, none⟩) h2 hs).trans h

/-- What Close and Stop tell, plainly. -/
def PClosePost (w : World) (bx : Nat) (a : Int) (s : ByteArray) (e : Ending) (w' : World) : ROut → Prop
  | .stop at_ => ∃ k, e = .returned (.tuple #[.int .i64 7, .int .i64 at_]) ∧ stopAt w' k 7 at_ ∧ w'.heap[bx]? = some (.cells (dcells a at_ (.iface 68 (.pointer (some ⟨k, 0, none⟩))) (.slice none 0 0)) 65 (0, 0)) ∧ Kept [bx] w w'
  | .done L => e = .returned (.tuple #[.int .i64 0, .int .i64 0]) ∧ ∃ v, w'.heap[bx]? = some (.cells (dcells a s.size .nilIface v) 65 (0, 0)) ∧ w'.ownsRow w.heap.size 52 3 v L.length (scells L) ∧ Kept [bx] w w'

set_option maxHeartbeats 1000000 in
theorem pclose (bx : Nat) (a : Int) (tv : Value) (s : ByteArray) (base : Nat) (w : World) (hx : w.heap[bx]? = some (.cells (xcells a tv) 65 (0, 0)))
    (ho : w.ownsRow base 5 1 tv s.size (bcells s)) (hs : s.size ≤ 1024) (hg : MaxL w) (he : errorType w) (hb : 0 ≠ bx) :
    Calls Tryz.prog 12 #[.pointer (some ⟨bx, 0, none⟩)] w fun e w' => ∃ av b, PClosePost w bx a s e w' (readGo (rcOf s a av b) (lookL KV) 8 (cutOf s) [] 0) := by
  have C := hide (xclose bx a tv s base w hx ho hs hg)
  have HE := hide he
  clear hx ho hg he
  go_enter Tryz.func12, Tryz.ntmps12
  go_wp2_with fail
  refine C.out.mono ?_
  rintro e w1 ⟨av, b, hpost⟩
  cases hO : readGo (rcOf s a av b) (lookL KV) 8 (cutOf s) [] 0 with
  | stop at_ =>
    rw [hO] at hpost
    obtain ⟨k, rfl, hst, hx1, hk1⟩ := hpost
    have CT := hide (told_stop k at_ 7 w1 hst (HE.out.kept hk1 (by simpa using hb)))
    have H := hide (And.intro hst (And.intro hx1 hk1))
    clear hst hx1 hk1
    go_wp2_with fail
    refine CT.out.mono ?_
    rintro e w2 ⟨rfl, hk2⟩
    have HF : Hid (PClosePost w bx a s (.returned (.tuple #[.int .i64 7, .int .i64 at_])) w2 (readGo (rcOf s a av b) (lookL KV) 8 (cutOf s) [] 0)) := by
      obtain ⟨h1, h2, h3⟩ := H.out
      rw [hO]
      exact ⟨k, rfl, hk2.at h1 (by simp), hk2.at h2 (by simp), h3.trans (hk2.mono (by simp))⟩
    clear hk2 hO
    go_wp2
    go_ret2
    exact ⟨av, b, HF.out⟩
  | done L =>
    rw [hO] at hpost
    obtain ⟨rfl, v, hx1, how, hk1⟩ := hpost
    have H := hide (And.intro how (And.intro hx1 hk1))
    clear how hx1 hk1
    go_wp2_with fail
    refine (told_nil _).mono ?_
    rintro e w2 ⟨rfl, hk2⟩
    have HF : Hid (PClosePost w bx a s (.returned (.tuple #[.int .i64 0, .int .i64 0])) w2 (readGo (rcOf s a av b) (lookL KV) 8 (cutOf s) [] 0)) := by
      obtain ⟨h1, h2, h3⟩ := H.out
      rw [hO]
      exact ⟨rfl, v, hk2.at h2 (by simp), hk2.ownsRow h1 (fun _ _ => by simp), h3.trans (hk2.mono (by simp))⟩
    clear hk2 hO
    go_wp2
    go_ret2
    exact ⟨av, b, HF.out⟩
set_option maxHeartbeats 1000000 in
theorem pstop_stop (bx k : Nat) (a at_ : Int) (v : Value) (w : World) (hx : w.heap[bx]? = some (.cells (dcells a at_ (.iface 68 (.pointer (some ⟨k, 0, none⟩))) v) 65 (0, 0))) (hst : stopAt w k 7 at_) (he : errorType w) :
    Calls Tryz.prog 13 #[.pointer (some ⟨bx, 0, none⟩)] w fun e w' => e = .returned (.tuple #[.int .i64 at_, .int .i64 7, .int .i64 at_]) ∧ Kept [] w w' := by
  have C := hide (xstop_done bx a at_ _ v w hx)
  have HE := hide he
  have HS := hide hst
  clear hx hst he
  go_enter Tryz.func13, Tryz.ntmps13
  go_wp2_with fail
  refine C.out.mono ?_
  rintro e w1 ⟨rfl, hk1⟩
  have CT := hide (told_stop k at_ 7 w1 (hk1.at HS.out (by simp)) (HE.out.kept hk1 (by simp)))
  have HK := hide hk1
  clear hk1
  go_wp2_with fail
  refine CT.out.mono ?_
  rintro e w2 ⟨rfl, hk2⟩
  have HK2 := hide (HK.out.trans hk2)
  clear hk2
  go_wp2
  go_ret3
  exact ⟨rfl, HK2.out⟩
set_option maxHeartbeats 1000000 in
theorem pstop_done (bx : Nat) (a en : Int) (v : Value) (w : World) (hx : w.heap[bx]? = some (.cells (dcells a en .nilIface v) 65 (0, 0))) :
    Calls Tryz.prog 13 #[.pointer (some ⟨bx, 0, none⟩)] w fun e w' => e = .returned (.tuple #[.int .i64 en, .int .i64 0, .int .i64 0]) ∧ Kept [] w w' := by
  have C := hide (xstop_done bx a en _ v w hx)
  clear hx
  go_enter Tryz.func13, Tryz.ntmps13
  go_wp2_with fail
  refine C.out.mono ?_
  rintro e w1 ⟨rfl, hk1⟩
  have HK := hide hk1
  clear hk1
  go_wp2_with fail
  refine (told_nil _).mono ?_
  rintro e w2 ⟨rfl, hk2⟩
  have HK2 := hide (HK.out.trans hk2)
  clear hk2
  go_wp2
  go_ret3
  exact ⟨rfl, HK2.out⟩
end Go.Proofs.YtnlmfklpebekdaaGreatDoor
