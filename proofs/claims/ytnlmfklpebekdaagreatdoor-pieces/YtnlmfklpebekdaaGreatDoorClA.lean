import Derived.Test.YtnlmfklpebekdaaGreatDoorReB
set_option linter.unusedSimpArgs false
set_option linter.unusedVariables false
namespace Go.Proofs.YtnlmfklpebekdaaGreatDoor
open Go.RowKit Go.PlainAid

/-- The parser that is closed. -/
def dcells (a : Int) (en : Int) (ev sv : Value) : Array Value := #[.int .i64 a, .slice none 0 0, .bool true, .int .i64 en, ev, sv]
def MaxL (w : World) : Prop := (∃ m, w.cell? ⟨1, 0, none⟩ = some (.int .i64 m)) ∧ 1 < w.heap.size
def ClosePost (w : World) (bx : Nat) (a : Int) (s : ByteArray) (e : Ending) (w' : World) : ROut → Prop
  | .stop at_ => ∃ k, e = .returned (.iface 68 (.pointer (some ⟨k, 0, none⟩))) ∧ stopAt w' k 7 at_ ∧ w'.heap[bx]? = some (.cells (dcells a at_ (.iface 68 (.pointer (some ⟨k, 0, none⟩))) (.slice none 0 0)) 65 (0, 0)) ∧ Kept [bx] w w'
  | .done L => e = .returned .nilIface ∧ ∃ v, w'.heap[bx]? = some (.cells (dcells a s.size .nilIface v) 65 (0, 0)) ∧ w'.ownsRow w.heap.size 52 3 v L.length (scells L) ∧ Kept [bx] w w'

theorem ReadPost.undrew {w w' : World} {q : Nat} {e : Ending} {O : ROut} (h : ReadPost (w.drewN q) e w' O) : ReadPost w e w' O := by
  cases O with
  | stop a => obtain ⟨k, h1, h2, h3, h4⟩ := h; exact ⟨k, h1, h2, h3, ⟨h4.os, h4.tape, h4.output, h4.size, h4.block⟩⟩
  | done L => obtain ⟨v, h1, h2, h4⟩ := h; exact ⟨v, h1, h2, ⟨h4.os, h4.tape, h4.output, h4.size, h4.block⟩⟩

theorem read_text2 (s : ByteArray) (tv : Value) (base : Nat) (lim : Int) (w : World) (ho : w.ownsRow base 5 1 tv s.size (bcells s)) (hs : s.size ≤ 1024) (hg : MaxL w) :
    Calls Tryz.prog 29 #[tv, .int .i64 lim] w fun e w' => ∃ v3 v4, e = .returned (.tuple #[v3, v4]) ∧ ∃ av b, ReadPost w (.returned (.tuple #[v3, v4])) w' (readGo (rcOf s lim av b) (lookL KV) 8 (cutOf s) [] 0) := by
  refine (read_text s tv base lim w ho hs hg).mono ?_
  rintro e w' ⟨av, b, h⟩
  cases hO : readGo (rcOf s lim av b) (lookL KV) 8 (cutOf s) [] 0 with
  | stop at_ =>
    rw [hO] at h
    obtain ⟨k, rfl, h1, h2, h3⟩ := h
    exact ⟨_, _, rfl, av, b, by rw [hO]; exact ⟨k, rfl, h1, h2, h3⟩⟩
  | done L =>
    rw [hO] at h
    obtain ⟨v, rfl, h1, h2⟩ := h
    exact ⟨_, _, rfl, av, b, by rw [hO]; exact ⟨v, rfl, h1, h2⟩⟩

set_option maxRecDepth 100000 in
set_option maxHeartbeats 4000000 in
theorem xclose (bx : Nat) (a : Int) (tv : Value) (s : ByteArray) (base : Nat) (w : World) (hx : w.heap[bx]? = some (.cells (xcells a tv) 65 (0, 0)))
    (ho : w.ownsRow base 5 1 tv s.size (bcells s)) (hs : s.size ≤ 1024) (hg : MaxL w) :
    Calls Tryz.prog 22 #[.pointer (some ⟨bx, 0, none⟩)] w fun e w' => ∃ av b, ClosePost w bx a s e w' (readGo (rcOf s a av b) (lookL KV) 8 (cutOf s) [] 0) := by
  obtain ⟨ao, cp, htv⟩ := owns_shape ho
  subst htv
  have hbx := lt_of_block hx
  have c0 : w.cell? ⟨bx, 0, none⟩ = some (.int .i64 a) := by rw [cell_at hx]; rfl
  have c1 : w.cell? ⟨bx, 1, none⟩ = some (.slice ao s.size cp) := by rw [cell_at hx]; rfl
  have CI := hide (isClosed_no bx a _ w hx)
  have CR := hide (fun q => read_text2 s (.slice ao s.size cp) base a (w.drewN q) ho hs hg)
  have HX := hide hx
  clear hx ho hg
  go_enter Tryz.func22, Tryz.ntmps22
  go_wp2_with fail
  refine CI.out.mono ?_
  rintro e w1 ⟨rfl, rfl⟩
  go_wp2_with fail
  go_cut [3, 4] from 9 to 19 (fun v3 v4 wc => ∃ av b, ReadPost w1 (.returned (.tuple #[v3, v4])) wc (readGo (rcOf s a av b) (lookL KV) 8 (cutOf s) [] 0))
  case first =>
    go_region_with (go_at_call 29; refine (CR.out _).mono ?_; rintro e w2 ⟨v3, v4, rfl, hpost⟩)
    all_goals (try (go_wp2_with fail))
    all_goals (go_meet; obtain ⟨av, b, hpost⟩ := hpost; exact ⟨av, b, hpost.undrew⟩)
  case rest =>
    obtain ⟨av, b, hpost⟩ := hcut
    clear CR CI c0 c1
    cases hO : readGo (rcOf s a av b) (lookL KV) 8 (cutOf s) [] 0 with
    | stop at_ =>
      rw [hO] at hpost
      obtain ⟨k, he, hst, hkk, hk⟩ := hpost
      simp only [Ending.returned.injEq, Value.tuple.injEq, Array.mk.injEq, List.cons.injEq, and_true] at he
      obtain ⟨rfl, rfl⟩ := he
      have hx2 := hk.at HX.out (by simp)
      have e1 : wc.cell? ⟨bx, 1, none⟩ = some (.slice ao s.size cp) := by rw [cell_at hx2]; rfl
      have e2 : wc.cell? ⟨bx, 2, none⟩ = some (.bool false) := by rw [cell_at hx2]; rfl
      have e3 : wc.cell? ⟨bx, 3, none⟩ = some (.int .i64 0) := by rw [cell_at hx2]; rfl
      have e4 : wc.cell? ⟨bx, 4, none⟩ = some .nilIface := by rw [cell_at hx2]; rfl
      have e5 : wc.cell? ⟨bx, 5, none⟩ = some (.slice none 0 0) := by rw [cell_at hx2]; rfl
      have f1 := free_at hx2 1
      have f2 := free_at hx2 2
      have f3 := free_at hx2 3
      have f4 := free_at hx2 4
      have f5 := free_at hx2 5
      have s1 : wc.cell? ⟨k, 1, none⟩ = some (.int .i64 (at_ : Int)) := by rw [cell_at hst]; rfl
      have hkb : k ≠ bx := by omega
      have hbk : bx ≠ k := by omega
      have HF : Hid (ClosePost w1 bx a s (.returned (.iface 68 (.pointer (some ⟨k, 0, none⟩)))) ((((((wc.setCell ⟨bx, 2, none⟩ (.bool true)).setCell ⟨bx, 3, none⟩ (.int .i64 (s.size : Int))).setCell ⟨bx, 5, none⟩ (.slice none 0 0)).setCell ⟨bx, 3, none⟩ (.int .i64 (at_ : Int))).setCell ⟨bx, 4, none⟩ (.iface 68 (.pointer (some ⟨k, 0, none⟩)))).setCell ⟨bx, 1, none⟩ (.slice none 0 0)) (readGo (rcOf s a av b) (lookL KV) 8 (cutOf s) [] 0)) := by
        rw [hO]
        refine ⟨k, rfl, ?_, block_setCell (block_setCell (block_setCell (block_setCell (block_setCell (block_setCell hx2 2 _) 3 _) 5 _) 3 _) 4 _) 1 _, ?_⟩
        · unfold stopAt
          rw [Below.heap_setCell _ _ _ k hkb, Below.heap_setCell _ _ _ k hkb, Below.heap_setCell _ _ _ k hkb, Below.heap_setCell _ _ _ k hkb, Below.heap_setCell _ _ _ k hkb, Below.heap_setCell _ _ _ k hkb]; exact hst
        · have m : bx ∈ [bx] ∨ w1.heap.size ≤ bx := .inl (by simp)
          exact ((((((hk.mono (S' := [bx]) (by simp)).setCell m _).setCell m _).setCell m _).setCell m _).setCell m _).setCell m _
      clear hx2 hst hk hO
      go_wp2
      go_ret
      exact ⟨av, b, HF.out⟩
    | done L =>
      rw [hO] at hpost
      obtain ⟨v, he, how, hk⟩ := hpost
      simp only [Ending.returned.injEq, Value.tuple.injEq, Array.mk.injEq, List.cons.injEq, and_true] at he
      obtain ⟨rfl, rfl⟩ := he
      obtain ⟨ax, ac, hv⟩ := owns_shape how
      subst hv
      have hx2 := hk.at HX.out (by simp)
      have e1 : wc.cell? ⟨bx, 1, none⟩ = some (.slice ao s.size cp) := by rw [cell_at hx2]; rfl
      have e2 : wc.cell? ⟨bx, 2, none⟩ = some (.bool false) := by rw [cell_at hx2]; rfl
      have e3 : wc.cell? ⟨bx, 3, none⟩ = some (.int .i64 0) := by rw [cell_at hx2]; rfl
      have e4 : wc.cell? ⟨bx, 4, none⟩ = some .nilIface := by rw [cell_at hx2]; rfl
      have e5 : wc.cell? ⟨bx, 5, none⟩ = some (.slice none 0 0) := by rw [cell_at hx2]; rfl
      have f1 := free_at hx2 1
      have f2 := free_at hx2 2
      have f3 := free_at hx2 3
      have f5 := free_at hx2 5
      have HF : Hid (ClosePost w1 bx a s (.returned .nilIface) ((((wc.setCell ⟨bx, 2, none⟩ (.bool true)).setCell ⟨bx, 3, none⟩ (.int .i64 (s.size : Int))).setCell ⟨bx, 5, none⟩ (.slice ax L.length ac)).setCell ⟨bx, 1, none⟩ (.slice none 0 0)) (readGo (rcOf s a av b) (lookL KV) 8 (cutOf s) [] 0)) := by
        rw [hO]
        have hne : (Value.slice ax L.length ac).ownBlock ≠ some bx := fun h => by have := (how.lt bx h).1; omega
        refine ⟨rfl, _, block_setCell (block_setCell (block_setCell (block_setCell hx2 2 _) 3 _) 5 _) 1 _, ?_, ?_⟩
        · exact ownsRow_setCell_other (ownsRow_setCell_other (ownsRow_setCell_other (ownsRow_setCell_other how hne _) hne _) hne _) hne _
        · have m : bx ∈ [bx] ∨ w1.heap.size ≤ bx := .inl (by simp)
          exact ((((hk.mono (S' := [bx]) (by simp)).setCell m _).setCell m _).setCell m _).setCell m _
      clear hx2 how hk hO
      go_wp2
      go_ret
      exact ⟨av, b, HF.out⟩
end Go.Proofs.YtnlmfklpebekdaaGreatDoor
