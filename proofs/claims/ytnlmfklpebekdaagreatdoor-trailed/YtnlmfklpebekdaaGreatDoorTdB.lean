import Derived.Test.YtnlmfklpebekdaaGreatDoorTdA
import Derived.Test.YtnlmfklpebekdaaGreatDoorTdA2
set_option linter.unusedSimpArgs false
set_option linter.unusedVariables false
namespace Go.Proofs.YtnlmfklpebekdaaGreatDoor
open Go.RowKit Go.PlainAid

theorem span_row {w : World} {base g cap : Nat} {L : List Sp} (ho : w.ownsRow base 52 3 (.slice (some ⟨g, 0, none⟩) L.length cap) L.length (scells L)) : SpanRow w g 0 L.length (spAt L) := by
  have key : ∀ (L : List Sp) (i k : Nat), i < L.length → k < 3 → (scells L)[i * 3 + k]? = [Value.int .i64 (spAt L i).k, .int .i64 (spAt L i).a, .int .i64 (spAt L i).b][k]? := by
    intro L
    induction L with
    | nil => intro i k h; simp at h
    | cons p L ih =>
      intro i k hi hk
      show (Value.int .i64 p.k :: .int .i64 p.a :: .int .i64 p.b :: scells L)[i * 3 + k]? = _
      cases i with
      | zero =>
        have e : spAt (p :: L) 0 = p := rfl
        rw [e, Nat.zero_mul, Nat.zero_add]
        match k, hk with
        | 0, _ => rfl
        | 1, _ => rfl
        | 2, _ => rfl
      | succ i =>
        have e : spAt (p :: L) (i + 1) = spAt L i := by unfold spAt; simp
        rw [e, show (i + 1) * 3 + k = (i * 3 + k) + 1 + 1 + 1 by omega]
        simp only [List.getElem?_cons_succ]
        exact ih i k (by simpa using hi) hk
  have c : ∀ i k, i < L.length → k < 3 → w.cell? ⟨g, i * 3 + k, none⟩ = [Value.int .i64 (spAt L i).k, .int .i64 (spAt L i).a, .int .i64 (spAt L i).b][k]? := by
    intro i k hi hk
    match k, hk with
    | 0, hk => have := ho.cells (g := g) rfl (i * 3 + 0) _ (key L i 0 hi hk); rw [addr_add] at this; exact this
    | 1, hk => have := ho.cells (g := g) rfl (i * 3 + 1) _ (key L i 1 hi hk); rw [addr_add] at this; exact this
    | 2, hk => have := ho.cells (g := g) rfl (i * 3 + 2) _ (key L i 2 hi hk); rw [addr_add] at this; exact this
  refine ⟨fun i hi => ?_, fun i hi => ?_, fun i hi => ?_⟩
  · rw [Nat.zero_add]; exact c i 0 hi (by omega)
  · rw [Nat.zero_add]; exact c i 1 hi (by omega)
  · rw [Nat.zero_add]; exact c i 2 hi (by omega)

set_option maxRecDepth 100000 in
set_option maxHeartbeats 2000000 in
theorem trailed_ok (s : ByteArray) (w : World) (hs : s.size ≤ 140737488355328) (hg : MaxL w) (he : errorType w) (hel : 0 < w.heap.size) :
    Calls Tryz.prog 4 #[.string s] w fun e w' => e = .returned (.bool true) ∧ Kept [] w w' := by
  by_cases hlong : 1024 < s.size
  · have C := hide (best_long s w hlong hs)
    clear hg he
    go_enter Tryz.func4, Tryz.ntmps4
    go_wp2_with fail
    refine C.out.mono ?_
    rintro e w1 ⟨rfl, hk1⟩
    have HK := hide (hk1.alloc (.cells #[.int .i64 0, .int .i64 0, .slice none 0 0, .string ⟨#[]⟩, .slice none 0 0] 28))
    clear hk1 C
    go_wp2
    go_ret
    exact ⟨rfl, HK.out⟩
  · have C := hide (best_any s w (by omega) hg he hel)
    clear hg he
    go_enter Tryz.func4, Tryz.ntmps4
    go_wp2_with fail
    refine C.out.mono ?_
    rintro e w1 ⟨av, b, hpost⟩
    cases hO : readGo (rcOf s 16 av b) (lookL KV) 8 (cutOf s) [] 0 with
    | stop at_ =>
      rw [hO] at hpost
      obtain ⟨rfl, hk1⟩ := hpost
      have HK := hide (hk1.alloc (.cells #[.int .i64 7, .int .i64 (at_ : Int), .slice none 0 0, .string ⟨#[]⟩, .slice none 0 0] 28))
      clear hk1 C hO
      go_wp2
      go_ret
      exact ⟨rfl, HK.out⟩
    | done L =>
      rw [hO] at hpost
      obtain ⟨v', rfl, ow1, hk1⟩ := hpost
      obtain ⟨cut, hT⟩ := read_trail hO
      rcases ow1.2 with ⟨rfl, h0⟩ | ⟨g, cap, cur, rfl, hbg, hgb, _⟩
      · have hs0 : s.size = 0 := by
          have h1 := hT.last
          have h2 := hT.zero
          rw [h0] at h1; omega
        have k2 : Kept [] w1 (w1.alloc (.cells #[.int .i64 0, .int .i64 (s.size : Int), .slice none 0 0, .string ⟨#[]⟩, .slice none 0 0] 28)) := (Kept.refl _ _).alloc _
        have HK := hide (hk1.trans k2)
        have CT := hide (trailed_empty s (w1.alloc (.cells #[.int .i64 0, .int .i64 (s.size : Int), .slice none 0 0, .string ⟨#[]⟩, .slice none 0 0] 28)) hs0)
        clear hk1 C hO ow1 hT k2 hs0
        go_wp2_with fail
        refine CT.out.mono ?_
        rintro e w2 ⟨rfl, hk2⟩
        have HK2 := hide (HK.out.trans hk2)
        clear hk2
        go_wp2
        go_ret
        exact ⟨rfl, HK2.out⟩
      · have k2 : Kept [] w1 (w1.alloc (.cells #[.int .i64 0, .int .i64 (s.size : Int), .slice none 0 0, .string ⟨#[]⟩, .slice (some ⟨g, 0, none⟩) L.length cap] 28)) := (Kept.refl _ _).alloc _
        have hLl : L.length ≤ 4096 := by
          have h7 := readGo_len hO
          simp only [List.length_nil, Nat.zero_add] at h7
          have h8 : (csOf s).size ≤ 1024 := by rw [csOf_size]; have := ats_len s s.size; omega
          have h9 : (rcOf s 16 av b).cs.size = (csOf s).size := rfl
          omega
        have hgl := lt_of_block hgb
        have HK := hide (hk1.trans k2)
        have CT := hide (trailed_yes s g 0 cap L.length (spAt L) cut _ ((span_row ow1).kept k2 hgl) (Nat.lt_of_lt_of_le hgl k2.size) (by omega) (by omega) hT)
        clear hk1 C hO ow1 hT k2 hbg hgb
        go_wp2_with fail
        refine CT.out.mono ?_
        rintro e w2 ⟨rfl, hk2⟩
        have HK2 := hide (HK.out.trans hk2)
        clear hk2
        go_wp2
        go_ret
        exact ⟨rfl, HK2.out⟩
end Go.Proofs.YtnlmfklpebekdaaGreatDoor
