import Derived.Test.YtlhhgenpcjjajaaGreatDoorTrB
import Derived.Deep.MidRow
import Derived.Laws.EntriesVeiled
set_option linter.unusedSimpArgs false
set_option linter.unusedVariables false
namespace Go.Proofs.YtlhhgenpcjjajaaGreatDoor
open Go.RowKit
set_option maxHeartbeats 400000 in
theorem mk_asIn (bB : Nat) (m1 : Int) (w : World) :
    Calls Tryz.prog 106 #[.pointer (some ⟨bB, 0, none⟩), .int .i64 m1] w fun e w' => e = .returned (.func (.func 180) #[] #[.pointer (some ⟨w.heap.size, 0, none⟩), .pointer (some ⟨w.heap.size + 1, 0, none⟩)]) ∧ w' = ((w.alloc (.cells #[.pointer (some ⟨bB, 0, none⟩)] 121 (0, 0))).alloc (.cells #[.int .i64 m1] 177 (0, 0))) := by
  go_enter Tryz.func106, Tryz.ntmps106
  go_wp2
  go_ret
  exact ⟨by simp, rfl⟩
set_option maxHeartbeats 400000 in
theorem mk_commentAt (bB : Nat) (f1 : Fn) (a1 l1 : Array Value) (w : World) :
    Calls Tryz.prog 98 #[.pointer (some ⟨bB, 0, none⟩), .func f1 a1 l1] w fun e w' => e = .returned (.func (.func 174) #[] #[.pointer (some ⟨w.heap.size, 0, none⟩)]) ∧ w' = (w.alloc (.cells #[.func f1 a1 l1] 211 (0, 0))) := by
  go_enter Tryz.func98, Tryz.ntmps98
  go_wp2
  go_ret
  exact ⟨by simp, rfl⟩
set_option maxHeartbeats 400000 in
theorem mk_endsAhead (bB : Nat) (f1 : Fn) (a1 l1 : Array Value) (w : World) :
    Calls Tryz.prog 130 #[.pointer (some ⟨bB, 0, none⟩), .func f1 a1 l1] w fun e w' => e = .returned (.func (.func 227) #[] #[.pointer (some ⟨w.heap.size + 1, 0, none⟩), .pointer (some ⟨w.heap.size, 0, none⟩)]) ∧ w' = ((w.alloc (.cells #[.pointer (some ⟨bB, 0, none⟩)] 121 (0, 0))).alloc (.cells #[.func f1 a1 l1] 69 (0, 0))) := by
  go_enter Tryz.func130, Tryz.ntmps130
  go_wp2
  go_ret
  exact ⟨by simp, rfl⟩
set_option maxHeartbeats 400000 in
theorem mk_ends (f0 : Fn) (a0 l0 : Array Value) (w : World) :
    Calls Tryz.prog 134 #[.func f0 a0 l0] w fun e w' => e = .returned (.func (.func 232) #[] #[.pointer (some ⟨w.heap.size, 0, none⟩)]) ∧ w' = (w.alloc (.cells #[.func f0 a0 l0] 69 (0, 0))) := by
  go_enter Tryz.func134, Tryz.ntmps134
  go_wp2
  go_ret
  exact ⟨by simp, rfl⟩
set_option maxHeartbeats 400000 in
theorem mk_ifInTable (bB : Nat) (f1 : Fn) (a1 l1 : Array Value) (w : World) :
    Calls Tryz.prog 142 #[.pointer (some ⟨bB, 0, none⟩), .func f1 a1 l1] w fun e w' => e = .returned (.func (.func 237) #[] #[.pointer (some ⟨w.heap.size, 0, none⟩), .pointer (some ⟨w.heap.size + 1, 0, none⟩)]) ∧ w' = ((w.alloc (.cells #[.pointer (some ⟨bB, 0, none⟩)] 121 (0, 0))).alloc (.cells #[.func f1 a1 l1] 168 (0, 0))) := by
  go_enter Tryz.func142, Tryz.ntmps142
  go_wp2
  go_ret
  exact ⟨by simp, rfl⟩
set_option maxHeartbeats 400000 in
theorem mk_startsIn (bB : Nat) (f1 : Fn) (a1 l1 : Array Value) (m2 : Int) (w : World) :
    Calls Tryz.prog 127 #[.pointer (some ⟨bB, 0, none⟩), .func f1 a1 l1, .int .i64 m2] w fun e w' => e = .returned (.func (.func 224) #[] #[.pointer (some ⟨w.heap.size, 0, none⟩), .pointer (some ⟨w.heap.size + 1, 0, none⟩), .pointer (some ⟨w.heap.size + 1 + 1, 0, none⟩)]) ∧ w' = (((w.alloc (.cells #[.pointer (some ⟨bB, 0, none⟩)] 121 (0, 0))).alloc (.cells #[.func f1 a1 l1] 89 (0, 0))).alloc (.cells #[.int .i64 m2] 177 (0, 0))) := by
  go_enter Tryz.func127, Tryz.ntmps127
  go_wp2
  go_ret
  exact ⟨by simp, rfl⟩
set_option maxHeartbeats 400000 in
theorem mk_impliesIn (bB : Nat) (f1 : Fn) (a1 l1 : Array Value) (s2 : ByteArray) (m3 : Int) (w : World) :
    Calls Tryz.prog 129 #[.pointer (some ⟨bB, 0, none⟩), .func f1 a1 l1, .string s2, .int .i64 m3] w fun e w' => e = .returned (.func (.func 226) #[] #[.pointer (some ⟨w.heap.size, 0, none⟩), .pointer (some ⟨w.heap.size + 1, 0, none⟩), .pointer (some ⟨w.heap.size + 1 + 1, 0, none⟩), .pointer (some ⟨w.heap.size + 1 + 1 + 1, 0, none⟩)]) ∧ w' = ((((w.alloc (.cells #[.pointer (some ⟨bB, 0, none⟩)] 121 (0, 0))).alloc (.cells #[.func f1 a1 l1] 89 (0, 0))).alloc (.cells #[.string s2] 9 (0, 0))).alloc (.cells #[.int .i64 m3] 177 (0, 0))) := by
  go_enter Tryz.func129, Tryz.ntmps129
  go_wp2
  go_ret
  exact ⟨by simp, rfl⟩
end Go.Proofs.YtlhhgenpcjjajaaGreatDoor
namespace Go.Proofs.YtlhhgenpcjjajaaGreatDoor
open Go.RowKit
def MutT : List TypeId := [180, 140, 142, 284, 72, 125, 299, 165, 53, 172, 74]
def MutF : List TypeId := [180, 140, 142, 284, 72, 125, 299, 165, 172]
theorem MutF_sub {t : TypeId} (h : t ∈ MutF) : t ∈ MutT := by
  revert t
  decide
def Calm (w : World) (e : Nat) : Prop := (∃ es ck, w.heap[e]? = some (.map es ck)) ∨ ∃ c t, w.heap[e]? = some (.cells c t (0, 0)) ∧ t ∉ MutT
def Fr (bs : Nat) (w w' : World) : Prop := ∃ S, Kept S w w' ∧ ∀ k ∈ S, k < w.heap.size → (∃ c t m, w.heap[k]? = some (.cells c t m) ∧ t ∈ MutF) ∧ bs ≤ k
theorem Fr.of_kept0 {bs : Nat} {w w' : World} (h : Kept [] w w') : Fr bs w w' := ⟨[], h, fun _ hk => by cases hk⟩
theorem Fr.refl {bs : Nat} (w : World) : Fr bs w w := .of_kept0 (Kept.refl _ _)
theorem Fr.size {bs : Nat} {w w' : World} (h : Fr bs w w') : w.heap.size ≤ w'.heap.size := by obtain ⟨S, hk, _⟩ := h; exact hk.size
theorem Fr.calm {bs : Nat} {w w' : World} (h : Fr bs w w') {e : Nat} (he : Calm w e) : w'.heap[e]? = w.heap[e]? := by
  obtain ⟨S, hk, hS⟩ := h
  have hlt : e < w.heap.size := by
    rcases he with ⟨es, ck, h1⟩ | ⟨c, t, h1, _⟩
    · exact (Array.getElem?_eq_some_iff.1 h1).1
    · exact (Array.getElem?_eq_some_iff.1 h1).1
  refine hk.block e hlt fun hm => ?_
  obtain ⟨⟨c, t, m, h2, ht⟩, _⟩ := hS e hm hlt
  rcases he with ⟨es, ck, h1⟩ | ⟨c', t', h1, ht'⟩
  · rw [h1] at h2; cases h2
  · rw [h1] at h2
    simp at h2
    exact ht' (by rw [h2.2.1]; exact MutF_sub ht)
theorem Calm.fr {bs : Nat} {w w' : World} {e : Nat} (he : Calm w e) (h : Fr bs w w') : Calm w' e := by
  have e1 := h.calm he
  rcases he with ⟨es, ck, h1⟩ | ⟨c, t, h1, ht⟩
  · exact .inl ⟨es, ck, e1.trans h1⟩
  · exact .inr ⟨c, t, e1.trans h1, ht⟩
theorem Fr.trans {bs : Nat} {a b c : World} (h : Fr bs a b) (k : Fr bs b c) : Fr bs a c := by
  obtain ⟨S1, k1, h1⟩ := h
  obtain ⟨S2, k2, h2⟩ := k
  refine ⟨S1 ++ S2, (k1.mono (fun x hx _ => by simp [hx])).trans (k2.mono (fun x hx _ => by simp [hx])), fun x hx hlt => ?_⟩
  by_cases hx1 : x ∈ S1
  · exact h1 x hx1 hlt
  · have hx2 : x ∈ S2 := by simpa [hx1] using hx
    obtain ⟨⟨cc, t, m, hc, ht⟩, hbs⟩ := h2 x hx2 (Nat.lt_of_lt_of_le hlt k1.size)
    exact ⟨⟨cc, t, m, (k1.block x hlt hx1).symm.trans hc, ht⟩, hbs⟩
theorem Fr.of_kept {bs : Nat} {S : List Nat} {w w' : World} (h : Kept S w w') (hS : ∀ k ∈ S, (∃ c t m, w.heap[k]? = some (.cells c t m) ∧ t ∈ MutF) ∧ bs ≤ k) : Fr bs w w' := ⟨S, h, fun k hk _ => hS k hk⟩
theorem Fr.cell {bs : Nat} {w w' : World} (h : Fr bs w w') {e : Nat} {c : Array Value} {t : TypeId} (hc : w.heap[e]? = some (.cells c t (0, 0))) (ht : t ∉ MutT) : w'.heap[e]? = some (.cells c t (0, 0)) := (h.calm (.inr ⟨c, t, hc, ht⟩)).trans hc
theorem Fr.kept {bs : Nat} {a w w' : World} (h : Fr bs w w') (hk : Kept [] a w) (hb : a.heap.size ≤ bs) : Kept [] a w' := by
  obtain ⟨S, hS, hT⟩ := h
  refine ⟨hS.os.trans hk.os, hS.tape.trans hk.tape, hS.output.trans hk.output, Nat.le_trans hk.size hS.size, fun k hlt _ => ?_⟩
  refine (hS.block k (Nat.lt_of_lt_of_le hlt hk.size) fun hm => ?_).trans (hk.block k hlt (by simp))
  have := (hT k hm (Nat.lt_of_lt_of_le hlt hk.size)).2
  omega
theorem Fr.cellF {bs : Nat} {w w' : World} (h : Fr bs w w') {e : Nat} {c : Array Value} {t : TypeId} {m : Nat × Nat} (hc : w.heap[e]? = some (.cells c t m)) (ht : t ∉ MutF) : w'.heap[e]? = some (.cells c t m) := by
  obtain ⟨S, hS, hT⟩ := h
  have hlt : e < w.heap.size := (Array.getElem?_eq_some_iff.1 hc).1
  refine (hS.block e hlt fun hm => ?_).trans hc
  obtain ⟨⟨c', t', m', h2, ht'⟩, _⟩ := hT e hm hlt
  rw [hc] at h2
  simp at h2
  exact ht (by rw [h2.2.1]; exact ht')
def CalmB (bm : Nat) (w : World) (e : Nat) : Prop := (e = bm ∧ ∃ es ck, w.heap[e]? = some (.map es ck)) ∨ ∃ c t, w.heap[e]? = some (.cells c t (0, 0)) ∧ t ∉ MutT
def FrN (bm : Nat) (w w' : World) : Prop := ∃ S, Kept S w w' ∧ ∀ k ∈ S, k < w.heap.size → (∃ c t m, w.heap[k]? = some (.cells c t m) ∧ t ∈ MutT) ∨ ((∃ es ck, w.heap[k]? = some (.map es ck)) ∧ k ≠ bm)
theorem Fr.n {bs : Nat} {w w' : World} (h : Fr bs w w') (bm : Nat) : FrN bm w w' := by
  obtain ⟨S, hk, hS⟩ := h
  exact ⟨S, hk, fun k h1 h2 => by obtain ⟨⟨c, t, m, h3, h4⟩, _⟩ := hS k h1 h2; exact .inl ⟨c, t, m, h3, MutF_sub h4⟩⟩
theorem FrN.of_kept0 {bm : Nat} {w w' : World} (h : Kept [] w w') : FrN bm w w' := (Fr.of_kept0 (bs := 0) h).n bm
theorem FrN.refl (bm : Nat) (w : World) : FrN bm w w := .of_kept0 (Kept.refl _ _)
theorem FrN.size {bm : Nat} {w w' : World} (h : FrN bm w w') : w.heap.size ≤ w'.heap.size := by obtain ⟨S, hk, _⟩ := h; exact hk.size
theorem FrN.of_map {bm b : Nat} {w w' : World} (h : Kept [b] w w') (hb : ∃ es ck, w.heap[b]? = some (.map es ck)) (hne : b ≠ bm) : FrN bm w w' := ⟨[b], h, fun k hk _ => by simp at hk; subst hk; exact .inr ⟨hb, hne⟩⟩
theorem FrN.calm {bm : Nat} {w w' : World} (h : FrN bm w w') {e : Nat} (he : CalmB bm w e) : w'.heap[e]? = w.heap[e]? := by
  obtain ⟨S, hk, hS⟩ := h
  have hlt : e < w.heap.size := by
    rcases he with ⟨_, es, ck, h1⟩ | ⟨c, t, h1, _⟩
    · exact (Array.getElem?_eq_some_iff.1 h1).1
    · exact (Array.getElem?_eq_some_iff.1 h1).1
  refine hk.block e hlt fun hm => ?_
  rcases hS e hm hlt with ⟨c, t, m, h2, ht⟩ | ⟨⟨es', ck', h2⟩, hne⟩
  · rcases he with ⟨_, es, ck, h1⟩ | ⟨c', t', h1, ht'⟩
    · rw [h1] at h2; cases h2
    · rw [h1] at h2
      simp at h2
      exact ht' (by rw [h2.2.1]; exact ht)
  · rcases he with ⟨e1, es, ck, h1⟩ | ⟨c', t', h1, ht'⟩
    · exact hne e1
    · rw [h1] at h2; cases h2
theorem CalmB.fr {bm : Nat} {w w' : World} {e : Nat} (he : CalmB bm w e) (h : FrN bm w w') : CalmB bm w' e := by
  have e1 := h.calm he
  rcases he with ⟨e0, es, ck, h1⟩ | ⟨c, t, h1, ht⟩
  · exact .inl ⟨e0, es, ck, e1.trans h1⟩
  · exact .inr ⟨c, t, e1.trans h1, ht⟩
theorem FrN.trans {bm : Nat} {a b c : World} (h : FrN bm a b) (k : FrN bm b c) : FrN bm a c := by
  obtain ⟨S1, k1, h1⟩ := h
  obtain ⟨S2, k2, h2⟩ := k
  refine ⟨S1 ++ S2, (k1.mono (fun x hx _ => by simp [hx])).trans (k2.mono (fun x hx _ => by simp [hx])), fun x hx hlt => ?_⟩
  by_cases hx1 : x ∈ S1
  · exact h1 x hx1 hlt
  · have hx2 : x ∈ S2 := by simpa [hx1] using hx
    have e := k1.block x hlt hx1
    rcases h2 x hx2 (Nat.lt_of_lt_of_le hlt k1.size) with ⟨cc, t, m, hc, ht⟩ | ⟨⟨es, ck, hm⟩, hne⟩
    · exact .inl ⟨cc, t, m, e.symm.trans hc, ht⟩
    · exact .inr ⟨⟨es, ck, e.symm.trans hm⟩, hne⟩
theorem FrN.cell {bm : Nat} {w w' : World} (h : FrN bm w w') {e : Nat} {c : Array Value} {t : TypeId} (hc : w.heap[e]? = some (.cells c t (0, 0))) (ht : t ∉ MutT) : w'.heap[e]? = some (.cells c t (0, 0)) := (h.calm (.inr ⟨c, t, hc, ht⟩)).trans hc
def Tab (w : World) : Prop := Blanks w ∧ ∃ c t, w.heap[1]? = some (.cells c t (0, 0)) ∧ t ∉ MutT
theorem Tab.fr {bm : Nat} {w w' : World} (hb : Tab w) (h : FrN bm w w') : Tab w' := by
  obtain ⟨hb1, c, t, hc, ht⟩ := hb
  have e1 := h.calm (.inr ⟨c, t, hc, ht⟩)
  refine ⟨?_, c, t, e1.trans hc, ht⟩
  unfold Blanks Lib.TabIs World.var? at hb1 ⊢
  have e : Tryz.prog.globalNamed "strings.asciiSpace" = some 1 := by kernel_rfl
  simp only [e, Option.bind_some] at hb1 ⊢
  rw [e1]
  exact hb1
def Ask (bm : Nat) (v : Value) (p : ByteArray → Bool) (w : World) : Prop := ∃ E, AskAt E v p w ∧ ∀ e ∈ E, CalmB bm w e
theorem Ask.fr {bm : Nat} {v : Value} {p : ByteArray → Bool} {w w' : World} (h : Ask bm v p w) (hf : FrN bm w w') : Ask bm v p w' := by
  obtain ⟨E, hA, hC⟩ := h
  exact ⟨E, hA.keeps (fun k hk => hf.calm (hC k hk)) hf.size, fun e he => (hC e he).fr hf⟩
theorem Ask.call {bm : Nat} {v : Value} {p : ByteArray → Bool} {w : World} (h : Ask bm v p w) : ∃ k lb, v = .func (.func k) #[] lb ∧ (∀ args w, (callFunc k args).run Tryz.prog w = .ok (.enter k args) w) ∧ ∀ W, FrN bm w W → ∀ s, Calls Tryz.prog k (#[.string s] ++ lb) W fun e W' => e = .returned (.bool (p s)) ∧ W' = W := by
  obtain ⟨E, hA, hC⟩ := h
  obtain ⟨k, lb, hv, he, ha⟩ := hA.ex
  exact ⟨k, lb, hv, he, fun W hW s => ha W (fun e hE => hW.calm (hC e hE)) s⟩
theorem is_Ask (bm g cap : Nat) (ss : List ByteArray) (w : World) (h2 : w.heap[g]? = some (.cells (ss.map Value.string).toArray 9 (0, 0))) (hle : ss.length ≤ 4096) :
    Calls Tryz.prog 225 #[.slice (some ⟨g, 0, none⟩) ss.length cap] w fun e w' => (∃ v, e = .returned v ∧ Ask bm v (hasS ss) w') ∧ Kept [] w w' := by
  refine (is_ok g cap ss.length w).mono ?_
  rintro e w' ⟨rfl, rfl⟩
  have k1 : Kept [] w (w.alloc (.cells #[.slice (some ⟨g, 0, none⟩) ss.length cap] 204 (0, 0))) := (Kept.refl _ _).alloc _
  have g1 := heap_alloc_at w (.cells #[.slice (some ⟨g, 0, none⟩) ss.length cap] 204 (0, 0))
  have g2 := k1.at h2 (by simp)
  refine ⟨⟨_, rfl, _, is1_ok _ g cap ss _ g1 g2 hle, fun e he => ?_⟩, k1⟩
  simp at he
  rcases he with rfl | rfl
  · exact .inr ⟨_, _, g1, by decide⟩
  · exact .inr ⟨_, _, g2, by decide⟩
theorem are_Ask (bm c : Nat) (L : List (ByteArray × Nat)) (w : World) (hm : MapS w bm (encN L)) (hc : c < 16) (hL : ∀ s, getN L s < 16) :
    Calls Tryz.prog 41 #[.agg #[.map (some bm)], .int .i64 (c : Int)] w fun e w' => (∃ v, e = .returned v ∧ Ask bm v (isC L c) w') ∧ Kept [] w w' := by
  have h : Calls Tryz.prog 41 #[.agg #[.map (some bm)], .int .i64 (c : Int)] w fun e w' => e = .returned (.func (.func 63) #[] #[.pointer (some ⟨w.heap.size, 0, none⟩), .pointer (some ⟨w.heap.size + 1, 0, none⟩)]) ∧ w' = (w.alloc (.cells #[.map (some bm)] 92 (0, 0))).alloc (.cells #[.int .i64 (c : Int)] 95 (0, 0)) := by
    clear hm hL hc
    go_enter Tryz.func41, Tryz.ntmps41
    go_wp2
    go_ret
    exact ⟨by simp, rfl⟩
  refine h.mono ?_
  rintro e w' ⟨rfl, rfl⟩
  have k1 : Kept [] w (w.alloc (.cells #[.map (some bm)] 92 (0, 0))) := (Kept.refl _ _).alloc _
  have k2 := k1.alloc (.cells #[.int .i64 (c : Int)] 95 (0, 0))
  have g2 := heap_alloc_at (w.alloc (.cells #[.map (some bm)] 92 (0, 0))) (.cells #[.int .i64 (c : Int)] 95 (0, 0))
  rw [World.size_alloc] at g2
  have g1 := (Below.heap_alloc (w.alloc (.cells #[.map (some bm)] 92 (0, 0))) (.cells #[.int .i64 (c : Int)] 95 (0, 0)) w.heap.size (by simp)).trans (heap_alloc_at w _)
  have m2 := hm.kept k2 (by simp)
  refine ⟨⟨_, rfl, _, are1_ok _ _ bm c L _ g1 g2 m2 hc hL, fun e he => ?_⟩, k2⟩
  simp at he
  rcases he with rfl | rfl | rfl
  · exact .inr ⟨_, _, g1, by decide⟩
  · exact .inr ⟨_, _, g2, by decide⟩
  · obtain ⟨es, ck, ha, _⟩ := m2
    exact .inl ⟨rfl, es, ck, ha⟩
theorem pair_calm {bm : Nat} {E1 E2 : List Nat} {b1 b2 : Nat} {w : World} (h1 : CalmB bm w b1) (h2 : CalmB bm w b2) (c1 : ∀ e ∈ E1, CalmB bm w e) (c2 : ∀ e ∈ E2, CalmB bm w e) : ∀ e ∈ b1 :: b2 :: (E1 ++ E2), CalmB bm w e := by
  intro e he
  simp at he
  rcases he with rfl | rfl | he | he
  · exact h1
  · exact h2
  · exact c1 e he
  · exact c2 e he
end Go.Proofs.YtlhhgenpcjjajaaGreatDoor
namespace Go.Proofs.YtlhhgenpcjjajaaGreatDoor
open Go.RowKit
inductive Ru
  | nil
  | nothing
  | meth (f : Nat)
  | asIn (m : Int)
  | comment (pf : Nat) (own : Bool)
  | ahead (f : Nat)
  | ends (f : Nat)
  | ifT (r : Ru)
  | starts (ks : List ByteArray) (m : Int)
  | implies (ks : List ByteArray) (name : ByteArray) (m : Int)
  | item (ks : List ByteArray)
abbrev ptrv (b : Nat) : Value := .pointer (some ⟨b, 0, none⟩)
abbrev box (w : World) (b : Nat) (v : Value) (t : TypeId) : Prop := w.heap[b]? = some (.cells #[v] t (0, 0))
def IsRu (bm bB bD : Nat) : Ru → Value → World → Prop
  | .nil, v, _ => v = .nilFunc
  | .nothing, v, _ => v = .func (.func 97) #[] #[]
  | .meth f, v, _ => v = .func (.func f) #[ptrv bB] #[]
  | .asIn m, v, w => ∃ b1 b2, v = .func (.func 180) #[] #[ptrv b1, ptrv b2] ∧ box w b1 (ptrv bB) 121 ∧ box w b2 (.int .i64 m) 177
  | .comment pf own, v, w => ∃ b1, v = .func (.func 174) #[] #[ptrv b1] ∧ box w b1 (.func (.func pf) #[ptrv (if own then bB else bD)] #[]) 211
  | .ahead f, v, w => ∃ b1 b2, v = .func (.func 227) #[] #[ptrv b2, ptrv b1] ∧ box w b1 (ptrv bB) 121 ∧ box w b2 (.func (.func f) #[ptrv bB] #[]) 69
  | .ends f, v, w => ∃ b1, v = .func (.func 232) #[] #[ptrv b1] ∧ box w b1 (.func (.func f) #[ptrv bB] #[]) 69
  | .ifT r, v, w => ∃ b1 b2 u, v = .func (.func 237) #[] #[ptrv b1, ptrv b2] ∧ box w b1 (ptrv bB) 121 ∧ box w b2 u 168 ∧ IsRu bm bB bD r u w
  | .starts ks m, v, w => ∃ b1 b2 b3 u, v = .func (.func 224) #[] #[ptrv b1, ptrv b2, ptrv b3] ∧ box w b1 (ptrv bB) 121 ∧ box w b2 u 89 ∧ Ask bm u (hasS ks) w ∧ box w b3 (.int .i64 m) 177
  | .implies ks name m, v, w => ∃ b1 b2 b3 b4 u, v = .func (.func 226) #[] #[ptrv b1, ptrv b2, ptrv b3, ptrv b4] ∧ box w b1 (ptrv bB) 121 ∧ box w b2 u 89 ∧ Ask bm u (hasS ks) w ∧ box w b3 (.string name) 9 ∧ box w b4 (.int .i64 m) 177
  | .item ks, v, w => ∃ b1 b2 b3 u1 u2, v = .func (.func 281) #[] #[ptrv b1, ptrv b2, ptrv b3] ∧ box w b1 (ptrv bB) 121 ∧ box w b2 u1 89 ∧ Ask bm u1 (hasS ks) w ∧ box w b3 u2 89 ∧ Ask bm u2 (fun s => pSpecial s && !hasS [⟨#[100, 105, 118]⟩, ⟨#[112]⟩] s) w
theorem box.fr {bm : Nat} {w w' : World} {b : Nat} {v : Value} {t : TypeId} (h : box w b v t) (hf : FrN bm w w') (ht : t ∉ MutT) : box w' b v t := hf.cell h ht
theorem IsRu.fr {bm bB bD : Nat} : ∀ {r : Ru} {v : Value} {w w' : World}, IsRu bm bB bD r v w → FrN bm w w' → IsRu bm bB bD r v w'
  | .nil, _, _, _, h, _ => h
  | .nothing, _, _, _, h, _ => h
  | .meth _, _, _, _, h, _ => h
  | .asIn _, _, _, _, ⟨b1, b2, e, h1, h2⟩, hf => ⟨b1, b2, e, box.fr h1 hf (by decide), box.fr h2 hf (by decide)⟩
  | .comment _ _, _, _, _, ⟨b1, e, h1⟩, hf => ⟨b1, e, box.fr h1 hf (by decide)⟩
  | .ahead _, _, _, _, ⟨b1, b2, e, h1, h2⟩, hf => ⟨b1, b2, e, box.fr h1 hf (by decide), box.fr h2 hf (by decide)⟩
  | .ends _, _, _, _, ⟨b1, e, h1⟩, hf => ⟨b1, e, box.fr h1 hf (by decide)⟩
  | .ifT _, _, _, _, ⟨b1, b2, u, e, h1, h2, hr⟩, hf => ⟨b1, b2, u, e, box.fr h1 hf (by decide), box.fr h2 hf (by decide), hr.fr hf⟩
  | .starts _ _, _, _, _, ⟨b1, b2, b3, u, e, h1, h2, ha, h3⟩, hf => ⟨b1, b2, b3, u, e, box.fr h1 hf (by decide), box.fr h2 hf (by decide), ha.fr hf, box.fr h3 hf (by decide)⟩
  | .implies _ _ _, _, _, _, ⟨b1, b2, b3, b4, u, e, h1, h2, ha, h3, h4⟩, hf => ⟨b1, b2, b3, b4, u, e, box.fr h1 hf (by decide), box.fr h2 hf (by decide), ha.fr hf, box.fr h3 hf (by decide), box.fr h4 hf (by decide)⟩
  | .item _, _, _, _, ⟨b1, b2, b3, u1, u2, e, h1, h2, ha, h3, hb⟩, hf => ⟨b1, b2, b3, u1, u2, e, box.fr h1 hf (by decide), box.fr h2 hf (by decide), ha.fr hf, box.fr h3 hf (by decide), hb.fr hf⟩
def lookR : List (List ByteArray × Ru) → ByteArray → Option Ru
  | [], _ => none
  | p :: R, k => if hasS p.1 k then some p.2 else lookR R k
def IsMap (bm bB bD b : Nat) (R : List (List ByteArray × Ru)) (v : Value) (w : World) : Prop :=
  ∃ L, v = .map (some b) ∧ MapS w b L ∧ ∀ k, match lookR R k with
    | some r => ∃ u, getL L k = some u ∧ IsRu bm bB bD r u w
    | none => getL L k = none
theorem IsMap.fr {bm bB bD b : Nat} {R : List (List ByteArray × Ru)} {v : Value} {w w' : World} (h : IsMap bm bB bD b R v w) (hf : FrN bm w w') (hb : w'.heap[b]? = w.heap[b]?) : IsMap bm bB bD b R v w' := by
  obtain ⟨L, e, hm, hr⟩ := h
  refine ⟨L, e, hm.keeps hb, fun k => ?_⟩
  have := hr k
  cases hq : lookR R k with
  | none => rw [hq] at this; exact this
  | some r => rw [hq] at this; obtain ⟨u, hu, hi⟩ := this; exact ⟨u, hu, hi.fr hf⟩
theorem getL_putL : ∀ (L : List (ByteArray × Value)) (k : ByteArray) (v : Value) (s : ByteArray), getL (putL L k v) s = if eqS s k then some v else getL L s
  | [], k, v, s => rfl
  | p :: L, k, v, s => by
    unfold putL
    by_cases hk : eqS k p.1 = true
    · rw [if_pos hk]
      have e := eqS_iff.1 hk
      unfold getL
      rw [← e]
      split <;> rfl
    · rw [if_neg hk]
      unfold getL
      rw [getL_putL L k v s]
      by_cases h1 : eqS s p.1 = true
      · have h2 : eqS s k ≠ true := fun h => hk (by rw [eqS_iff] at h h1 ⊢; rw [← h, h1])
        simp [h1, h2]
      · simp [h1]
theorem getL_putAll (v : Value) (s : ByteArray) (ks : List ByteArray) : ∀ (L : List (ByteArray × Value)), getL (putAll L ks v) s = if hasS ks s then some v else getL L s := by
  induction ks with
  | nil => intro L; simp [putAll, hasS]
  | cons k ks ih =>
    intro L
    show getL (putAll (putL L k v) ks v) s = _
    rw [ih, getL_putL]
    have e : hasS (k :: ks) s = (eqS s k || hasS ks s) := by simp [hasS]
    rw [e]
    by_cases h1 : eqS s k = true
    · by_cases h2 : hasS ks s = true <;> simp [h1, h2]
    · simp [h1]
theorem IsMap.at {bm bB bD b : Nat} {R : List (List ByteArray × Ru)} {v : Value} {w : World} (h : IsMap bm bB bD b R v w) : ∃ es ck, w.heap[b]? = some (.map es ck) := by
  obtain ⟨L, e, ⟨es, ck, ha, _⟩, hr⟩ := h
  exact ⟨es, ck, ha⟩
theorem on_map (bm bB bD b : Nat) (s : ByteArray) (ks : List ByteArray) (r : Ru) (R : List (List ByteArray × Ru)) (v : Value) (w : World) (hp : plainText s = true) (hks : words s = ks) (ht : Tab w) (hm : IsMap bm bB bD b R (.map (some b)) w) (hne : b ≠ bm) (hv : IsRu bm bB bD r v w) :
    Calls Tryz.prog 102 #[.map (some b), .string s, v] w fun e w' => e = .returned (.map (some b)) ∧ IsMap bm bB bD b ((ks, r) :: R) (.map (some b)) w' ∧ Kept [b] w w' ∧ FrN bm w w' := by
  have hat := hm.at
  obtain ⟨L, _, hM, hR⟩ := hm
  refine (on_ok b s v L w hp ht.1 hM).mono ?_
  rintro e w' ⟨rfl, hM', hk⟩
  have hf := FrN.of_map hk hat hne
  rw [hks] at hM'
  refine ⟨rfl, ⟨_, rfl, hM', fun k => ?_⟩, hk, hf⟩
  rw [getL_putAll]
  unfold lookR
  cases hq : hasS ks k with
  | true => simp; exact hv.fr hf
  | false =>
    simp
    have := hR k
    cases hq2 : lookR R k with
    | none => rw [hq2] at this; exact this
    | some r2 => rw [hq2] at this; obtain ⟨u, hu, hi⟩ := this; exact ⟨u, hu, hi.fr hf⟩
theorem map_new (bm bB bD : Nat) (w : World) : IsMap bm bB bD w.heap.size [] (.map (some w.heap.size)) (w.alloc (.map #[] 0)) := ⟨[], rfl, MapS.new w, fun _ => rfl⟩
end Go.Proofs.YtlhhgenpcjjajaaGreatDoor
namespace Go.Proofs.YtlhhgenpcjjajaaGreatDoor
open Go.RowKit
theorem two_blocks (w : World) (o1 o2 : Obj) : ((w.alloc o1).alloc o2).heap[w.heap.size]? = some o1 ∧ ((w.alloc o1).alloc o2).heap[w.heap.size + 1]? = some o2 := by
  refine ⟨(Below.heap_alloc _ _ _ (by simp)).trans (heap_alloc_at w _), ?_⟩
  have := heap_alloc_at (w.alloc o1) o2
  rwa [World.size_alloc] at this
theorem three_blocks (w : World) (o1 o2 o3 : Obj) : (((w.alloc o1).alloc o2).alloc o3).heap[w.heap.size]? = some o1 ∧ (((w.alloc o1).alloc o2).alloc o3).heap[w.heap.size + 1]? = some o2 ∧ (((w.alloc o1).alloc o2).alloc o3).heap[w.heap.size + 1 + 1]? = some o3 := by
  obtain ⟨h1, h2⟩ := two_blocks w o1 o2
  refine ⟨(Below.heap_alloc _ _ _ (by simp; omega)).trans h1, (Below.heap_alloc _ _ _ (by simp)).trans h2, ?_⟩
  have := heap_alloc_at ((w.alloc o1).alloc o2) o3
  rwa [World.size_alloc, World.size_alloc] at this
theorem four_blocks (w : World) (o1 o2 o3 o4 : Obj) : ((((w.alloc o1).alloc o2).alloc o3).alloc o4).heap[w.heap.size]? = some o1 ∧ ((((w.alloc o1).alloc o2).alloc o3).alloc o4).heap[w.heap.size + 1]? = some o2 ∧ ((((w.alloc o1).alloc o2).alloc o3).alloc o4).heap[w.heap.size + 1 + 1]? = some o3 ∧ ((((w.alloc o1).alloc o2).alloc o3).alloc o4).heap[w.heap.size + 1 + 1 + 1]? = some o4 := by
  obtain ⟨h1, h2, h3⟩ := three_blocks w o1 o2 o3
  refine ⟨(Below.heap_alloc _ _ _ (by simp; omega)).trans h1, (Below.heap_alloc _ _ _ (by simp <;> omega)).trans h2, (Below.heap_alloc _ _ _ (by simp)).trans h3, ?_⟩
  have := heap_alloc_at (((w.alloc o1).alloc o2).alloc o3) o4
  rwa [World.size_alloc, World.size_alloc, World.size_alloc] at this
abbrev Makes (bm bB bD : Nat) (r : Ru) (w : World) (e : Ending) (w' : World) : Prop := (∃ v, e = .returned v ∧ IsRu bm bB bD r v w') ∧ Kept [] w w'
theorem ru_asIn (bm bB bD : Nat) (m : Int) (w : World) : Calls Tryz.prog 106 #[ptrv bB, .int .i64 m] w (Makes bm bB bD (.asIn m) w) := by
  refine (mk_asIn bB m w).mono ?_
  rintro e w' ⟨rfl, rfl⟩
  obtain ⟨h1, h2⟩ := two_blocks w (.cells #[ptrv bB] 121 (0, 0)) (.cells #[.int .i64 m] 177 (0, 0))
  exact ⟨⟨_, rfl, _, _, rfl, h1, h2⟩, ((Kept.refl _ _).alloc _).alloc _⟩
theorem ru_comment (bm bB bD pf : Nat) (own : Bool) (w : World) : Calls Tryz.prog 98 #[ptrv bB, .func (.func pf) #[ptrv (if own then bB else bD)] #[]] w (Makes bm bB bD (.comment pf own) w) := by
  refine (mk_commentAt bB (.func pf) #[ptrv (if own then bB else bD)] #[] w).mono ?_
  rintro e w' ⟨rfl, rfl⟩
  exact ⟨⟨_, rfl, _, rfl, heap_alloc_at w _⟩, (Kept.refl _ _).alloc _⟩
theorem ru_ahead (bm bB bD f : Nat) (w : World) : Calls Tryz.prog 130 #[ptrv bB, .func (.func f) #[ptrv bB] #[]] w (Makes bm bB bD (.ahead f) w) := by
  refine (mk_endsAhead bB (.func f) #[ptrv bB] #[] w).mono ?_
  rintro e w' ⟨rfl, rfl⟩
  obtain ⟨h1, h2⟩ := two_blocks w (.cells #[ptrv bB] 121 (0, 0)) (.cells #[.func (.func f) #[ptrv bB] #[]] 69 (0, 0))
  exact ⟨⟨_, rfl, _, _, rfl, h1, h2⟩, ((Kept.refl _ _).alloc _).alloc _⟩
theorem ru_ends (bm bB bD f : Nat) (w : World) : Calls Tryz.prog 134 #[.func (.func f) #[ptrv bB] #[]] w (Makes bm bB bD (.ends f) w) := by
  refine (mk_ends (.func f) #[ptrv bB] #[] w).mono ?_
  rintro e w' ⟨rfl, rfl⟩
  exact ⟨⟨_, rfl, _, rfl, heap_alloc_at w _⟩, (Kept.refl _ _).alloc _⟩
theorem IsRu.func {bm bB bD : Nat} {r : Ru} {v : Value} {w : World} (h : IsRu bm bB bD r v w) (hr : r ≠ .nil) : ∃ f a l, v = .func f a l := by
  cases r with
  | nil => exact absurd rfl hr
  | nothing => exact ⟨_, _, _, h⟩
  | meth f => exact ⟨_, _, _, h⟩
  | asIn m => obtain ⟨_, _, e, _⟩ := h; exact ⟨_, _, _, e⟩
  | comment a b => obtain ⟨_, e, _⟩ := h; exact ⟨_, _, _, e⟩
  | ahead f => obtain ⟨_, _, e, _⟩ := h; exact ⟨_, _, _, e⟩
  | ends f => obtain ⟨_, e, _⟩ := h; exact ⟨_, _, _, e⟩
  | ifT r => obtain ⟨_, _, _, e, _⟩ := h; exact ⟨_, _, _, e⟩
  | starts a b => obtain ⟨_, _, _, _, e, _⟩ := h; exact ⟨_, _, _, e⟩
  | implies a b c => obtain ⟨_, _, _, _, _, e, _⟩ := h; exact ⟨_, _, _, e⟩
  | item a => obtain ⟨_, _, _, _, _, e, _⟩ := h; exact ⟨_, _, _, e⟩
theorem ru_ifT (bm bB bD : Nat) (r : Ru) (u : Value) (w : World) (hr : r ≠ .nil) (hu : IsRu bm bB bD r u w) : Calls Tryz.prog 142 #[ptrv bB, u] w (Makes bm bB bD (.ifT r) w) := by
  obtain ⟨f, a, l, rfl⟩ := hu.func hr
  refine (mk_ifInTable bB f a l w).mono ?_
  rintro e w' ⟨rfl, rfl⟩
  obtain ⟨h1, h2⟩ := two_blocks w (.cells #[ptrv bB] 121 (0, 0)) (.cells #[.func f a l] 168 (0, 0))
  have hk : Kept [] w ((w.alloc (.cells #[ptrv bB] 121 (0, 0))).alloc (.cells #[.func f a l] 168 (0, 0))) := ((Kept.refl _ _).alloc _).alloc _
  exact ⟨⟨_, rfl, _, _, _, rfl, h1, h2, hu.fr (.of_kept0 hk)⟩, hk⟩
theorem Ask.func {bm : Nat} {v : Value} {p : ByteArray → Bool} {w : World} (h : Ask bm v p w) : ∃ f a l, v = .func f a l := by
  obtain ⟨k, lb, e, _⟩ := h.call
  exact ⟨_, _, _, e⟩
theorem ru_starts (bm bB bD : Nat) (ks : List ByteArray) (m : Int) (u : Value) (w : World) (hu : Ask bm u (hasS ks) w) : Calls Tryz.prog 127 #[ptrv bB, u, .int .i64 m] w (Makes bm bB bD (.starts ks m) w) := by
  obtain ⟨f, a, l, rfl⟩ := hu.func
  refine (mk_startsIn bB f a l m w).mono ?_
  rintro e w' ⟨rfl, rfl⟩
  obtain ⟨h1, h2, h3⟩ := three_blocks w (.cells #[ptrv bB] 121 (0, 0)) (.cells #[.func f a l] 89 (0, 0)) (.cells #[.int .i64 m] 177 (0, 0))
  have hk : Kept [] w (((w.alloc (.cells #[ptrv bB] 121 (0, 0))).alloc (.cells #[.func f a l] 89 (0, 0))).alloc (.cells #[.int .i64 m] 177 (0, 0))) := (((Kept.refl _ _).alloc _).alloc _).alloc _
  exact ⟨⟨_, rfl, _, _, _, _, rfl, h1, h2, hu.fr (.of_kept0 hk), h3⟩, hk⟩
theorem ru_implies (bm bB bD : Nat) (ks : List ByteArray) (name : ByteArray) (m : Int) (u : Value) (w : World) (hu : Ask bm u (hasS ks) w) : Calls Tryz.prog 129 #[ptrv bB, u, .string name, .int .i64 m] w (Makes bm bB bD (.implies ks name m) w) := by
  obtain ⟨f, a, l, rfl⟩ := hu.func
  refine (mk_impliesIn bB f a l name m w).mono ?_
  rintro e w' ⟨rfl, rfl⟩
  obtain ⟨h1, h2, h3, h4⟩ := four_blocks w (.cells #[ptrv bB] 121 (0, 0)) (.cells #[.func f a l] 89 (0, 0)) (.cells #[.string name] 9 (0, 0)) (.cells #[.int .i64 m] 177 (0, 0))
  have hk : Kept [] w ((((w.alloc (.cells #[ptrv bB] 121 (0, 0))).alloc (.cells #[.func f a l] 89 (0, 0))).alloc (.cells #[.string name] 9 (0, 0))).alloc (.cells #[.int .i64 m] 177 (0, 0))) := ((((Kept.refl _ _).alloc _).alloc _).alloc _).alloc _
  exact ⟨⟨_, rfl, _, _, _, _, _, rfl, h1, h2, hu.fr (.of_kept0 hk), h3, h4⟩, hk⟩
end Go.Proofs.YtlhhgenpcjjajaaGreatDoor
namespace Go.Proofs.YtlhhgenpcjjajaaGreatDoor
open Go.RowKit
structure RSpec where
  blank : Ru := .nil
  char : Ru := .nil
  comment : Ru := .nil
  doctype : Ru := .nil
  textEnd : Ru := .nil
  start : Option (List (List ByteArray × Ru)) := none
  stop : Option (List (List ByteArray × Ru)) := none
  otherStart : Ru := .nil
  otherEnd : Ru := .nil
  others : Ru := .nil
def IsMapO (bm bB bD : Nat) : Option (List (List ByteArray × Ru)) → Value → World → Prop
  | none, v, _ => v = .map none
  | some R, v, w => ∃ b, IsMap bm bB bD b R v w
theorem IsMap.lt {bm bB bD b : Nat} {R : List (List ByteArray × Ru)} {v : Value} {w : World} (h : IsMap bm bB bD b R v w) : b < w.heap.size := by
  obtain ⟨es, ck, ha⟩ := h.at
  exact (Array.getElem?_eq_some_iff.1 ha).1
theorem IsMapO.kept0 {bm bB bD : Nat} {R : Option (List (List ByteArray × Ru))} {v : Value} {w w' : World} (h : IsMapO bm bB bD R v w) (hk : Kept [] w w') : IsMapO bm bB bD R v w' := by
  cases R with
  | none => exact h
  | some R =>
    obtain ⟨b, hm⟩ := h
    exact ⟨b, hm.fr (.of_kept0 hk) (hk.block b hm.lt (by simp))⟩
structure IsRules (bm bB bD : Nat) (sp : RSpec) (v0 v1 v2 v3 v4 v5 v6 v7 v8 v9 : Value) (w : World) : Prop where
  blank : IsRu bm bB bD sp.blank v0 w
  char : IsRu bm bB bD sp.char v1 w
  comment : IsRu bm bB bD sp.comment v2 w
  doctype : IsRu bm bB bD sp.doctype v3 w
  textEnd : IsRu bm bB bD sp.textEnd v4 w
  start : IsMapO bm bB bD sp.start v5 w
  stop : IsMapO bm bB bD sp.stop v6 w
  otherStart : IsRu bm bB bD sp.otherStart v7 w
  otherEnd : IsRu bm bB bD sp.otherEnd v8 w
  others : IsRu bm bB bD sp.others v9 w
theorem IsRules.kept0 {bm bB bD : Nat} {sp : RSpec} {v0 v1 v2 v3 v4 v5 v6 v7 v8 v9 : Value} {w w' : World} (h : IsRules bm bB bD sp v0 v1 v2 v3 v4 v5 v6 v7 v8 v9 w) (hk : Kept [] w w') : IsRules bm bB bD sp v0 v1 v2 v3 v4 v5 v6 v7 v8 v9 w' :=
  have f : FrN bm w w' := .of_kept0 hk
  ⟨h.blank.fr f, h.char.fr f, h.comment.fr f, h.doctype.fr f, h.textEnd.fr f, h.start.kept0 hk, h.stop.kept0 hk, h.otherStart.fr f, h.otherEnd.fr f, h.others.fr f⟩
def MakesRules (bm bB bD : Nat) (sp : RSpec) (w : World) (e : Ending) (w' : World) : Prop :=
  ∃ v0 v1 v2 v3 v4 v5 v6 v7 v8 v9, e = .returned (.agg #[v0, v1, v2, v3, v4, v5, v6, v7, v8, v9]) ∧ IsRules bm bB bD sp v0 v1 v2 v3 v4 v5 v6 v7 v8 v9 w' ∧ Kept [] w w'
def BD (bB bD : Nat) (w : World) : Prop := w.cell? ⟨bB, 187, none⟩ = some (ptrv bD) ∧ bB < w.heap.size
theorem BD.kept0 {bB bD : Nat} {w w' : World} (h : BD bB bD w) (hk : Kept [] w w') : BD bB bD w' := ⟨(hk.cell (p := ⟨bB, 187, none⟩) h.2 (by simp)).trans h.1, Nat.lt_of_lt_of_le h.2 hk.size⟩
abbrev zeroRules : Array Value := #[.nilFunc, .nilFunc, .nilFunc, .nilFunc, .nilFunc, .map none, .map none, .nilFunc, .nilFunc, .nilFunc]
theorem alloc_named (w : World) (o : Obj) : ∃ W, W = w.alloc o ∧ Kept [] w W ∧ W.heap[w.heap.size]? = some o ∧ W.heap.size = w.heap.size + 1 := ⟨_, rfl, (Kept.refl _ _).alloc _, heap_alloc_at w _, by simp⟩
theorem IsMapO.kept1 {bm bB bD : Nat} {R : Option (List (List ByteArray × Ru))} {v : Value} {w w' : World} {s : Nat} {c : Array Value} {t : TypeId} (h : IsMapO bm bB bD R v w) (hk : Kept [s] w w') (hs : w.heap[s]? = some (.cells c t (0, 0))) (f : FrN bm w w') : IsMapO bm bB bD R v w' := by
  cases R with
  | none => exact h
  | some R =>
    obtain ⟨b, hb⟩ := h
    refine ⟨b, hb.fr f (hk.block b hb.lt ?_)⟩
    intro hmem
    have e := List.mem_singleton.1 hmem
    obtain ⟨es, ck, ha⟩ := hb.at
    rw [e, hs] at ha
    cases ha
theorem IsRules.kept1 {bm bB bD : Nat} {sp : RSpec} {v0 v1 v2 v3 v4 v5 v6 v7 v8 v9 : Value} {w w' : World} {s : Nat} {c : Array Value} (h : IsRules bm bB bD sp v0 v1 v2 v3 v4 v5 v6 v7 v8 v9 w) (hk : Kept [s] w w') (hs : w.heap[s]? = some (.cells c 172 (0, 0))) : IsRules bm bB bD sp v0 v1 v2 v3 v4 v5 v6 v7 v8 v9 w' :=
  have f : FrN bm w w' := ⟨_, hk, fun k hk' _ => by
    have e := List.mem_singleton.1 hk'
    subst e
    exact .inl ⟨_, _, _, hs, by decide⟩⟩
  ⟨h.blank.fr f, h.char.fr f, h.comment.fr f, h.doctype.fr f, h.textEnd.fr f, h.start.kept1 hk hs f, h.stop.kept1 hk hs f, h.otherStart.fr f, h.otherEnd.fr f, h.others.fr f⟩
theorem putList_ten (v0 v1 v2 v3 v4 v5 v6 v7 v8 v9 : Value) : putList zeroRules 0 [v0, v1, v2, v3, v4, v5, v6, v7, v8, v9] = #[v0, v1, v2, v3, v4, v5, v6, v7, v8, v9] := by
  apply Array.ext'
  rw [putList_toList _ _ _ (by simp [zeroRules])]
  simp [zeroRules]
theorem zero_cells {w : World} {s : Nat} (h : w.heap[s]? = some (.cells zeroRules 172 (0, 0))) : w.cell? ⟨s, 0, none⟩ = some .nilFunc ∧ w.cell? ⟨s, 1, none⟩ = some .nilFunc ∧ w.cell? ⟨s, 2, none⟩ = some .nilFunc ∧ w.cell? ⟨s, 3, none⟩ = some .nilFunc ∧ w.cell? ⟨s, 4, none⟩ = some .nilFunc ∧ w.cell? ⟨s, 5, none⟩ = some (.map none) ∧ w.cell? ⟨s, 6, none⟩ = some (.map none) ∧ w.cell? ⟨s, 7, none⟩ = some .nilFunc ∧ w.cell? ⟨s, 8, none⟩ = some .nilFunc ∧ w.cell? ⟨s, 9, none⟩ = some .nilFunc := by
  simp only [cell_at h]
  exact ⟨rfl, rfl, rfl, rfl, rfl, rfl, rfl, rfl, rfl, rfl⟩
theorem stored_rules {bm bB bD : Nat} {sp : RSpec} {v0 v1 v2 v3 v4 v5 v6 v7 v8 v9 : Value} {w w1 : World} (h : w1.heap[w.heap.size]? = some (.cells zeroRules 172 (0, 0))) (hk : Kept [] w w1) (hr : IsRules bm bB bD sp v0 v1 v2 v3 v4 v5 v6 v7 v8 v9 w1) (W : World) (hW : W = w1.setCells w.heap.size 0 [v0, v1, v2, v3, v4, v5, v6, v7, v8, v9]) :
    W.heap[w.heap.size]? = some (.cells #[v0, v1, v2, v3, v4, v5, v6, v7, v8, v9] 172 (0, 0)) ∧ IsRules bm bB bD sp v0 v1 v2 v3 v4 v5 v6 v7 v8 v9 W ∧ Kept [] w W := by
  have hb := block_setCells [v0, v1, v2, v3, v4, v5, v6, v7, v8, v9] w1 w.heap.size zeroRules _ _ 0 h
  have hk1 : Kept [w.heap.size] w1 W := by rw [hW]; exact Kept.setCells (.inl (by simp)) _ _ (Kept.refl _ _)
  have hk2 : Kept [] w W := by rw [hW]; exact Kept.setCells (.inr (Nat.le_refl _)) _ _ hk
  rw [putList_ten, ← hW] at hb
  exact ⟨hb, hr.kept1 hk1 h, hk2⟩
set_option maxHeartbeats 1000000 in
theorem fin_rules {bm bB bD t : Nat} {sp : RSpec} {fn : Func} {a : Act} {w W : World} {v0 v1 v2 v3 v4 v5 v6 v7 v8 v9 : Value} (hres : fn.results = #[.cell t 172]) (ht : a.tmps.getD t undef = .pointer (some ⟨w.heap.size, 0, none⟩)) (hd : a.defers = [])
    (hs : W.heap[w.heap.size]? = some (.cells #[v0, v1, v2, v3, v4, v5, v6, v7, v8, v9] 172 (0, 0)) ∧ IsRules bm bB bD sp v0 v1 v2 v3 v4 v5 v6 v7 v8 v9 W ∧ Kept [] w W) : bodyPost Tryz.prog fn (MakesRules bm bB bD sp w) .ret a W := by
  obtain ⟨hg, hr, hk⟩ := hs
  refine bodyPost_ret (v := .agg #[v0, v1, v2, v3, v4, v5, v6, v7, v8, v9]) ?_ hd ⟨_, _, _, _, _, _, _, _, _, _, rfl, hr, hk⟩
  have hc := cell_at hg
  have ht' : a.tmps[t]?.getD undef = .pointer (some ⟨w.heap.size, 0, none⟩) := by simpa using ht
  simp only [results, hres]
  simp [ht', asAddr, Result.andThen, go_sem, hc]
set_option maxHeartbeats 2000000 in
set_option maxRecDepth 100000 in
theorem r_initial (bm bB bD : Nat) (w : World) (hb : BD bB bD w) (ht : Tab w) (hbm : bm < w.heap.size) :
    Calls Tryz.prog 69 #[ptrv bB] w (MakesRules bm bB bD { blank := .nothing, comment := .comment 99 false, doctype := .meth 100, others := .meth 101 } w) := by
  have hmm := @run_makeMap Tryz.prog
  obtain ⟨W0, hW0, K0, g0, z0⟩ := alloc_named w (.cells zeroRules 172 (0, 0))
  obtain ⟨c187, hBl⟩ := hb
  have HK0 := hide K0
  have HG0 := hide g0
  have HW0 := hide hW0
  have HZ0 := hide z0
  clear K0 g0 hW0 z0 ht
  go_enter Tryz.func69, Tryz.ntmps69
  go_wp2_with fail
  refine (ru_comment bm bB bD 99 false _).mono ?_
  rintro e w1 ⟨⟨x1, rfl, hr1⟩, hk1⟩
  obtain ⟨f1, a1, l1, hv1⟩ := hr1.func (by simp)
  subst hv1
  have HR1 := hide hr1
  have K1 : Kept [] w w1 := (HW0.out ▸ HK0.out).trans hk1
  have g1 := hk1.at (HW0.out ▸ HG0.out) (by simp)
  have HZR := hide g1
  have HS := hide (stored_rules (v0 := .func (.func 97) #[] #[]) (v1 := .nilFunc) (v2 := .func f1 a1 l1) (v3 := .func (.func 100) #[ptrv bB] #[]) (v4 := .nilFunc) (v5 := .map none) (v6 := .map none) (v7 := .nilFunc) (v8 := .nilFunc) (v9 := .func (.func 101) #[ptrv bB] #[])
    (sp := { blank := .nothing, comment := .comment 99 false, doctype := .meth 100, others := .meth 101 }) g1 K1 ⟨rfl, rfl, HR1.out, rfl, rfl, rfl, rfl, rfl, rfl, rfl⟩ _ rfl)
  clear hr1 hk1 K1 g1 HR1
  obtain ⟨q0, q1, q2, q3, q4, q5, q6, q7, q8, q9⟩ := zero_cells HZR.out
  have u0 := free_at HZR.out 0
  have u1 := free_at HZR.out 1
  have u2 := free_at HZR.out 2
  have u3 := free_at HZR.out 3
  have u4 := free_at HZR.out 4
  have u5 := free_at HZR.out 5
  have u6 := free_at HZR.out 6
  have u7 := free_at HZR.out 7
  have u8 := free_at HZR.out 8
  have u9 := free_at HZR.out 9
  go_wp2
  exact fin_rules Tryz.results69 rfl rfl HS.out
end Go.Proofs.YtlhhgenpcjjajaaGreatDoor
namespace Go.Proofs.YtlhhgenpcjjajaaGreatDoor
open Go.RowKit
structure St (bm bB bD : Nat) (w cw : World) (rs : List (Ru × Value)) (ms : List (Nat × List (List ByteArray × Ru))) : Prop where
  k : Kept [] w cw
  g : cw.heap[w.heap.size]? = some (.cells zeroRules 172 (0, 0))
  t : Tab cw
  lt : bm < w.heap.size
  hrs : ∀ p ∈ rs, IsRu bm bB bD p.1 p.2 cw
  hms : ∀ p ∈ ms, IsMap bm bB bD p.1 p.2 (.map (some p.1)) cw ∧ w.heap.size ≤ p.1 ∧ p.1 ≠ bm
  nd : (ms.map (·.1)).Nodup
theorem St.start (bm bB bD : Nat) (w : World) (ht : Tab w) (hbm : bm < w.heap.size) : ∃ W, W = w.alloc (.cells zeroRules 172 (0, 0)) ∧ St bm bB bD w W [] [] :=
  ⟨_, rfl, (Kept.refl _ _).alloc _, heap_alloc_at w _, ht.fr (bm := bm) (.of_kept0 ((Kept.refl _ _).alloc _)), hbm, (fun _ h => (by cases h)), (fun _ h => (by cases h)), (by simp)⟩
theorem St.call0 {bm bB bD : Nat} {w cw cw' : World} {rs : List (Ru × Value)} {ms : List (Nat × List (List ByteArray × Ru))} (s : St bm bB bD w cw rs ms) (hk : Kept [] cw cw') : St bm bB bD w cw' rs ms :=
  have f : FrN bm cw cw' := .of_kept0 hk
  ⟨s.k.trans hk, hk.at s.g (by simp), s.t.fr f, s.lt, fun p hp => (s.hrs p hp).fr f, fun p hp => ⟨(s.hms p hp).1.fr f (hk.block _ (s.hms p hp).1.lt (by simp)), (s.hms p hp).2⟩, s.nd⟩
theorem St.call {bm bB bD : Nat} {w cw cw' : World} {rs : List (Ru × Value)} {ms : List (Nat × List (List ByteArray × Ru))} {r : Ru} {v : Value} (s : St bm bB bD w cw rs ms) (hk : Kept [] cw cw') (hr : IsRu bm bB bD r v cw') : St bm bB bD w cw' ((r, v) :: rs) ms :=
  have s' := s.call0 hk
  ⟨s'.k, s'.g, s'.t, s'.lt, fun p hp => by
    rcases List.mem_cons.1 hp with rfl | hp
    · exact hr
    · exact s'.hrs p hp, s'.hms, s'.nd⟩
theorem St.map {bm bB bD : Nat} {w cw : World} {rs : List (Ru × Value)} {ms : List (Nat × List (List ByteArray × Ru))} (s : St bm bB bD w cw rs ms) : ∃ W b, W = cw.alloc (.map #[] 0) ∧ b = cw.heap.size ∧ St bm bB bD w W rs ((b, []) :: ms) := by
  have hk : Kept [] cw (cw.alloc (.map #[] 0)) := (Kept.refl _ _).alloc _
  have s' := s.call0 hk
  refine ⟨_, _, rfl, rfl, s'.k, s'.g, s'.t, s'.lt, s'.hrs, fun p hp => ?_, ?_⟩
  · rcases List.mem_cons.1 hp with rfl | hp
    · exact ⟨map_new bm bB bD cw, s.k.size, by have := s.k.size; have := s.lt; show cw.heap.size ≠ bm; omega⟩
    · exact s'.hms p hp
  · rw [List.map_cons, List.nodup_cons]
    refine ⟨fun hm => ?_, s.nd⟩
    obtain ⟨p, hp, e⟩ := List.mem_map.1 hm
    have := (s.hms p hp).1.lt
    simp at e
    omega
theorem St.on {bm bB bD b : Nat} {w cw cw' : World} {rs : List (Ru × Value)} {R R' : List (List ByteArray × Ru)} {ms : List (Nat × List (List ByteArray × Ru))} (s : St bm bB bD w cw rs ((b, R) :: ms)) (hk : Kept [b] cw cw') (hf : FrN bm cw cw') (hm : IsMap bm bB bD b R' (.map (some b)) cw') : St bm bB bD w cw' rs ((b, R') :: ms) := by
  have hb := s.hms (b, R) (by simp)
  have hnd := s.nd
  rw [List.map_cons, List.nodup_cons] at hnd
  refine ⟨s.k.next hk (fun x hx => .inr (by have := List.mem_singleton.1 hx; subst this; exact hb.2.1)), hk.at s.g ?_, s.t.fr hf, s.lt, fun p hp => (s.hrs p hp).fr hf, fun p hp => ?_, s.nd⟩
  · intro hmem
    have e := List.mem_singleton.1 hmem
    obtain ⟨es, ck, ha⟩ := hb.1.at
    have hg := s.g
    rw [e] at hg
    rw [show (b, R).1 = b from rfl] at ha
    rw [ha] at hg
    cases hg
  · rcases List.mem_cons.1 hp with rfl | hp
    · exact ⟨hm, hb.2⟩
    · have h0 := s.hms p (List.mem_cons_of_mem _ hp)
      refine ⟨h0.1.fr hf (hk.block _ h0.1.lt fun hmem => ?_), h0.2⟩
      have e := List.mem_singleton.1 hmem
      exact hnd.1 (e ▸ List.mem_map.2 ⟨p, hp, rfl⟩)
theorem St.at {bm bB bD : Nat} {w cw : World} {rs : List (Ru × Value)} {ms : List (Nat × List (List ByteArray × Ru))} (s : St bm bB bD w cw rs ms) {r : Ru} {v : Value} (h : (r, v) ∈ rs) : IsRu bm bB bD r v cw := s.hrs (r, v) h
theorem St.mapAt {bm bB bD : Nat} {w cw : World} {rs : List (Ru × Value)} {ms : List (Nat × List (List ByteArray × Ru))} (s : St bm bB bD w cw rs ms) {b : Nat} {R : List (List ByteArray × Ru)} (h : (b, R) ∈ ms) : IsMapO bm bB bD (some R) (.map (some b)) cw := ⟨b, (s.hms (b, R) h).1⟩
theorem table_Ask (bm : Nat) (w : World) : Calls Tryz.prog 128 #[] w fun e w' => (∃ v, e = .returned v ∧ Ask bm v (hasS [⟨#[116, 97, 98, 108, 101]⟩]) w') ∧ Kept [] w w' := by
  obtain ⟨W, hW, K, g, z⟩ := alloc_named w (.cells #[.string ⟨#[116, 97, 98, 108, 101]⟩] 9 (0, 0))
  have C := hide (is_Ask bm w.heap.size 1 [⟨#[116, 97, 98, 108, 101]⟩] W g (by decide))
  have HW := hide hW
  have HK := hide K
  clear hW K g z
  go_enter Tryz.func128, Tryz.ntmps128
  go_wp2_with fail
  rw [← HW.out]
  refine C.out.mono ?_
  rintro e w' ⟨⟨v, rfl, ha⟩, hk⟩
  have HA := hide ha
  have HK2 := hide (HK.out.trans hk)
  obtain ⟨f, a, l, hv⟩ := ha.func
  subst hv
  clear ha hk
  go_wp2
  go_ret
  exact ⟨⟨_, rfl, HA.out⟩, HK2.out⟩
theorem tableBodies_Ask (bm : Nat) (w : World) : Calls Tryz.prog 140 #[] w fun e w' => (∃ v, e = .returned v ∧ Ask bm v (hasS [⟨#[116, 98, 111, 100, 121]⟩, ⟨#[116, 102, 111, 111, 116]⟩, ⟨#[116, 104, 101, 97, 100]⟩]) w') ∧ Kept [] w w' := by
  obtain ⟨W, hW, K, g, z⟩ := alloc_named w (.cells #[.string ⟨#[116, 98, 111, 100, 121]⟩, .string ⟨#[116, 102, 111, 111, 116]⟩, .string ⟨#[116, 104, 101, 97, 100]⟩] 9 (0, 0))
  have C := hide (is_Ask bm w.heap.size 3 [⟨#[116, 98, 111, 100, 121]⟩, ⟨#[116, 102, 111, 111, 116]⟩, ⟨#[116, 104, 101, 97, 100]⟩] W g (by decide))
  have HW := hide hW
  have HK := hide K
  clear hW K g z
  go_enter Tryz.func140, Tryz.ntmps140
  go_wp2_with fail
  rw [← HW.out]
  refine C.out.mono ?_
  rintro e w' ⟨⟨v, rfl, ha⟩, hk⟩
  have HA := hide ha
  have HK2 := hide (HK.out.trans hk)
  obtain ⟨f, a, l, hv⟩ := ha.func
  subst hv
  clear ha hk
  go_wp2
  go_ret
  exact ⟨⟨_, rfl, HA.out⟩, HK2.out⟩
end Go.Proofs.YtlhhgenpcjjajaaGreatDoor
