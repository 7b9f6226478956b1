import Derived.Test.YtnlmfklpebekdaaGreatDoorRdY
set_option linter.unusedSimpArgs false
set_option linter.unusedVariables false
namespace Go.Proofs.YtnlmfklpebekdaaGreatDoor
open Go.RowKit Go.PlainAid

/-- A token: a limit that is passed, or its kind and where it ends. -/
inductive Tok where
  | stop
  | tok (kd : Nat) (e : Nat)
def IsTok (a b : Int) (v : Value) : Nat → Prop
  | 0 => v = .iface 133 (.agg #[.int .i64 a, .int .i64 b])
  | 1 => ∃ t, v = .iface 135 (.agg #[.int .i64 a, .int .i64 b, .string t])
  | 2 => ∃ nm ao n cp, v = .iface 140 (.agg #[.int .i64 a, .int .i64 b, .string nm, .slice ao n cp])
  | 3 => ∃ nm ao n cp, v = .iface 141 (.agg #[.int .i64 a, .int .i64 b, .string nm, .slice ao n cp])
  | 4 => ∃ t, v = .iface 142 (.agg #[.int .i64 a, .int .i64 b, .string t])
  | 5 => ∃ nm qk, v = .iface 144 (.agg #[.int .i64 a, .int .i64 b, .string nm, .bool qk])
  | 6 => v = .iface 145 (.agg #[.int .i64 a, .int .i64 b])
  | _ => False
def TokPost (w : World) (r : Nat) (R : RC) (bg : Nat) (cut : Nat → Nat) (e : Ending) (w' : World) : Tok → Prop
  | .stop => ∃ k, e = .panicked [{ v := .iface 68 (.pointer (some ⟨k, 0, none⟩)), recovered := false }] ∧ stopAt w' k 7 (cut bg) ∧ w.heap.size ≤ k ∧ Kept [r] w w'
  | .tok kd m => (∃ v, e = .returned v ∧ IsTok (cut bg) (cut m) v kd) ∧ Kept [r] w w' ∧ Rd w' r R bg m
theorem TokPost.back {w w1 : World} {r : Nat} {R : RC} {bg : Nat} {cut : Nat → Nat} {e : Ending} {w' : World} {T : Tok} (h : TokPost w1 r R bg cut e w' T) (hk : Kept [r] w w1) : TokPost w r R bg cut e w' T := by
  cases T with
  | stop => obtain ⟨k, h1, h2, h3, h4⟩ := h; exact ⟨k, h1, h2, Nat.le_trans hk.size h3, hk.trans h4⟩
  | tok kd m => exact ⟨h.1, hk.trans h.2.1, h.2.2⟩
def tagTok (R : RC) (kd : Nat) : TagOut → Tok
  | .stop => .stop
  | .lost => .tok 6 R.cs.size
  | .whole m => .tok kd m
/-- What a reader needs. -/
structure Ok (w : World) (r : Nat) (R : RC) (g cap b lg : Nat) (look : ByteArray → Option ByteArray) (cut : Nat → Nat) : Prop where
  ats : Ats w r R g cap cut
  nms : Nm w r R b lg look
  gl : Gl w r
  small : R.cs.size ≤ 1024
theorem Ok.kept {w w' : World} {r : Nat} {R : RC} {g cap b lg : Nat} {look : ByteArray → Option ByteArray} {cut : Nat → Nat} (h : Ok w r R g cap b lg look cut) (hk : Kept [r] w w') : Ok w' r R g cap b lg look cut :=
  ⟨h.ats.kept hk, h.nms.kept hk, h.gl.kept hk, h.small⟩

set_option maxRecDepth 100000 in
set_option maxHeartbeats 1000000 in
theorem startTag_any (r : Nat) (R : RC) (bg ps g cap b lg : Nat) (look : ByteArray → Option ByteArray) (cut : Nat → Nat) (w : World) (h : Rd w r R bg ps) (hO : Ok w r R g cap b lg look cut) (hb : bg ≤ R.cs.size) (hp : ps ≤ R.cs.size) :
    Calls Tryz.prog 57 #[.pointer (some ⟨r, 0, none⟩)] w fun e w' => TokPost w r R bg cut e w' (tagTok R 2 (tagGo R [] (tagA R ps))) := by
  have C := hide (tag_any r R bg ps g cap b lg look cut w h hO.ats hO.nms hO.gl hb hp hO.small)
  have HO := hide hO
  generalize tagGo R [] (tagA R ps) = O at C ⊢
  clear h hO
  cases O with
  | stop =>
    go_enter Tryz.func57, Tryz.ntmps57
    go_wp2_with fail
    refine C.out.mono ?_
    rintro e w1 ⟨k, rfl, h2, h3, h4⟩
    have H2 := hide h2
    have H4 := hide h4
    clear h2 h4
    go_wp2
    exact ⟨rfl, k, rfl, H2.out, h3, H4.out⟩
  | lost =>
    go_enter Tryz.func57, Tryz.ntmps57
    go_wp2_with fail
    refine C.out.mono ?_
    rintro e w1 ⟨rfl, hk, hr⟩
    have HK := hide hk
    have k2 : Kept [] w1 (w1.alloc (.cells #[.int .i64 0, .int .i64 0, .string ⟨#[]⟩, .slice none 0 0] 138)) := (Kept.refl _ _).alloc _
    have HR := hide (hr.kept k2 (by simp))
    have HK2 := hide (hk.trans (k2.mono (by simp)))
    have CP := hide (place_any r R bg R.cs.size g cap cut _ HR.out (HO.out.kept HK2.out).ats hb (Nat.le_refl _) HO.out.small)
    clear hk hr k2
    go_wp2_with fail
    refine CP.out.mono ?_
    rintro e w2 ⟨rfl, hk2⟩
    have HK3 := hide (HK2.out.trans (hk2.mono (by simp)))
    have HR3 := hide (HR.out.kept hk2 (by simp))
    clear hk2 CP
    go_wp2
    go_ret
    exact ⟨⟨_, rfl, rfl⟩, HK3.out, HR3.out⟩
  | whole m =>
    go_enter Tryz.func57, Tryz.ntmps57
    go_wp2_with fail
    refine C.out.mono ?_
    rintro e w1 ⟨⟨nm, ao, n, cp, rfl⟩, hk, hr⟩
    have k2 : Kept [] w1 (w1.alloc (.cells #[.int .i64 (cut bg : Int), .int .i64 (cut m : Int), .string nm, .slice ao n cp] 138)) := (Kept.refl _ _).alloc _
    have HR := hide (hr.kept k2 (by simp))
    have HK2 := hide (hk.trans (k2.mono (by simp)))
    clear hk hr k2
    go_wp2
    go_ret
    exact ⟨⟨_, rfl, nm, ao, n, cp, rfl⟩, HK2.out, HR.out⟩

set_option maxRecDepth 100000 in
set_option maxHeartbeats 1000000 in
theorem endTag_any (r : Nat) (R : RC) (bg ps g cap b lg : Nat) (look : ByteArray → Option ByteArray) (cut : Nat → Nat) (w : World) (h : Rd w r R bg ps) (hO : Ok w r R g cap b lg look cut) (hb : bg ≤ R.cs.size) (hp : ps ≤ R.cs.size) :
    Calls Tryz.prog 67 #[.pointer (some ⟨r, 0, none⟩)] w fun e w' => TokPost w r R bg cut e w' (tagTok R 3 (tagGo R [] (tagA R ps))) := by
  have C := hide (tag_any r R bg ps g cap b lg look cut w h hO.ats hO.nms hO.gl hb hp hO.small)
  have HO := hide hO
  generalize tagGo R [] (tagA R ps) = O at C ⊢
  clear h hO
  cases O with
  | stop =>
    go_enter Tryz.func67, Tryz.ntmps67
    go_wp2_with fail
    refine C.out.mono ?_
    rintro e w1 ⟨k, rfl, h2, h3, h4⟩
    have H2 := hide h2
    have H4 := hide h4
    clear h2 h4
    go_wp2
    exact ⟨rfl, k, rfl, H2.out, h3, H4.out⟩
  | lost =>
    go_enter Tryz.func67, Tryz.ntmps67
    go_wp2_with fail
    refine C.out.mono ?_
    rintro e w1 ⟨rfl, hk, hr⟩
    have HK := hide hk
    have k2 : Kept [] w1 (w1.alloc (.cells #[.int .i64 0, .int .i64 0, .string ⟨#[]⟩, .slice none 0 0] 138)) := (Kept.refl _ _).alloc _
    have HR := hide (hr.kept k2 (by simp))
    have HK2 := hide (hk.trans (k2.mono (by simp)))
    have CP := hide (place_any r R bg R.cs.size g cap cut _ HR.out (HO.out.kept HK2.out).ats hb (Nat.le_refl _) HO.out.small)
    clear hk hr k2
    go_wp2_with fail
    refine CP.out.mono ?_
    rintro e w2 ⟨rfl, hk2⟩
    have HK3 := hide (HK2.out.trans (hk2.mono (by simp)))
    have HR3 := hide (HR.out.kept hk2 (by simp))
    clear hk2 CP
    go_wp2
    go_ret
    exact ⟨⟨_, rfl, rfl⟩, HK3.out, HR3.out⟩
  | whole m =>
    go_enter Tryz.func67, Tryz.ntmps67
    go_wp2_with fail
    refine C.out.mono ?_
    rintro e w1 ⟨⟨nm, ao, n, cp, rfl⟩, hk, hr⟩
    have k2 : Kept [] w1 (w1.alloc (.cells #[.int .i64 (cut bg : Int), .int .i64 (cut m : Int), .string nm, .slice ao n cp] 138)) := (Kept.refl _ _).alloc _
    have HR := hide (hr.kept k2 (by simp))
    have HK2 := hide (hk.trans (k2.mono (by simp)))
    clear hk hr k2
    go_wp2
    go_ret
    exact ⟨⟨_, rfl, nm, ao, n, cp, rfl⟩, HK2.out, HR.out⟩
end Go.Proofs.YtnlmfklpebekdaaGreatDoor

namespace Go.Proofs.YtnlmfklpebekdaaGreatDoor
open Go.RowKit Go.PlainAid

def isLet (R : RC) (ps : Nat) : Bool := decide (ps < R.cs.size) && decide (97 ≤ bt R.cs ps ∧ bt R.cs ps ≤ 122 ∨ 65 ≤ bt R.cs ps ∧ bt R.cs ps ≤ 90)
def charTok (R : RC) (look : ByteArray → Option ByteArray) (lg bg : Nat) : Tok := .tok 1 (bg + charSize look lg (R.cs.extract bg R.cs.size))
/-- Behind "</". -/
def slashTok (R : RC) (look : ByteArray → Option ByteArray) (lg bg ps : Nat) : Tok :=
  if isLet R ps = true then tagTok R 3 (tagGo R [] (tagA R ps))
  else if pre (R.cs.extract ps R.cs.size) ⟨#[62]⟩ = true then .tok 6 (ps + 1)
  else if ps = R.cs.size then charTok R look lg bg
  else .tok 4 (gtEnd R ps)
theorem isNext_letter (r : Nat) (R : RC) (bg ps : Nat) (w : World) (h : Rd w r R bg ps) (hp : ps ≤ R.cs.size) (hs : R.cs.size ≤ 1024) :
    Calls Tryz.prog 55 #[.pointer (some ⟨r, 0, none⟩), .func (.func 56) #[] #[]] w fun e w' => e = .returned (.bool (isLet R ps)) ∧ ∃ n, w' = w.drewN n :=
  isNext_any r R bg ps _ _ _ w h hp hs (letter_asks w [r])
theorem char_tok (r : Nat) (R : RC) (bg ps g cap b lg : Nat) (look : ByteArray → Option ByteArray) (cut : Nat → Nat) (w : World) (h : Rd w r R bg ps) (hO : Ok w r R g cap b lg look cut) (hb : bg < R.cs.size) :
    Calls Tryz.prog 52 #[.pointer (some ⟨r, 0, none⟩)] w fun e w' => TokPost w r R bg cut e w' (charTok R look lg bg) := by
  refine (char_any r R bg ps g cap b lg look cut w h hO.ats hO.nms.lk hO.nms.ne hO.nms.mv hO.nms.lgv hO.nms.le hb hO.small).mono ?_
  rintro e w' ⟨⟨t, rfl⟩, hk, hr⟩
  exact ⟨⟨_, rfl, t, rfl⟩, hk, hr⟩

set_option maxRecDepth 100000 in
set_option maxHeartbeats 1000000 in
theorem behindSlash_any (r : Nat) (R : RC) (bg ps g cap b lg : Nat) (look : ByteArray → Option ByteArray) (cut : Nat → Nat) (w : World) (h : Rd w r R bg ps) (hO : Ok w r R g cap b lg look cut) (hb : bg < R.cs.size) (hp : ps ≤ R.cs.size) :
    Calls Tryz.prog 58 #[.pointer (some ⟨r, 0, none⟩)] w fun e w' => TokPost w r R bg cut e w' (slashTok R look lg bg ps) := by
  have HO := hide hO
  have HR := hide h
  have hs := hO.small
  have CL := isNext_letter r R bg ps w h hp hs
  have hmf : ∀ (fn : Fn) (first cap : Array Value) (w : World), (Instr.makeFunc fn first cap).run Tryz.prog w = .ok (.func fn first cap) w := fun _ _ _ _ => rfl
  clear h hO
  cases hl : isLet R ps
  · rw [hl] at CL
    have HCL := hide CL
    have CT := fun q => take_any r R bg ps ⟨#[62]⟩ (w.drewN q) (show Rd (w.drewN q) r R bg ps from HR.out) hp hs (by decide)
    clear CL
    cases hgt : pre (R.cs.extract ps R.cs.size) ⟨#[62]⟩
    · have htk : taken R ⟨#[62]⟩ ps = ps := by unfold taken; rw [if_neg (by simp [hgt])]
      rw [hgt, htk] at CT
      have HCT := hide CT
      clear CT htk
      by_cases hend : ps = R.cs.size
      · have eT : slashTok R look lg bg ps = charTok R look lg bg := by unfold slashTok; rw [if_neg (by simp [hl]), if_neg (by simp [hgt]), if_pos hend]
        rw [eT]
        have e3 : decide (ps = R.cs.size) = true := by simp [hend]
        clear eT hl hgt
        go_enter Tryz.func58, Tryz.ntmps58
        go_wp2_with fail
        refine HCL.out.mono ?_
        rintro e w1 ⟨rfl, q, rfl⟩
        go_wp2_with fail
        refine (HCT.out q).mono ?_
        rintro e w2 ⟨rfl, hk2, hr2⟩
        have HK2 := hide (((Kept.refl [r] w).drewN q).trans hk2)
        have CE := atEnd_any r R bg ps w2 hr2
        rw [e3] at CE
        have HCE := hide CE
        have HR2 := hide hr2
        clear CE hk2 hr2
        go_wp2_with fail
        refine HCE.out.mono ?_
        rintro e w3 ⟨rfl, q3, rfl⟩
        have CC := hide (char_tok r R bg ps g cap b lg look cut (w2.drewN q3) (show Rd (w2.drewN q3) r R bg ps from HR2.out) (HO.out.kept (HK2.out.drewN q3)) hb)
        go_wp2_with fail
        refine CC.out.mono ?_
        rintro e w4 ⟨⟨v, rfl, hv⟩, hk4, hr4⟩
        have HF := hide (show TokPost w r R bg cut (.returned v) w4 (charTok R look lg bg) from ⟨⟨v, rfl, hv⟩, (HK2.out.drewN q3).trans hk4, hr4⟩)
        clear hv hk4 hr4 CC
        go_wp2
        go_ret
        exact HF.out
      · have eT : slashTok R look lg bg ps = .tok 4 (gtEnd R ps) := by unfold slashTok; rw [if_neg (by simp [hl]), if_neg (by simp [hgt]), if_neg hend]
        rw [eT]
        have e3 : decide (ps = R.cs.size) = false := by simp [hend]
        clear eT hl hgt
        go_enter Tryz.func58, Tryz.ntmps58
        go_wp2_with fail
        refine HCL.out.mono ?_
        rintro e w1 ⟨rfl, q, rfl⟩
        go_wp2_with fail
        refine (HCT.out q).mono ?_
        rintro e w2 ⟨rfl, hk2, hr2⟩
        have HK2 := hide (((Kept.refl [r] w).drewN q).trans hk2)
        have CE := atEnd_any r R bg ps w2 hr2
        rw [e3] at CE
        have HCE := hide CE
        have HR2 := hide hr2
        clear CE hk2 hr2
        go_wp2_with fail
        refine HCE.out.mono ?_
        rintro e w3 ⟨rfl, q3, rfl⟩
        have HO3 := hide (HO.out.kept (HK2.out.drewN q3))
        have CC := hide (looseComment_any r R bg ps g cap cut (w2.drewN q3) (show Rd (w2.drewN q3) r R bg ps from HR2.out) HO3.out.ats HO3.out.gl (by omega) hp hs)
        go_wp2_with fail
        refine CC.out.mono ?_
        rintro e w4 ⟨rfl, hk4, hr4⟩
        have HK4 := hide ((HK2.out.drewN q3).trans hk4)
        have HR4 := hide hr4
        clear hk4 hr4 CC
        go_wp2
        go_ret
        exact ⟨⟨_, rfl, _, rfl⟩, HK4.out, HR4.out⟩
    · have htk : taken R ⟨#[62]⟩ ps = ps + 1 := by unfold taken; rw [if_pos hgt]; rfl
      have hle : ps + 1 ≤ R.cs.size := pre_rest hgt hp
      rw [hgt, htk] at CT
      have HCT := hide CT
      have eT : slashTok R look lg bg ps = .tok 6 (ps + 1) := by unfold slashTok; rw [if_neg (by simp [hl]), if_pos hgt]
      rw [eT]
      clear CT htk eT hl hgt
      go_enter Tryz.func58, Tryz.ntmps58
      go_wp2_with fail
      refine HCL.out.mono ?_
      rintro e w1 ⟨rfl, q, rfl⟩
      go_wp2_with fail
      refine (HCT.out q).mono ?_
      rintro e w2 ⟨rfl, hk2, hr2⟩
      have HK2 := hide (((Kept.refl [r] w).drewN q).trans hk2)
      have CP := hide (place_any r R bg (ps + 1) g cap cut w2 hr2 (HO.out.kept HK2.out).ats (by omega) hle hs)
      have HR2 := hide hr2
      clear hk2 hr2
      go_wp2_with fail
      refine CP.out.mono ?_
      rintro e w3 ⟨rfl, hk3⟩
      have HK3 := hide (HK2.out.trans (hk3.mono (by simp)))
      have HR3 := hide (HR2.out.kept hk3 (by simp))
      clear hk3 CP
      go_wp2
      go_ret
      exact ⟨⟨_, rfl, rfl⟩, HK3.out, HR3.out⟩
  · rw [hl] at CL
    have HCL := hide CL
    have eT : slashTok R look lg bg ps = tagTok R 3 (tagGo R [] (tagA R ps)) := by unfold slashTok; rw [if_pos hl]
    rw [eT]
    have CC := hide (fun q => endTag_any r R bg ps g cap b lg look cut (w.drewN q) (show Rd (w.drewN q) r R bg ps from HR.out) (HO.out.kept ((Kept.refl [r] w).drewN q)) (by omega) hp)
    generalize tagTok R 3 (tagGo R [] (tagA R ps)) = T at CC ⊢
    clear CL eT hl
    cases T with
    | stop =>
      go_enter Tryz.func58, Tryz.ntmps58
      go_wp2_with fail
      refine HCL.out.mono ?_
      rintro e w1 ⟨rfl, q, rfl⟩
      go_wp2_with fail
      refine (CC.out q).mono ?_
      rintro e w1 ⟨k, rfl, h2, h3, h4⟩
      have H2 := hide h2
      have H4 := hide (((Kept.refl [r] w).drewN q).trans h4)
      have h3' : w.heap.size ≤ k := h3
      clear h2 h4 h3
      go_wp2
      exact ⟨rfl, k, rfl, H2.out, h3', H4.out⟩
    | tok kd m =>
      go_enter Tryz.func58, Tryz.ntmps58
      go_wp2_with fail
      refine HCL.out.mono ?_
      rintro e w1 ⟨rfl, q, rfl⟩
      go_wp2_with fail
      refine (CC.out q).mono ?_
      rintro e w4 ⟨⟨v, rfl, hv⟩, hk4, hr4⟩
      have HF := hide (show TokPost w r R bg cut (.returned v) w4 (.tok kd m) from ⟨⟨v, rfl, hv⟩, ((Kept.refl [r] w).drewN q).trans hk4, hr4⟩)
      clear hv hk4 hr4 CC
      go_wp2
      go_ret
      exact HF.out
end Go.Proofs.YtnlmfklpebekdaaGreatDoor
