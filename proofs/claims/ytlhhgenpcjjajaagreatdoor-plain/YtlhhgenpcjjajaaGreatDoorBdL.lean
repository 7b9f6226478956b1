import Derived.Test.YtlhhgenpcjjajaaGreatDoorOfD
import Derived.Test.YtlhhgenpcjjajaaGreatDoorOfB
import Derived.Sort.BigQuietIn
import Derived.RegionIn
import Derived.TacticsIn
import Derived.Test.YtlhhgenpcjjajaaGreatDoorAbC
set_option linter.unusedSimpArgs false
set_option linter.unusedVariables false
namespace Go.Proofs.YtlhhgenpcjjajaaGreatDoor
open Go.RowKit
set_option maxHeartbeats 2000000 in
theorem startOther_p (E : Env) (hF : FosterOk E) (t : ATok) (ht : TokOk E t) : Does E 122 (fun _ => #[Bp E, tokV E t]) (startOther t) uV := by
  intro f σ w h hs
  obtain ⟨R, hR⟩ : ∃ R, R = (startOther t) σ := ⟨_, rfl⟩
  rw [← hR] at hs ⊢
  unfold startOther at hR
  have HS := hide hs
  have H := hide (At.start h)
  have HR := hide hR
  clear h hs hR
  go_enter Tryz.func122, Tryz.ntmps122
  go_wp2_with fail
  refine Does.call (reconstruct_p E hF) H.out HR.out HS.out (rfl) ?_ ?_
  · intro c p j ws h1 h2 h3
    have H1 := hide h1
    have H2 := hide h2
    have H3 := hide h3
    clear h1 h2 h3
    go_wp2
    exact ⟨rfl, leaves_stop H1.out H2.out H3.out⟩
  rintro (_) f σ w h1 h0 h2 h3
  have HX := hide h0
  have HF := hide h2
  clear h0
  replace H := hide h1
  replace HR := hide h3
  clear h1 h2 h3
  try dsimp only at HR
  go_wp2_with fail
  refine Does.call (insertTag_p E hF t ht) H.out HR.out HS.out (rfl) ?_ ?_
  · intro c p j ws h1 h2 h3
    have H1 := hide h1
    have H2 := hide h2
    have H3 := hide h3
    clear h1 h2 h3
    go_wp2
    exact ⟨rfl, leaves_stop H1.out H2.out H3.out⟩
  rintro (_) f σ w h1 h0 h2 h3
  have HX := hide h0
  have HF := hide h2
  clear h0
  replace H := hide h1
  replace HR := hide h3
  clear h1 h2 h3
  try dsimp only at HR
  go_wp2
  go_end0
  exact leaves_ok HR.out H.out rfl
set_option maxHeartbeats 2000000 in
theorem startVoid_p (E : Env) (hF : FosterOk E) (t : ATok) (ht : TokOk E t) : Does E 204 (fun _ => #[Bp E, tokV E t]) (startVoid t) uV := by
  intro f σ w h hs
  obtain ⟨R, hR⟩ : ∃ R, R = (startVoid t) σ := ⟨_, rfl⟩
  rw [← hR] at hs ⊢
  unfold startVoid at hR
  have HS := hide hs
  have H := hide (At.start h)
  have HR := hide hR
  clear h hs hR
  go_enter Tryz.func204, Tryz.ntmps204
  go_wp2_with fail
  refine Does.call (reconstruct_p E hF) H.out HR.out HS.out (rfl) ?_ ?_
  · intro c p j ws h1 h2 h3
    have H1 := hide h1
    have H2 := hide h2
    have H3 := hide h3
    clear h1 h2 h3
    go_wp2
    exact ⟨rfl, leaves_stop H1.out H2.out H3.out⟩
  rintro (_) f σ w h1 h0 h2 h3
  have HX := hide h0
  have HF := hide h2
  clear h0
  replace H := hide h1
  replace HR := hide h3
  clear h1 h2 h3
  try dsimp only at HR
  go_wp2_with fail
  refine Does.call (insertVoid_p E hF t ht) H.out HR.out HS.out (rfl) ?_ ?_
  · intro c p j ws h1 h2 h3
    have H1 := hide h1
    have H2 := hide h2
    have H3 := hide h3
    clear h1 h2 h3
    go_wp2
    exact ⟨rfl, leaves_stop H1.out H2.out H3.out⟩
  rintro (_) f σ w h1 h0 h2 h3
  have HX := hide h0
  have HF := hide h2
  clear h0
  replace H := hide h1
  replace HR := hide h3
  clear h1 h2 h3
  try dsimp only at HR
  go_wp2
  go_end0
  exact leaves_ok HR.out H.out rfl
set_option maxHeartbeats 2000000 in
theorem charInBody_p (E : Env) (hF : FosterOk E) (t : ATok) : Does E 120 (fun _ => #[Bp E, tokV E t]) (charInBody t) uV := by
  intro f σ w h hs
  obtain ⟨R, hR⟩ : ∃ R, R = (charInBody t) σ := ⟨_, rfl⟩
  rw [← hR] at hs ⊢
  unfold charInBody at hR
  have HS := hide hs
  have H := hide (At.start h)
  have HR := hide hR
  clear h hs hR
  go_enter Tryz.func120, Tryz.ntmps120
  have C := hide (isNul_ok E t w)
  cases hn : isNulS t.chars with
  | true =>
    rw [hn] at C HR
    replace HR : Hid (R = .ok () σ) := HR
    clear hn
    go_wp2_with fail
    refine C.out.mono ?_
    rintro e w ⟨rfl, hk⟩
    replace H := hide (H.out.k0 hk)
    clear hk
    go_wp2
    go_end0
    exact leaves_ok HR.out H.out rfl
  | false =>
    rw [hn] at C HR
    replace HR : Hid (R = (reconstruct >>= fun _ => (do insertChar t; return () : M Unit)) σ) := HR
    clear hn
    go_wp2_with fail
    refine C.out.mono ?_
    rintro e w ⟨rfl, hk⟩
    replace H := hide (H.out.k0 hk)
    clear hk
    go_wp2_with fail
    refine Does.call (reconstruct_p E hF) H.out HR.out HS.out (rfl) ?_ ?_
    · intro c p j ws h1 h2 h3
      have H1 := hide h1
      have H2 := hide h2
      have H3 := hide h3
      clear h1 h2 h3
      go_wp2
      exact ⟨rfl, leaves_stop H1.out H2.out H3.out⟩
    rintro (_) f σ w h1 h0 h2 h3
    have HX := hide h0
    have HF := hide h2
    clear h0
    replace H := hide h1
    replace HR := hide h3
    clear h1 h2 h3
    try dsimp only at HR
    go_wp2_with fail
    refine Does.call (insertChar_p E hF t) H.out HR.out HS.out (rfl) ?_ ?_
    · intro c p j ws h1 h2 h3
      have H1 := hide h1
      have H2 := hide h2
      have H3 := hide h3
      clear h1 h2 h3
      go_wp2
      exact ⟨rfl, leaves_stop H1.out H2.out H3.out⟩
    rintro (_) f σ w h1 h0 h2 h3
    have HX := hide h0
    have HF := hide h2
    clear h0
    replace H := hide h1
    replace HR := hide h3
    clear h1 h2 h3
    try dsimp only at HR
    go_wp2
    go_end0
    exact leaves_ok HR.out H.out rfl
set_option maxHeartbeats 2000000 in
theorem charInSelect_p (E : Env) (hF : FosterOk E) (t : ATok) : Does E 146 (fun _ => #[Bp E, tokV E t]) (charInSelect t) uV := by
  intro f σ w h hs
  obtain ⟨R, hR⟩ : ∃ R, R = (charInSelect t) σ := ⟨_, rfl⟩
  rw [← hR] at hs ⊢
  unfold charInSelect at hR
  have HS := hide hs
  have H := hide (At.start h)
  have HR := hide hR
  clear h hs hR
  go_enter Tryz.func146, Tryz.ntmps146
  have C := hide (isNul_ok E t w)
  cases hn : isNulS t.chars with
  | true =>
    rw [hn] at C HR
    replace HR : Hid (R = .ok () σ) := HR
    clear hn
    go_wp2_with fail
    refine C.out.mono ?_
    rintro e w ⟨rfl, hk⟩
    replace H := hide (H.out.k0 hk)
    clear hk
    go_wp2
    go_end0
    exact leaves_ok HR.out H.out rfl
  | false =>
    rw [hn] at C HR
    replace HR : Hid (R = (insertChar t >>= fun _ => (pure () : M Unit)) σ) := HR
    clear hn
    go_wp2_with fail
    refine C.out.mono ?_
    rintro e w ⟨rfl, hk⟩
    replace H := hide (H.out.k0 hk)
    clear hk
    go_wp2_with fail
    refine Does.call (insertChar_p E hF t) H.out HR.out HS.out (rfl) ?_ ?_
    · intro c p j ws h1 h2 h3
      have H1 := hide h1
      have H2 := hide h2
      have H3 := hide h3
      clear h1 h2 h3
      go_wp2
      exact ⟨rfl, leaves_stop H1.out H2.out H3.out⟩
    rintro (_) f σ w h1 h0 h2 h3
    have HX := hide h0
    have HF := hide h2
    clear h0
    replace H := hide h1
    replace HR := hide h3
    clear h1 h2 h3
    try dsimp only at HR
    go_wp2
    go_end0
    exact leaves_ok HR.out H.out rfl
set_option maxHeartbeats 2000000 in
theorem startHeading_p (E : Env) (hF : FosterOk E) (t : ATok) (ht : TokOk E t) : Does E 195 (fun _ => #[Bp E, tokV E t]) (startHeading t) uV := by
  intro f σ w h hs
  obtain ⟨R, hR⟩ : ∃ R, R = (startHeading t) σ := ⟨_, rfl⟩
  rw [← hR] at hs ⊢
  unfold startHeading at hR
  have HS := hide hs
  have H := hide (At.start h)
  have HR := hide hR
  clear h hs hR
  go_enter Tryz.func195, Tryz.ntmps195
  go_wp2_with fail
  refine mcall (fun hm => closeP_m H.out.rel hm) H.out HR.out HS.out ?_ ?_
  · intro c p j ws h1 h2 h3
    have H1 := hide h1
    have H2 := hide h2
    have H3 := hide h3
    clear h1 h2 h3
    go_wp2
    exact ⟨rfl, leaves_stop H1.out H2.out H3.out⟩
  rintro (_) σ w h1 h2 h3
  have HF := hide h2
  replace H := hide h1
  replace HR := hide h3
  clear h1 h2 h3
  try dsimp only at HR
  go_wp2_with fail
  refine (headings_ok E _).mono ?_
  rintro e w ⟨k1, lb1, rfl, ha1, hk1⟩
  replace H := hide (H.out.k0 hk1)
  have HA1 := hide ha1
  clear ha1 hk1
  go_wp2_with fail
  refine mcall (fun _ => popIf_m H.out.rel HA1.out) H.out HR.out HS.out ?_ ?_
  · intro c p j ws h1 h2 h3
    have H1 := hide h1
    have H2 := hide h2
    have H3 := hide h3
    clear h1 h2 h3
    go_wp2
    exact ⟨rfl, leaves_stop H1.out H2.out H3.out⟩
  rintro (_) σ w h1 h2 h3
  have HF := hide h2
  replace H := hide h1
  replace HR := hide h3
  clear h1 h2 h3
  try dsimp only at HR
  go_wp2_with fail
  refine Does.call (insertTag_p E hF t ht) H.out HR.out HS.out (rfl) ?_ ?_
  · intro c p j ws h1 h2 h3
    have H1 := hide h1
    have H2 := hide h2
    have H3 := hide h3
    clear h1 h2 h3
    go_wp2
    exact ⟨rfl, leaves_stop H1.out H2.out H3.out⟩
  rintro (_) f σ w h1 h0 h2 h3
  have HX := hide h0
  have HF := hide h2
  clear h0
  replace H := hide h1
  replace HR := hide h3
  clear h1 h2 h3
  try dsimp only at HR
  go_wp2
  go_end0
  exact leaves_ok HR.out H.out rfl
set_option maxHeartbeats 2000000 in
theorem startHr_p (E : Env) (hF : FosterOk E) (t : ATok) (ht : TokOk E t) : Does E 196 (fun _ => #[Bp E, tokV E t]) (startHr t) uV := by
  intro f σ w h hs
  obtain ⟨R, hR⟩ : ∃ R, R = (startHr t) σ := ⟨_, rfl⟩
  rw [← hR] at hs ⊢
  unfold startHr at hR
  have HS := hide hs
  have H := hide (At.start h)
  have HR := hide hR
  clear h hs hR
  go_enter Tryz.func196, Tryz.ntmps196
  go_wp2_with fail
  refine mcall (fun hm => closeP_m H.out.rel hm) H.out HR.out HS.out ?_ ?_
  · intro c p j ws h1 h2 h3
    have H1 := hide h1
    have H2 := hide h2
    have H3 := hide h3
    clear h1 h2 h3
    go_wp2
    exact ⟨rfl, leaves_stop H1.out H2.out H3.out⟩
  rintro (_) σ w h1 h2 h3
  have HF := hide h2
  replace H := hide h1
  replace HR := hide h3
  clear h1 h2 h3
  try dsimp only at HR
  go_wp2_with fail
  refine Does.call (insertVoid_p E hF t ht) H.out HR.out HS.out (rfl) ?_ ?_
  · intro c p j ws h1 h2 h3
    have H1 := hide h1
    have H2 := hide h2
    have H3 := hide h3
    clear h1 h2 h3
    go_wp2
    exact ⟨rfl, leaves_stop H1.out H2.out H3.out⟩
  rintro (_) f σ w h1 h0 h2 h3
  have HX := hide h0
  have HF := hide h2
  clear h0
  replace H := hide h1
  replace HR := hide h3
  clear h1 h2 h3
  try dsimp only at HR
  go_wp2
  go_end0
  exact leaves_ok HR.out H.out rfl
set_option maxHeartbeats 2000000 in
theorem startOption_p (E : Env) (hF : FosterOk E) (t : ATok) (ht : TokOk E t) : Does E 202 (fun _ => #[Bp E, tokV E t]) (startOption t) uV := by
  intro f σ w h hs
  obtain ⟨R, hR⟩ : ∃ R, R = (startOption t) σ := ⟨_, rfl⟩
  rw [← hR] at hs ⊢
  unfold startOption at hR
  have HS := hide hs
  have H := hide (At.start h)
  have HR := hide hR
  clear h hs hR
  go_enter Tryz.func202, Tryz.ntmps202
  go_wp2_with fail
  refine (is_one E [(⟨#[111, 112, 116, 105, 111, 110]⟩ : ByteArray)] _ (by decide)).mono ?_
  rintro e w ⟨k1, lb1, rfl, ha1, hk1⟩
  replace H := hide (H.out.k0 hk1)
  have HA1 := hide ha1
  clear ha1 hk1
  go_wp2_with fail
  refine mcall (fun _ => popIf_m H.out.rel HA1.out) H.out HR.out HS.out ?_ ?_
  · intro c p j ws h1 h2 h3
    have H1 := hide h1
    have H2 := hide h2
    have H3 := hide h3
    clear h1 h2 h3
    go_wp2
    exact ⟨rfl, leaves_stop H1.out H2.out H3.out⟩
  rintro (_) σ w h1 h2 h3
  have HF := hide h2
  replace H := hide h1
  replace HR := hide h3
  clear h1 h2 h3
  try dsimp only at HR
  go_wp2_with fail
  refine Does.call (startOther_p E hF t ht) H.out HR.out HS.out (rfl) ?_ ?_
  · intro c p j ws h1 h2 h3
    have H1 := hide h1
    have H2 := hide h2
    have H3 := hide h3
    clear h1 h2 h3
    go_wp2
    exact ⟨rfl, leaves_stop H1.out H2.out H3.out⟩
  rintro (_) f σ w h1 h0 h2 h3
  have HX := hide h0
  have HF := hide h2
  clear h0
  replace H := hide h1
  replace HR := hide h3
  clear h1 h2 h3
  try dsimp only at HR
  go_wp2
  go_end0
  exact leaves_ok HR.out H.out rfl
set_option maxHeartbeats 2000000 in
theorem startOptionInSelect_p (E : Env) (hF : FosterOk E) (t : ATok) (ht : TokOk E t) : Does E 147 (fun _ => #[Bp E, tokV E t]) (startOptionInSelect t) uV := by
  intro f σ w h hs
  obtain ⟨R, hR⟩ : ∃ R, R = (startOptionInSelect t) σ := ⟨_, rfl⟩
  rw [← hR] at hs ⊢
  unfold startOptionInSelect at hR
  have HS := hide hs
  have H := hide (At.start h)
  have HR := hide hR
  clear h hs hR
  go_enter Tryz.func147, Tryz.ntmps147
  go_wp2_with fail
  refine (optionQ_ok E _).mono ?_
  rintro e w ⟨k1, lb1, rfl, ha1, hk1⟩
  replace H := hide (H.out.k0 hk1)
  have HA1 := hide ha1
  clear ha1 hk1
  go_wp2_with fail
  refine mcall (fun _ => popIf_m H.out.rel HA1.out) H.out HR.out HS.out ?_ ?_
  · intro c p j ws h1 h2 h3
    have H1 := hide h1
    have H2 := hide h2
    have H3 := hide h3
    clear h1 h2 h3
    go_wp2
    exact ⟨rfl, leaves_stop H1.out H2.out H3.out⟩
  rintro (_) σ w h1 h2 h3
  have HF := hide h2
  replace H := hide h1
  replace HR := hide h3
  clear h1 h2 h3
  try dsimp only at HR
  go_wp2_with fail
  refine Does.call (insertTag_p E hF t ht) H.out HR.out HS.out (rfl) ?_ ?_
  · intro c p j ws h1 h2 h3
    have H1 := hide h1
    have H2 := hide h2
    have H3 := hide h3
    clear h1 h2 h3
    go_wp2
    exact ⟨rfl, leaves_stop H1.out H2.out H3.out⟩
  rintro (_) f σ w h1 h0 h2 h3
  have HX := hide h0
  have HF := hide h2
  clear h0
  replace H := hide h1
  replace HR := hide h3
  clear h1 h2 h3
  try dsimp only at HR
  go_wp2
  go_end0
  exact leaves_ok HR.out H.out rfl
set_option maxHeartbeats 2000000 in
theorem startOptgroupInSelect_p (E : Env) (hF : FosterOk E) (t : ATok) (ht : TokOk E t) : Does E 148 (fun _ => #[Bp E, tokV E t]) (startOptgroupInSelect t) uV := by
  intro f σ w h hs
  obtain ⟨R, hR⟩ : ∃ R, R = (startOptgroupInSelect t) σ := ⟨_, rfl⟩
  rw [← hR] at hs ⊢
  unfold startOptgroupInSelect at hR
  have HS := hide hs
  have H := hide (At.start h)
  have HR := hide hR
  clear h hs hR
  go_enter Tryz.func148, Tryz.ntmps148
  go_wp2_with fail
  refine (optionQ_ok E _).mono ?_
  rintro e w ⟨k1, lb1, rfl, ha1, hk1⟩
  replace H := hide (H.out.k0 hk1)
  have HA1 := hide ha1
  clear ha1 hk1
  go_wp2_with fail
  refine mcall (fun _ => popIf_m H.out.rel HA1.out) H.out HR.out HS.out ?_ ?_
  · intro c p j ws h1 h2 h3
    have H1 := hide h1
    have H2 := hide h2
    have H3 := hide h3
    clear h1 h2 h3
    go_wp2
    exact ⟨rfl, leaves_stop H1.out H2.out H3.out⟩
  rintro (_) σ w h1 h2 h3
  have HF := hide h2
  replace H := hide h1
  replace HR := hide h3
  clear h1 h2 h3
  try dsimp only at HR
  go_wp2_with fail
  refine (optgroupQ_ok E _).mono ?_
  rintro e w ⟨k2, lb2, rfl, ha2, hk2⟩
  replace H := hide (H.out.k0 hk2)
  have HA2 := hide ha2
  clear ha2 hk2
  go_wp2_with fail
  refine mcall (fun _ => popIf_m H.out.rel HA2.out) H.out HR.out HS.out ?_ ?_
  · intro c p j ws h1 h2 h3
    have H1 := hide h1
    have H2 := hide h2
    have H3 := hide h3
    clear h1 h2 h3
    go_wp2
    exact ⟨rfl, leaves_stop H1.out H2.out H3.out⟩
  rintro (_) σ w h1 h2 h3
  have HF := hide h2
  replace H := hide h1
  replace HR := hide h3
  clear h1 h2 h3
  try dsimp only at HR
  go_wp2_with fail
  refine Does.call (insertTag_p E hF t ht) H.out HR.out HS.out (rfl) ?_ ?_
  · intro c p j ws h1 h2 h3
    have H1 := hide h1
    have H2 := hide h2
    have H3 := hide h3
    clear h1 h2 h3
    go_wp2
    exact ⟨rfl, leaves_stop H1.out H2.out H3.out⟩
  rintro (_) f σ w h1 h0 h2 h3
  have HX := hide h0
  have HF := hide h2
  clear h0
  replace H := hide h1
  replace HR := hide h3
  clear h1 h2 h3
  try dsimp only at HR
  go_wp2
  go_end0
  exact leaves_ok HR.out H.out rfl
set_option maxHeartbeats 2000000 in
theorem startHrInSelect_p (E : Env) (hF : FosterOk E) (t : ATok) (ht : TokOk E t) : Does E 149 (fun _ => #[Bp E, tokV E t]) (startHrInSelect t) uV := by
  intro f σ w h hs
  obtain ⟨R, hR⟩ : ∃ R, R = (startHrInSelect t) σ := ⟨_, rfl⟩
  rw [← hR] at hs ⊢
  unfold startHrInSelect at hR
  have HS := hide hs
  have H := hide (At.start h)
  have HR := hide hR
  clear h hs hR
  go_enter Tryz.func149, Tryz.ntmps149
  go_wp2_with fail
  refine Does.call (startOptgroupInSelect_p E hF t ht) H.out HR.out HS.out (rfl) ?_ ?_
  · intro c p j ws h1 h2 h3
    have H1 := hide h1
    have H2 := hide h2
    have H3 := hide h3
    clear h1 h2 h3
    go_wp2
    exact ⟨rfl, leaves_stop H1.out H2.out H3.out⟩
  rintro (_) f σ w h1 h0 h2 h3
  have HX := hide h0
  have HF := hide h2
  clear h0
  replace H := hide h1
  replace HR := hide h3
  clear h1 h2 h3
  try dsimp only at HR
  go_wp2_with fail
  refine Moves.call (pop'_m E) H.out HR.out HS.out (rfl) ?_ ?_
  · intro c p j ws h1 h2 h3
    have H1 := hide h1
    have H2 := hide h2
    have H3 := hide h3
    clear h1 h2 h3
    go_wp2
    exact ⟨rfl, leaves_stop H1.out H2.out H3.out⟩
  rintro (_) σ w h1 h2 h3
  have HF := hide h2
  replace H := hide h1
  replace HR := hide h3
  clear h1 h2 h3
  try dsimp only at HR
  go_wp2
  go_end0
  exact leaves_ok HR.out H.out rfl
set_option maxHeartbeats 2000000 in
theorem endOptionInSelect_p (E : Env) (t : ATok) : Does E 152 (fun _ => #[Bp E, tokV E t]) (endOptionInSelect) uV := by
  intro f σ w h hs
  obtain ⟨R, hR⟩ : ∃ R, R = (endOptionInSelect) σ := ⟨_, rfl⟩
  rw [← hR] at hs ⊢
  unfold endOptionInSelect at hR
  have HS := hide hs
  have H := hide (At.start h)
  have HR := hide hR
  clear h hs hR
  go_enter Tryz.func152, Tryz.ntmps152
  go_wp2_with fail
  refine (optionQ_ok E _).mono ?_
  rintro e w ⟨k1, lb1, rfl, ha1, hk1⟩
  replace H := hide (H.out.k0 hk1)
  have HA1 := hide ha1
  clear ha1 hk1
  go_wp2_with fail
  refine mcall (fun _ => popIf_m H.out.rel HA1.out) H.out HR.out HS.out ?_ ?_
  · intro c p j ws h1 h2 h3
    have H1 := hide h1
    have H2 := hide h2
    have H3 := hide h3
    clear h1 h2 h3
    go_wp2
    exact ⟨rfl, leaves_stop H1.out H2.out H3.out⟩
  rintro (_) σ w h1 h2 h3
  have HF := hide h2
  replace H := hide h1
  replace HR := hide h3
  clear h1 h2 h3
  try dsimp only at HR
  go_wp2
  go_end0
  exact leaves_ok HR.out H.out rfl
set_option maxHeartbeats 2000000 in
theorem startObject_p (E : Env) (hF : FosterOk E) (t : ATok) (ht : TokOk E t) : Does E 208 (fun _ => #[Bp E, tokV E t]) (startObject t) uV := by
  intro f σ w h hs
  obtain ⟨R, hR⟩ : ∃ R, R = (startObject t) σ := ⟨_, rfl⟩
  rw [← hR] at hs ⊢
  unfold startObject at hR
  have HS := hide hs
  have H := hide (At.start h)
  have HR := hide hR
  clear h hs hR
  go_enter Tryz.func208, Tryz.ntmps208
  go_wp2_with fail
  refine Does.call (startOther_p E hF t ht) H.out HR.out HS.out (rfl) ?_ ?_
  · intro c p j ws h1 h2 h3
    have H1 := hide h1
    have H2 := hide h2
    have H3 := hide h3
    clear h1 h2 h3
    go_wp2
    exact ⟨rfl, leaves_stop H1.out H2.out H3.out⟩
  rintro (_) f σ w h1 h0 h2 h3
  have HX := hide h0
  have HF := hide h2
  clear h0
  replace H := hide h1
  replace HR := hide h3
  clear h1 h2 h3
  try dsimp only at HR
  go_wp2_with fail
  refine Moves.call (addMarker_m E) H.out HR.out HS.out (rfl) ?_ ?_
  · intro c p j ws h1 h2 h3
    have H1 := hide h1
    have H2 := hide h2
    have H3 := hide h3
    clear h1 h2 h3
    go_wp2
    exact ⟨rfl, leaves_stop H1.out H2.out H3.out⟩
  rintro (_) σ w h1 h2 h3
  have HF := hide h2
  replace H := hide h1
  replace HR := hide h3
  clear h1 h2 h3
  try dsimp only at HR
  go_wp2
  go_end0
  exact leaves_ok HR.out H.out rfl
set_option maxHeartbeats 2000000 in
theorem startCaption_p (E : Env) (hF : FosterOk E) (t : ATok) (ht : TokOk E t) : Does E 126 (fun _ => #[Bp E, tokV E t]) (startCaption t) uV := by
  intro f σ w h hs
  obtain ⟨R, hR⟩ : ∃ R, R = (startCaption t) σ := ⟨_, rfl⟩
  rw [← hR] at hs ⊢
  unfold startCaption at hR
  have HS := hide hs
  have H := hide (At.start h)
  have HR := hide hR
  clear h hs hR
  go_enter Tryz.func126, Tryz.ntmps126
  go_wp2_with fail
  refine (tableQ_ok E _).mono ?_
  rintro e w ⟨k1, lb1, rfl, ha1, hk1⟩
  replace H := hide (H.out.k0 hk1)
  have HA1 := hide ha1
  clear ha1 hk1
  go_wp2_with fail
  refine mcall (fun _ => clearTo_m H.out.rel HA1.out) H.out HR.out HS.out ?_ ?_
  · intro c p j ws h1 h2 h3
    have H1 := hide h1
    have H2 := hide h2
    have H3 := hide h3
    clear h1 h2 h3
    go_wp2
    exact ⟨rfl, leaves_stop H1.out H2.out H3.out⟩
  rintro (_) σ w h1 h2 h3
  have HF := hide h2
  replace H := hide h1
  replace HR := hide h3
  clear h1 h2 h3
  try dsimp only at HR
  go_wp2_with fail
  refine Moves.call (addMarker_m E) H.out HR.out HS.out (rfl) ?_ ?_
  · intro c p j ws h1 h2 h3
    have H1 := hide h1
    have H2 := hide h2
    have H3 := hide h3
    clear h1 h2 h3
    go_wp2
    exact ⟨rfl, leaves_stop H1.out H2.out H3.out⟩
  rintro (_) σ w h1 h2 h3
  have HF := hide h2
  replace H := hide h1
  replace HR := hide h3
  clear h1 h2 h3
  try dsimp only at HR
  go_wp2_with fail
  refine Does.call (insertTag_p E hF t ht) H.out HR.out HS.out (rfl) ?_ ?_
  · intro c p j ws h1 h2 h3
    have H1 := hide h1
    have H2 := hide h2
    have H3 := hide h3
    clear h1 h2 h3
    go_wp2
    exact ⟨rfl, leaves_stop H1.out H2.out H3.out⟩
  rintro (_) f σ w h1 h0 h2 h3
  have HX := hide h0
  have HF := hide h2
  clear h0
  replace H := hide h1
  replace HR := hide h3
  clear h1 h2 h3
  try dsimp only at HR
  have c2 := H.out.c192
  have f2 := H.out.free 192
  have hl := H.out.lt
  replace H := hide (H.out.set_mode 9)
  go_wp2
  go_end0
  exact leaves_ok HR.out H.out rfl
set_option maxHeartbeats 2000000 in
theorem endItem_p (E : Env) (t : ATok) : Does E 213 (fun _ => #[Bp E, tokV E t]) (endItem) uV := by
  intro f σ w h hs
  obtain ⟨R, hR⟩ : ∃ R, R = (endItem) σ := ⟨_, rfl⟩
  rw [← hR] at hs ⊢
  unfold endItem at hR
  have HS := hide hs
  have H := hide (At.start h)
  have HR := hide hR
  clear h hs hR
  go_enter Tryz.func213, Tryz.ntmps213
  go_wp2_with fail
  refine (is_one E [(⟨#[108, 105]⟩ : ByteArray)] _ (by decide)).mono ?_
  rintro e w ⟨k1, lb1, rfl, ha1, hk1⟩
  replace H := hide (H.out.k0 hk1)
  have HA1 := hide ha1
  clear ha1 hk1
  go_wp2_with fail
  refine (itemBounds_ok H.out.rel).mono ?_
  rintro e w ⟨k2, lb2, rfl, ha2, hk2⟩
  replace H := hide (H.out.k0 hk2)
  replace HA1 := hide (HA1.out.k0 hk2)
  have HA2 := hide ha2
  clear ha2 hk2
  go_wp2_with fail
  refine mcall (fun _ => close_m H.out.rel HA1.out HA2.out) H.out HR.out HS.out ?_ ?_
  · intro c p j ws h1 h2 h3
    have H1 := hide h1
    have H2 := hide h2
    have H3 := hide h3
    clear h1 h2 h3
    go_wp2
    exact ⟨rfl, leaves_stop H1.out H2.out H3.out⟩
  rintro (_) σ w h1 h2 h3
  have HF := hide h2
  replace H := hide h1
  replace HR := hide h3
  clear h1 h2 h3
  try dsimp only at HR
  go_wp2
  go_end0
  exact leaves_ok HR.out H.out rfl
set_option maxHeartbeats 2000000 in
theorem endBreak_p (E : Env) (hF : FosterOk E) (t : ATok) : Does E 215 (fun _ => #[Bp E, tokV E t]) (endBreak) uV := by
  intro f σ w h hs
  obtain ⟨R, hR⟩ : ∃ R, R = (endBreak) σ := ⟨_, rfl⟩
  rw [← hR] at hs ⊢
  unfold endBreak at hR
  have HS := hide hs
  have H := hide (At.start h)
  have HR := hide hR
  clear h hs hR
  go_enter Tryz.func215, Tryz.ntmps215
  go_wp2_with fail
  refine Does.call (reconstruct_p E hF) H.out HR.out HS.out (rfl) ?_ ?_
  · intro c p j ws h1 h2 h3
    have H1 := hide h1
    have H2 := hide h2
    have H3 := hide h3
    clear h1 h2 h3
    go_wp2
    exact ⟨rfl, leaves_stop H1.out H2.out H3.out⟩
  rintro (_) f σ w h1 h0 h2 h3
  have HX := hide h0
  have HF := hide h2
  clear h0
  replace H := hide h1
  replace HR := hide h3
  clear h1 h2 h3
  try dsimp only at HR
  go_wp2_with fail
  refine Does.call (insertNamed_p E hF (⟨#[98, 114]⟩ : ByteArray)) H.out HR.out HS.out (rfl) ?_ ?_
  · intro c p j ws h1 h2 h3
    have H1 := hide h1
    have H2 := hide h2
    have H3 := hide h3
    clear h1 h2 h3
    go_wp2
    exact ⟨rfl, leaves_stop H1.out H2.out H3.out⟩
  rintro (_) f σ w h1 h0 h2 h3
  have HX := hide h0
  have HF := hide h2
  clear h0
  replace H := hide h1
  replace HR := hide h3
  clear h1 h2 h3
  try dsimp only at HR
  go_wp2_with fail
  refine Moves.call (pop'_m E) H.out HR.out HS.out (rfl) ?_ ?_
  · intro c p j ws h1 h2 h3
    have H1 := hide h1
    have H2 := hide h2
    have H3 := hide h3
    clear h1 h2 h3
    go_wp2
    exact ⟨rfl, leaves_stop H1.out H2.out H3.out⟩
  rintro (_) σ w h1 h2 h3
  have HF := hide h2
  replace H := hide h1
  replace HR := hide h3
  clear h1 h2 h3
  try dsimp only at HR
  go_wp2
  go_end0
  exact leaves_ok HR.out H.out rfl
end Go.Proofs.YtlhhgenpcjjajaaGreatDoor
namespace Go.Proofs.YtlhhgenpcjjajaaGreatDoor
open Go.RowKit
def noDefer (o : Oper) : Bool := match o.op with
  | .defer _ => false
  | _ => true
theorem noDefer_spec {o : Oper} (h : noDefer o = true) : ∀ c, o.op ≠ .defer c := by
  intro c e
  unfold noDefer at h
  rw [e] at h
  cases h
section
variable {n : Nat} {P : Program} {ops : Array Oper} {Q : Exit → Act → World → Prop} {md : Region.Mode}
theorem uponIn_round' (F : Fence) (l : Nat) (o : Oper) (a : Act) (K : Act → World → Prop) (r : Result Next) : o.uponIn F n P a K Q r → o.uponIn (F.inRound l) n P a K Q r := fun h => h
theorem wpAnyIn_round (l : Nat) (hd : ∀ (i : Nat) o, ops[i]? = some o → noDefer o = true) : ∀ fuel listed a w, wpAnyIn Fence.wide n P md ops Q fuel listed a w → wpAnyIn (Fence.wide.inRound l) n P md ops Q fuel listed a w := by
  intro fuel
  induction fuel with
  | zero => exact fun listed a w h => h
  | succ fuel ih =>
    intro listed a w h
    refine ⟨h.1, fun i hi => ?_⟩
    have h2 := h.2 i hi
    unfold wpOpIn at h2 ⊢
    cases ho : ops[i]? with
    | none => rw [ho] at h2; exact ih _ _ _ h2
    | some o =>
      rw [ho] at h2
      simp only at h2 ⊢
      split
      · rename_i hw
        rw [if_pos hw] at h2
        have h3 := Oper.wpIn_mono (K' := wpAnyIn (Fence.wide.inRound l) n P md ops Q fuel (listed.setIfInBounds i true)) (fun a w h => ih _ a w h) h2
        refine ⟨h3.1, ?_⟩
        have h4 := h3.2
        have e1 : o.semAt (Fence.wide.inRound l).round a.eval = execOp a.eval o := Oper.semAt_some l a.eval o (noDefer_spec (hd i o ho))
        have e2 : o.semAt Fence.wide.round a.eval = execOp a.eval o := by
          show o.semAt none a.eval = _
          unfold Oper.semAt
          cases o.op <;> rfl
        rw [e1]
        rw [e2] at h4
        exact h4
      · rename_i hw
        rw [if_neg hw] at h2
        exact ⟨h2.1, ih _ _ _ h2.2⟩
theorem quiet_round {id : Nat} {a : Act} {w : World} {l : List Oper} (L : Nat) (hm : P.follows .mixedOrders = true) (hB : Region.lexB .any l.toArray = true) (hd : l.all noDefer = true)
    (h : wpQuietIn Fence.wide n P l.toArray (fun w' => ∃ n, w' = w.drewN n) (fun a' => ∀ w', (∃ n, w' = w.drewN n) → Q .normal a' w') l a) : (Code.region id l.toArray true).wpIn (Fence.wide.inRound L) n P Q a w := by
  simp only [Region.lexB, Bool.and_eq_true] at hB
  refine wpIn_region_any hm (wpAnyIn_round L ?_ _ _ _ _ (wpAnyIn_of_quiet (C := fun w' => ∃ n, w' = w.drewN n) (Q := fun a' => ∀ w', (∃ n, w' = w.drewN n) → Q .normal a' w') rfl (fun _ w' hw' h => h w' hw') _ _ _ _ ⟨1, rfl⟩ ?_))
  · intro i o ho
    have : o ∈ l := by
      have := List.mem_of_getElem? (l := l) (i := i) (by simpa using ho)
      exact this
    exact List.all_eq_true.1 hd o this
  · have := wpAnyQIn_lex (F := Fence.wide) (n := n) (C := fun w' => ∃ n, w' = w.drewN n) (md := .any) hB.1 l.toArray.toList 0 (Array.replicate l.toArray.size false) a (by simp) (by simpa using hB.2) (by simpa using h)
    simpa using this
end
end Go.Proofs.YtlhhgenpcjjajaaGreatDoor
namespace Go.Proofs.YtlhhgenpcjjajaaGreatDoor
open Go.RowKit
attribute [local go_sem] Oper.semAt_some
theorem wide_fn (f : FuncId) : Fence.wide.fn f = True := rfl
attribute [local go_sem] wide_fn
attribute [local simp] wide_fn
theorem isScope_done {σ : Ab} {it : Nat} : ∀ {xs : List (Option Nat)}, (∀ y ∈ xs, y ≠ some it ∧ pBounds (σ.nmO y) = false) → σ.isScopeL it xs = false
  | [], _ => rfl
  | x :: xs, h => by
    unfold Ab.isScopeL
    obtain ⟨h1, h2⟩ := h x (by simp)
    rw [if_neg h1, h2]
    exact isScope_done fun y hy => h y (by simp [hy])
theorem isScope_stop {σ : Ab} {it : Nat} {r : Bool} {y : Option Nat} {rest : List (Option Nat)} (hr : (y = some it ∧ r = true) ∨ (y ≠ some it ∧ pBounds (σ.nmO y) = true ∧ r = false)) : ∀ {xs : List (Option Nat)}, (∀ y ∈ xs, y ≠ some it ∧ pBounds (σ.nmO y) = false) → σ.isScopeL it (xs ++ [y] ++ rest) = r
  | [], _ => by
    show σ.isScopeL it (y :: rest) = r
    unfold Ab.isScopeL
    rcases hr with ⟨h1, rfl⟩ | ⟨h1, h2, rfl⟩
    · rw [if_pos h1]
    · rw [if_neg h1, h2]; rfl
  | x :: xs, h => by
    show σ.isScopeL it (x :: (xs ++ [y] ++ rest)) = r
    unfold Ab.isScopeL
    obtain ⟨h1, h2⟩ := h x (by simp)
    rw [if_neg h1, h2]
    exact isScope_stop hr fun y hy => h y (by simp [hy])
set_option maxRecDepth 100000 in
set_option maxHeartbeats 4000000 in
theorem isInScope_r {E : Env} {f : Nat → Nat} {σ : Ab} {w : World} (h : RF E f σ w) (it : Nat) (hit : σ.isEl (some it) = true) :
    Calls Tryz.prog 287 #[Bp E, nV f it] w fun e w' => e = .returned (.bool (σ.isInScope it)) ∧ Kept [] w w' := by
  obtain ⟨L, rfl, hr⟩ := h
  obtain ⟨fb, ab, lb0, cb, hb⟩ := hr.bounds
  obtain ⟨kb, lbb, eb, heb, hcb⟩ := hb.call
  cases eb
  refine (callsIn_wide (n := 3)).1 ?_
  refine callsIn_of_wp_marks Tryz.func287 rfl trivial ?_ rfl
  simp only [Tryz.ntmps287, List.size_toArray, List.length_cons, List.length_nil, Nat.reduceAdd, Nat.reduceSub, Array.replicate_succ, Array.replicate_zero, List.push_toArray, List.append_toArray, List.nil_append, List.cons_append]
  obtain ⟨w1, hw1⟩ : ∃ w1, w1 = ((w.alloc (.cells #[Bp E] 121 (0, 0))).alloc (.cells #[.pointer (some ⟨L.at' it, 0, none⟩)] 72 (0, 0))).alloc (.cells #[.bool false] 4 (0, 0)) := ⟨_, rfl⟩
  have hk1 : Kept [] w w1 := by rw [hw1]; exact (((Kept.refl _ _).alloc _).alloc _).alloc _
  obtain ⟨b0, b1, b2⟩ := three_blocks w (.cells #[Bp E] 121 (0, 0)) (.cells #[.pointer (some ⟨L.at' it, 0, none⟩)] 72 (0, 0)) (.cells #[.bool false] 4 (0, 0))
  rw [← hw1] at b0 b1 b2
  have hz1 : w1.heap.size = w.heap.size + 1 + 1 + 1 := by rw [hw1]; simp
  have hr1 := hr.kept0 hk1
  obtain ⟨C, hL, hC⟩ := hr1.lstO
  have hl1 := hr.lt
  have HL := hide hL
  have HU := hide (l_up E.bs E.bB 188 _ C _ _ w1 hL)
  have HCB := hide (fun (W : World) (hk : Kept [] w W) => (hk.cell (p := ⟨E.bB, 186, none⟩) hl1 (by simp)).trans cb)
  have H2 := hide hcb
  have HO := hide (fun g (hg : L.ov.ownBlock = some g) => row_lt hr.orow hg)
  have HN := hide (fun (W : World) (hk : Kept [] w W) (i : Nat) (e : AEl) (hi : σ.el? i = some e) => (hr.kept0 hk).nameAt hi)
  have HS := hide (fun (y : Option Nat) (hy : y ∈ σ.opn) => hr.opn_some hy)
  have HI := hide hr.inj
  have HE := hide (fun (W : World) (hk : Kept [] w W) (x : Option Nat) (hx : σ.isEl x = true) => (hr.kept0 hk).isEl hx)
  clear hr hr1 hC hcb hb hL cb
  have HZ := hide hz1
  have HW := hide hw1
  clear hz1 hw1
  gi_wp2_with fail
  rw [← HW.out]
  refine (callsIn_wide.2 HU.out).mono ?_
  rintro e w' ⟨rfl, rfl⟩
  gi_wp2
  refine wpIn_up (by omega) (f := omap L.at') (fun x y e => omap_inj HI.out e) HL.out (by rfl) [w.heap.size + 1 + 1] ?_
    (fun pre W => Kept [] w W ∧ W.heap[w.heap.size]? = some (.cells #[Bp E] 121 (0, 0)) ∧ W.heap[w.heap.size + 1]? = some (.cells #[.pointer (some ⟨L.at' it, 0, none⟩)] 72 (0, 0)) ∧ W.heap[w.heap.size + 1 + 1]? = some (.cells #[.bool false] 4 (0, 0)) ∧ ∀ y ∈ pre, y ≠ some it ∧ pBounds (σ.nmO y) = false)
    (fun c pre W => c = .ret ∧ Kept [] w W ∧ ∃ pre' y r, pre = pre' ++ [y] ∧ (∀ y ∈ pre', y ≠ some it ∧ pBounds (σ.nmO y) = false) ∧ ((y = some it ∧ r = true) ∨ (y ≠ some it ∧ pBounds (σ.nmO y) = true ∧ r = false)) ∧ W.heap[w.heap.size + 1 + 1]? = some (.cells #[.bool r] 4 (0, 0)))
    ?_ ?_ ?_ (fun x => { tmps := #[Bp E, .pointer (some ⟨L.at' it, 0, none⟩), .pointer (some ⟨w.heap.size, 0, none⟩), .pointer (some ⟨w.heap.size + 1, 0, none⟩), .pointer (some ⟨w.heap.size + 1 + 1, 0, none⟩), enc x, Bp E, .pointer (some ⟨E.bB, 0, none⟩), .pointer (some ⟨E.bB, 188, none⟩), upVal w1.heap.size, enc x, undef, undef, undef, undef, undef, undef, undef, undef, undef, undef, undef, undef, undef, undef], defers := [] }) ?assign ?body ?done ?stop
  · intro k hk
    have := List.mem_singleton.1 hk
    subst this
    have hz1 := HZ.out
    exact ⟨by omega, by omega, fun h => by have := HO.out _ h; omega⟩
  · rintro s A B row ⟨h1, h2, h3, h4, h5⟩ hg hr
    have hz1 := HZ.out
    exact ⟨kept_grown h1 hg hr (by omega), at_grown h2 hg hr (by omega), at_grown h3 hg hr (by omega), at_grown h4 hg hr (by omega), h5⟩
  · rintro c s A B row ⟨h0, h1, pre', y, r, h2, h3, h4, h5⟩ hg hr
    have hz1 := HZ.out
    exact ⟨h0, kept_grown h1 hg hr (by omega), pre', y, r, h2, h3, h4, at_grown h5 hg hr (by omega)⟩
  · have hk : Kept [] w1 (upWorld E.bB 188 (σ.opn.length) w1) := ((Kept.refl _ _).alloc _).alloc _
    exact ⟨hk1.trans hk, hk.at b0 (by simp), hk.at b1 (by simp), hk.at b2 (by simp), by simp⟩
  case assign =>
    intro l x W K hK
    gi_wp2
    exact hK
  case body =>
    rintro l pre y W hy ⟨h1, h2, h3, h4, h5⟩
    obtain ⟨i, e0, rfl, hi⟩ := HS.out y hy
    have c0 := HN.out W h1 i e0 hi
    have cB := HCB.out W h1
    have c1 : W.cell? ⟨w.heap.size, 0, none⟩ = some (Bp E) := by rw [cell_at h2]; rfl
    have c2 : W.cell? ⟨w.heap.size + 1, 0, none⟩ = some (.pointer (some ⟨L.at' it, 0, none⟩)) := by rw [cell_at h3]; rfl
    have c3 : W.cell? ⟨w.heap.size + 1 + 1, 0, none⟩ = some (.bool false) := by rw [cell_at h4]; rfl
    have f3 := free_at h4 0
    have HB := hide (fun W' (hk : Kept [] w W') => H2.out W' (.of_kept0 hk) (σ.nm i))
    have HK := hide h1
    have B2 := hide h2
    have B3 := hide h3
    have B4 := hide h4
    have B5 := hide h5
    have HT : Hid (∀ (q : Nat) (r : Bool), Kept [w.heap.size + 1 + 1] W ((W.drewN q).setCell ⟨w.heap.size + 1 + 1, 0, none⟩ (.bool r)) ∧ Kept [] w ((W.drewN q).setCell ⟨w.heap.size + 1 + 1, 0, none⟩ (.bool r)) ∧ ((W.drewN q).setCell ⟨w.heap.size + 1 + 1, 0, none⟩ (.bool r)).heap[w.heap.size + 1 + 1]? = some (.cells #[.bool r] 4 (0, 0))) := fun q r => ⟨((Kept.refl _ W).drewN q).setCell (.inl (by simp)) _, (h1.drewN q).setCell (.inr (by simp; omega)) _, block_setCell (show (W.drewN q).heap[w.heap.size + 1 + 1]? = _ from h4) 0 _⟩
    have HT0 : Hid (∀ (r : Bool), Kept [w.heap.size + 1 + 1] W (W.setCell ⟨w.heap.size + 1 + 1, 0, none⟩ (.bool r)) ∧ Kept [] w (W.setCell ⟨w.heap.size + 1 + 1, 0, none⟩ (.bool r)) ∧ (W.setCell ⟨w.heap.size + 1 + 1, 0, none⟩ (.bool r)).heap[w.heap.size + 1 + 1]? = some (.cells #[.bool r] 4 (0, 0))) := fun r => ⟨(Kept.refl _ W).setCell (.inl (by simp)) _, h1.setCell (.inr (by simp; omega)) _, block_setCell h4 0 _⟩
    have heq := eql_el (HE.out W h1 (some i) (by show (σ.el? i).isSome = true; rw [hi]; rfl)) (HE.out W h1 (some it) hit)
    rw [show ptr (omap L.at' (some i)) = some ⟨L.at' i, 0, none⟩ from rfl, show ptr (omap L.at' (some it)) = some ⟨L.at' it, 0, none⟩ from rfl] at heq
    clear h1 h2 h3 h4 h5
    try dsimp only
    rw [show enc (omap L.at' (some i)) = .pointer (some ⟨L.at' i, 0, none⟩) from rfl]
    by_cases hii : i = it
    · subst hii
      rw [decide_eq_true rfl] at heq
      gi_wp2
      obtain ⟨t1, t2, t3⟩ := HT0.out true
      exact ⟨t1, rfl, t2, pre, some i, true, rfl, B5.out, .inl ⟨rfl, rfl⟩, t3⟩
    · have hne : L.at' i ≠ L.at' it := fun e => hii (HI.out _ _ e)
      have hne2 : (some i : Option Nat) ≠ some it := fun e => hii (Option.some.inj e)
      have HNE := hide hne2
      rw [decide_eq_false (by simpa using hne)] at heq
      clear hne2 hii
      gi_wp2
      refine quiet_round l (by kernel_rfl) (by kernel_rfl) (by rfl) ?_
      repeat (gi_big_quiet_step ((exact callsIn_wide.2 (Calls.quiet_of_same (HB.out _ (HK.out.drewN _))))))
      refine wpQuietIn_nil ?_
      intro _ hw'
      obtain ⟨nq, hw''⟩ := hw'
      subst hw''
      cases hq : pBounds (σ.nm i) with
      | true =>
        gi_wp2
        obtain ⟨t1, t2, t3⟩ := HT.out nq false
        exact ⟨t1, rfl, t2, pre, some i, false, rfl, B5.out, .inr ⟨HNE.out, hq, rfl⟩, t3⟩
      | false =>
        have HQ := hide hq
        clear hq
        gi_wp2
        refine ⟨(Kept.refl _ W).drewN nq, HK.out.drewN nq, B2.out, B3.out, B4.out, fun y hy => ?_⟩
        rcases List.mem_append.1 hy with hy | hy
        · exact B5.out y hy
        · rw [List.mem_singleton.1 hy]; exact ⟨HNE.out, HQ.out⟩
  case done =>
    rintro D W hD ⟨h1, h2, h3, h4, h5⟩ hK
    have hz1 := HZ.out
    have c3 : W.cell? ⟨w.heap.size + 1 + 1, 0, none⟩ = some (.bool false) := by rw [cell_at h4]; rfl
    have f3 := free_at h4 0
    have HK := hide h1
    have hsc : σ.isInScope it = false := isScope_done (fun y hy => h5 y hy)
    have HD := hide hD
    clear h1 h2 h3 hz1 hD h5
    gi_wp2
    have hK' := (KeepsOthers.setCell W ⟨w.heap.size + 1 + 1, 0, none⟩ (.bool false)).same D _ hK rfl
    refine ⟨by simp, .inl ⟨_, _, rfl, run_takeDeferred hK', ?_⟩⟩
    have hc5 := cell_kept (World.cell?_setCell_same' W ⟨w.heap.size + 1 + 1, 0, none⟩ (.bool false) (by rw [c3]; rfl)) (grownBy_putObj' _ D (.deferred none)) (fun r e => by cases e; exact ⟨_, hK', rfl⟩)
    refine ⟨.bool false, ?_, ⟨by rw [hsc], ?_⟩⟩
    · simp [results, Tryz.results287, go_sem, hc5]
    · have hz1 := HZ.out
      have hD := HD.out
      exact (HK.out.setCell (.inr (by simp; omega)) _).take (by omega) _
  case stop =>
    rintro D c pre W hD hpre ⟨rfl, h1, pre', y, r, rfl, h3, h4, h5⟩ hK
    obtain ⟨rest, hrest⟩ := hpre
    have hsc : σ.isInScope it = r := by unfold Ab.isInScope; rw [← hrest]; exact isScope_stop h4 h3
    have c3 : W.cell? ⟨w.heap.size + 1 + 1, 0, none⟩ = some (.bool r) := by rw [cell_at h5]; rfl
    have HK := hide h1
    have HD := hide hD
    clear h1 h3 h4 h5 hrest hD
    gi_wp2
    refine ⟨by simp, .inl ⟨_, _, rfl, run_takeDeferred hK, ?_⟩⟩
    have hc5 := cell_kept c3 (grownBy_putObj' _ D (.deferred none)) (fun r e => by cases e; exact ⟨_, hK, rfl⟩)
    refine ⟨.bool r, ?_, ⟨by rw [hsc], ?_⟩⟩
    · simp [results, Tryz.results287, go_sem, hc5]
    · have hz1 := HZ.out
      have hD := HD.out
      exact HK.out.take (by omega) _
end Go.Proofs.YtlhhgenpcjjajaaGreatDoor
namespace Go.Proofs.YtlhhgenpcjjajaaGreatDoor
open Go.RowKit
attribute [local go_sem] Oper.semAt_some
def upPost2 (T Tx : List Nat) (I : List (Option Nat) → World → Prop) (Ix : Code → List (Option Nat) → World → Prop) (zs : List (Option Nat)) (W : World) : Exit → Act → World → Prop
  | .normal, _, W' => Kept T W W' ∧ I zs W'
  | .ret, _, W' => Kept Tx W W' ∧ Ix .ret zs W'
  | .exit id, _, W' => Kept Tx W W' ∧ Ix (.exit id) zs W'
  | .goto t, _, W' => Kept Tx W W' ∧ Ix (.goto t) zs W'
  | .panic _, _, _ => False
  | .outgrown, _, _ => False
theorem wpIn_up2 {n : Nat} (hn : 3 ≤ n) {base b j : Nat} {tB : TypeId} {C : Array Value} {v : Value} {f : Option Nat → Option Nat} (hf : ∀ x y, f x = f y → x = y) {ys : List (Option Nat)} {w1 : World} (hL : Lst base b j tB C v (ys.map f) w1)
    {g : Operand} {p : Tmp} {assign body : Code} {Q : Exit → Act → World → Prop} {a : Act} (hg : a.eval g = upVal w1.heap.size)
    (T Tx : List Nat) (hT : ∀ k ∈ T, k < w1.heap.size ∧ k ≠ b ∧ v.ownBlock ≠ some k) (hTx : ∀ k ∈ Tx, k < w1.heap.size)
    (I : List (Option Nat) → World → Prop) (Ix : Code → List (Option Nat) → World → Prop)
    (hI : OwnFrom (w1.heap.size + 2) I) (hIx : ∀ c, OwnFrom (w1.heap.size + 2) (Ix c)) (h0 : I [] (upWorld b j ys.length w1)) (a₁ : Option Nat → Act)
    (hassign : ∀ (l : Nat) (x : Option Nat) (W : World) (K : Act → World → Prop), K (a₁ x) W →
      assign.wpIn (Fence.wide.inRound l) (n - 1 - 1) Tryz.prog (Exit.then K (fun _ _ _ => False)) { tmps := a.tmps.setIfInBounds p (enc x), defers := [] } W)
    (hbody : ∀ (l : Nat) (pre : List (Option Nat)) (y : Option Nat) (W : World), y ∈ ys → I pre W → body.wpIn (Fence.wide.inRound l) (n - 1 - 1) Tryz.prog (upPost2 T Tx I Ix (pre ++ [y]) W) (a₁ (f y)) W)
    (hdone : ∀ (D : Nat) (W : World), w1.heap.size + 2 ≤ D → I ys.reverse W → W.heap[D]? = some (.deferred (some [])) → Q .normal { a with defers := { target := .collected D, args := #[] } :: a.defers } W)
    (hstop : ∀ (D : Nat) (c : Code) (pre : List (Option Nat)) (W : World), w1.heap.size + 2 ≤ D → pre <+: ys.reverse → Ix c pre W → W.heap[D]? = some (.deferred (some [])) → c.wpIn Fence.wide n Tryz.prog Q { a with defers := { target := .collected D, args := #[] } :: a.defers } W) :
    (Code.rangeFunc g #[p] assign body).wpIn Fence.wide n Tryz.prog Q a (upWorld b j ys.length w1) := by
  have hsz : (upWorld b j ys.length w1).heap.size = w1.heap.size + 2 := by simp
  have hbl := lt_of_block hL.blk
  have hk0 : Kept [] w1 (upWorld b j ys.length w1) := ((Kept.refl _ _).alloc _).alloc _
  have hL2 : Lst base b j tB C v (ys.map f) (upWorld b j ys.length w1) := hL.keepsB (KeepsB.of_kept (K := b :: v.ownBlock.toList) hk0 (fun k hk => ⟨by
    rcases List.mem_cons.1 hk with rfl | hk
    · exact hbl
    · exact (hL.row.lt k (by simpa using hk)).2, by simp⟩)) (by simp) (fun k hk => by simp [hk])
  obtain ⟨b0, b1⟩ := (⟨(Below.heap_alloc _ _ _ (by simp)).trans (heap_alloc_at w1 _), by
      have := heap_alloc_at (w1.alloc (.cells #[.pointer (some ⟨b, j, none⟩)] 280 (0, 0))) (.cells #[.int .i64 (ys.length : Int)] 3 (0, 0))
      rwa [World.size_alloc] at this⟩ : (upWorld b j ys.length w1).heap[w1.heap.size]? = some (.cells #[.pointer (some ⟨b, j, none⟩)] 280 (0, 0)) ∧ (upWorld b j ys.length w1).heap[w1.heap.size + 1]? = some (.cells #[.int .i64 (ys.length : Int)] 3 (0, 0)))
  obtain ⟨K, hK⟩ : ∃ K, K = b :: w1.heap.size :: v.ownBlock.toList := ⟨_, rfl⟩
  have hKlt : ∀ k ∈ K, k < w1.heap.size + 2 := by
    intro k hk
    rw [hK] at hk
    rcases List.mem_cons.1 hk with rfl | hk
    · omega
    · rcases List.mem_cons.1 hk with rfl | hk
      · omega
      · have := (hL.row.lt k (by simpa using hk)).2; omega
  have hKT : ∀ k ∈ K, k ∉ T := by
    intro k hk hkT
    obtain ⟨t1, t2, t3⟩ := hT k hkT
    rw [hK] at hk
    rcases List.mem_cons.1 hk with rfl | hk
    · exact t2 rfl
    · rcases List.mem_cons.1 hk with rfl | hk
      · omega
      · exact t3 (by simpa using hk)
  have hup := up_stops (n - 1) (by omega) base b j tB C v (ys.map f) ys.length w1.heap.size K _ hL2 (by simp) (by rw [hK]; simp) (by rw [hK]; simp) (by intro k hk; rw [hK]; simp [hk]) (by rw [hsz]; omega) b1 b0
  have mono : ∀ {α : Type} {W W' : World} {row : Option Nat} {B : Nat}, B ≤ W.heap.size → W.grownBy W' row → B ≤ W'.heap.size := fun h1 h2 => Nat.le_trans h1 h2.size
  refine wpIn_rangeFunc_ownG rfl (by omega) (gf := 357) hg trivial (Go.Proofs.enters_of Tryz.func357 (by kernel_rfl) rfl) hup KeepsB.trans (fun W l o o' hl h1 h2 h3 => KeepsB.put (w := upWorld b j ys.length w1) (by rw [hsz]; exact hKlt) W l o o' hl h1 h2 h3) (Below.refl _ _) (fun _ => rfl)
    (fun pre W => w1.heap.size + 2 ≤ W.heap.size ∧ ∃ zs, pre.map (·.1) = zs.map f ∧ I zs W) (fun c pre W => ∃ zs, pre.map (·.1) = zs.map f ∧ Ix c zs W) ?_ ?_ ?_ (fun x => a₁ x.1) ?_ ?_ ?_ ?_
  · rintro s A B row ⟨hs, zs, h1, h2⟩ hgr hr
    rw [hsz] at hr
    exact ⟨Nat.le_trans hs hgr.size, zs, h1, hI zs A B row h2 hgr hr⟩
  · rintro c s A B row ⟨zs, h1, h2⟩ hgr hr
    rw [hsz] at hr
    exact ⟨zs, h1, hIx c zs A B row h2 hgr hr⟩
  · exact ⟨by rw [hsz]; exact Nat.le_refl _, [], rfl, h0⟩
  · intro l x W K' hK'
    have := hassign l x.1 W K' hK'
    have e : (#[p].zip #[enc x.1]).foldl (fun t (p, v) => t.setIfInBounds p v) a.tmps = a.tmps.setIfInBounds p (enc x.1) := by simp
    rw [e]; exact this
  · rintro l pre ⟨x, hx⟩ W ⟨hs, zs, h1, h2⟩ _
    obtain ⟨y, hy, rfl⟩ := List.mem_map.1 hx
    refine wpIn_mono (hbody l zs y W hy h2) ?_
    have keep : ∀ {W' : World}, Kept T W W' → KeepsFrom (upWorld b j ys.length w1).heap.size W W' := by
      intro W' hk
      refine ⟨hk.size, fun k o hBk ho _ => ?_⟩
      rw [hsz] at hBk
      rw [hk.block k (Array.getElem?_eq_some_iff.1 ho).1 (fun hkT => by have := (hT k hkT).1; omega)]
      exact ho
    have keepx : ∀ {W' : World}, Kept Tx W W' → KeepsFrom (upWorld b j ys.length w1).heap.size W W' := by
      intro W' hk
      refine ⟨hk.size, fun k o hBk ho _ => ?_⟩
      rw [hsz] at hBk
      rw [hk.block k (Array.getElem?_eq_some_iff.1 ho).1 (fun hkT => by have := hTx k hkT; omega)]
      exact ho
    have hmap : (pre ++ [(⟨f y, hx⟩ : { x : Option Nat // x ∈ ys.map f })]).map (·.1) = (zs ++ [y]).map f := by rw [List.map_append, h1]; simp
    intro e a' W' hp
    cases e with
    | normal => exact ⟨keep hp.1, KeepsB.of_kept hp.1 (fun k hk => ⟨Nat.lt_of_lt_of_le (hKlt k hk) hs, hKT k hk⟩), Nat.le_trans hs hp.1.size, _, hmap, hp.2⟩
    | ret => exact ⟨keepx hp.1, _, hmap, hp.2⟩
    | exit id => exact ⟨keepx hp.1, _, hmap, hp.2⟩
    | goto t => exact ⟨keepx hp.1, _, hmap, hp.2⟩
    | panic _ => exact hp
    | outgrown => exact hp
  · rintro D xs W hD hS ⟨_, zs, h1, h2⟩ hK'
    rw [hsz] at hD
    have hS' : xs.map (·.1) = ((ys.map f).take ys.length).reverse := hS
    rw [h1, List.take_of_length_le (by simp), ← List.map_reverse] at hS'
    rw [map_inj_list hf hS'] at h2
    exact hdone D W hD h2 hK'
  · rintro D c pre W hD hS ⟨zs, h1, h2⟩ hK'
    rw [hsz] at hD
    have hS' : pre.map (·.1) <+: ((ys.map f).take ys.length).reverse := hS
    rw [h1, List.take_of_length_le (by simp), ← List.map_reverse] at hS'
    exact hstop D c zs W hD (prefix_map hf hS') h2 hK'
end Go.Proofs.YtlhhgenpcjjajaaGreatDoor
namespace Go.Proofs.YtlhhgenpcjjajaaGreatDoor
open Go.RowKit
set_option maxHeartbeats 4000000 in
theorem modeWithin_ok (s : ByteArray) (w : World) : Calls Tryz.prog 295 #[.string s] w fun e w' => e = .returned (.int .i64 (modeWithin s : Int)) ∧ w' = w := by
  have hm : modeWithin s = if (s.toList == [116, 100] || s.toList == [116, 104]) then 13 else if s.toList == [116, 114] then 12 else if (s.toList == [116, 98, 111, 100, 121] || (s.toList == [116, 104, 101, 97, 100] || s.toList == [116, 102, 111, 111, 116])) then 11 else if s.toList == [99, 97, 112, 116, 105, 111, 110] then 9 else if s.toList == [99, 111, 108, 103, 114, 111, 117, 112] then 10 else if s.toList == [116, 97, 98, 108, 101] then 7 else 6 := by
    unfold modeWithin hasS eqS
    simp only [List.any_cons, List.any_nil, Bool.or_false, ByteArray.toList_eq]
  rw [hm]
  clear hm
  go_enter Tryz.func295, Tryz.ntmps295
  go_wp2
  all_goals go_ret
  all_goals refine ⟨?_, rfl⟩
  all_goals simp_all
end Go.Proofs.YtlhhgenpcjjajaaGreatDoor
