/- Voices: the step of a pitch. -/
import Derived.Test.YtlodnikboekdpaaSr
import Derived.Test.YtlodnikboekdpaaFe
import Derived.Test.YtlodnikboekdpaaVq
set_option linter.unusedVariables false
set_option linter.unusedSimpArgs false
namespace Go.Proofs.Ytlodnikboekdpaa
open Fl Go.RowKit Ieee
def c057 : Nat := 4588485240726681578
def c440 : Nat := 4646448178051153920
def c48k : Nat := 4676829883349860352
theorem ab_057 : ab .f64 4588485240726681578 = some c057 := by rw [ab64]; rfl
theorem ab_440 : ab .f64 4646448178051153920 = some c440 := by rw [ab64]; rfl
theorem ab_48k : ab .f64 4676829883349860352 = some c48k := by rw [ab64]; rfl
def step64 (n : Int) : Option Nat := opO .quo .f64 (opO .mul .f64 (expO (opO .mul .f64 (some (floatOfInt .f64 (n - 69))) (some c057))) (some c440)) (some c48k)
def stepO (n : Int) : Option Nat := convO .f64 .f32 (step64 n)
theorem pitch_size : ∀ a : Nat, a < 128 → rung .f64 (floatOfInt .f64 ((a : Int) - 69)) ≤ rung .f64 4636737291354636288 := by decide +kernel
def w109 : Nat := 5098074778183401472
theorem step_fits {n : Int} (h1 : 0 ≤ n) (h2 : n ≤ 127) : ∃ q, step64 n = some q ∧ rung .f64 q ≤ rung .f64 w100 := by
  have hs := pitch_size n.toNat (by omega)
  rw [show ((n.toNat : Nat) : Int) = n by omega] at hs
  obtain ⟨m, m', hm, hm', hle⟩ := mul_size .f64 (x := floatOfInt .f64 (n - 69)) (y := c057) (c := 4636737291354636288) (d := c057) (Nat.lt_of_le_of_lt hs (by decide)) (by decide : rung .f64 c057 < _) (by decide : rung .f64 4636737291354636288 < _) (by decide : rung .f64 c057 < _) hs (Nat.le_refl _)
  have h40 : rung .f64 m ≤ rung .f64 w40 := by
    refine Nat.le_trans hle ?_
    have : (floatBits .mul .f64 4636737291354636288 c057).map (fun m' => decide (rung .f64 m' ≤ rung .f64 w40)) = some true := by decide +kernel
    rw [hm'] at this
    simpa using this
  have habm : ab .f64 m = some m := (fv_op (op := .mul) (.inr (.inr (.inl rfl))) hm).2
  obtain ⟨q, hq, hql, _⟩ := exp_size habm h40
  obtain ⟨u, u', hu, hu', hule⟩ := mul_size .f64 (x := q) (y := c440) (c := w100) (d := c440) (Nat.lt_of_le_of_lt hql (by decide)) (by decide : rung .f64 c440 < _) (by decide : rung .f64 w100 < _) (by decide : rung .f64 c440 < _) hql (Nat.le_refl _)
  have h109 : rung .f64 u ≤ rung .f64 w109 := by
    refine Nat.le_trans hule ?_
    have : (floatBits .mul .f64 w100 c440).map (fun m' => decide (rung .f64 m' ≤ rung .f64 w109)) = some true := by decide +kernel
    rw [hu'] at this
    simpa using this
  obtain ⟨t, ht, htl⟩ := div_size .f64 (x := u) (y := c48k) (t := w100) (Nat.lt_of_le_of_lt h109 (by decide)) (by decide : rung .f64 c48k < _) (by decide : rung .f64 w100 < _) (by decide) 1074 (by decide) (by
    refine Nat.le_trans (Nat.mul_le_mul_right _ ((zv_le .f64).2 h109)) ?_
    decide +kernel)
  refine ⟨t, ?_, htl⟩
  unfold step64
  rw [show opO .mul .f64 (some (floatOfInt .f64 (n - 69))) (some c057) = some m from hm, hq, show opO .mul .f64 (some q) (some c440) = some u from hu]
  exact ht
theorem fits_step {n : Int} (h1 : 0 ≤ n) (h2 : n ≤ 127) {r : Nat} (h : Fv .f64 r (step64 n)) : Fits .f64 .f32 r := by
  obtain ⟨q, e, hql⟩ := step_fits h1 h2
  have h3 := h.2
  rw [e] at h3
  obtain rfl := ab_some h3
  exact fits_size hql
theorem specStep_any (n : Int) (w : World) (h1 : 0 ≤ n) (h2 : n ≤ 127) :
    Calls Try.prog 66 #[.int .i64 n] w (RetF .f32 (stepO n) w) := by
  go_enter Try.func66, Try.ntmps66
  go_wp2_with (with_reducible_and_instances refine wpList_fop _ rfl .mul _ _ _ _ rfl _ _ _ rfl rfl rfl ?_; intro r1 q1 hr; have V1 := Lib.hid hr; clear hr)
  refine (specExp_any _ _ V1.out.1).mono ?_
  rintro e w' ⟨r2, q2, rfl, hv, rfl⟩
  have V2 := Lib.hid hv
  clear hv
  go_wp2_with (first | (with_reducible_and_instances refine wpList_fop _ rfl .mul _ _ _ _ rfl _ _ _ rfl rfl rfl ?_; intro r3 q3 hr; have V3 := Lib.hid hr; clear hr) | (with_reducible_and_instances refine wpList_fop _ rfl .quo _ _ _ _ rfl _ _ _ rfl rfl rfl ?_; intro r4 q4 hr; have V4 := Lib.hid hr; clear hr))
  have h4 : Fv .f64 r4 (step64 n) := by
    have := V4.out
    rw [V3.out.2, V2.out.2, V1.out.2, ab_057, ab_440, ab_48k, ab_int64] at this
    exact this
  refine (specNarrow_any _ _ h4.1 (fits_step h1 h2 h4)).mono ?_
  rintro e w' ⟨r5, q5, rfl, hv, rfl⟩
  have hv' : Fv .f32 r5 (stepO n) := by rw [h4.2] at hv; exact hv
  have V5 := Lib.hid hv'
  clear hv hv' h4
  go_wp2
  go_ret
  exact ⟨r5, _, rfl, V5.out, rfl⟩
theorem implStep_any (n : Int) (w : World) (h1 : 0 ≤ n) (h2 : n ≤ 127) :
    Calls Try.prog 68 #[.int .i64 n] w (RetF .f32 (stepO n) w) := by
  go_enter Try.func68, Try.ntmps68
  go_wp2_with (with_reducible_and_instances refine wpList_fop _ rfl .mul _ _ _ _ rfl _ _ _ rfl rfl rfl ?_; intro r1 q1 hr; have V1 := Lib.hid hr; clear hr)
  refine (implExp_any _ _ V1.out.1).mono ?_
  rintro e w' ⟨r2, q2, rfl, hv, rfl⟩
  have V2 := Lib.hid hv
  clear hv
  go_wp2_with (first | (with_reducible_and_instances refine wpList_fop _ rfl .mul _ _ _ _ rfl _ _ _ rfl rfl rfl ?_; intro r3 q3 hr; have V3 := Lib.hid hr; clear hr) | (with_reducible_and_instances refine wpList_fop _ rfl .quo _ _ _ _ rfl _ _ _ rfl rfl rfl ?_; intro r4 q4 hr; have V4 := Lib.hid hr; clear hr))
  have h4 : Fv .f64 r4 (step64 n) := by
    have := V4.out
    rw [V3.out.2, V2.out.2, V1.out.2, ab_057, ab_440, ab_48k, ab_int64] at this
    exact this
  refine (implNarrow_any _ _ h4.1 (fits_step h1 h2 h4)).mono ?_
  rintro e w' ⟨r5, q5, rfl, hv, rfl⟩
  have hv' : Fv .f32 r5 (stepO n) := by rw [h4.2] at hv; exact hv
  have V5 := Lib.hid hv'
  clear hv hv' h4
  go_wp2
  go_ret
  exact ⟨r5, _, rfl, V5.out, rfl⟩
def stepS (n : Int) (b : Bool) : O := if b then stepO n else some 0
theorem specStepOf_b (n : Int) (b : Bool) (w : World) (h : inB n 0 127 = b) : Calls Try.prog 27 #[.int .i64 n] w (PVB (stepS n b) b w) := by
  cases b
  · simp only [stepS, Bool.false_eq_true, if_false]
    go_enter Try.func27, Try.ntmps27
    go_wp2_with (go_at_call 65; with_reducible refine (specHold_b n 0 127 _ _ h).mono ?_; rintro e w' ⟨rfl, rfl⟩)
    go_ret2
    exact ⟨_, rfl, fv0, by (repeat (first | (with_reducible refine Fl.sinDrew ?_) | (with_reducible refine World.Since.drew ?_) | (with_reducible refine Fl.sinSet ?_ ?_; rotate_left) | (with_reducible refine Fl.sinAlloc ?_ ?_; rotate_left) | with_reducible exact World.Since.refl _ _ | with_reducible assumption | (with_reducible refine Fl.sinStep (by with_reducible assumption) ?_))); all_goals (first | omega | (simp; done) | (simp; omega) | (simp [go_sem]; done) | (simp [go_sem]; omega))⟩
  · simp only [stepS, if_true]
    have h12 : 0 ≤ n ∧ n ≤ 127 := by simpa [inB] using h
    go_enter Try.func27, Try.ntmps27
    go_wp2_with (first | (go_at_call 65; with_reducible refine (specHold_b n 0 127 _ _ h).mono ?_; rintro e w' ⟨rfl, rfl⟩) | (go_at_call 66; refine (specStep_any _ _ h12.1 h12.2).mono ?_; rintro e w' ⟨r1, q1, rfl, hv, rfl⟩; have V1 := Lib.hid hv; clear hv))
    go_ret2
    exact ⟨_, rfl, V1, by (repeat (first | (with_reducible refine Fl.sinDrew ?_) | (with_reducible refine World.Since.drew ?_) | (with_reducible refine Fl.sinSet ?_ ?_; rotate_left) | (with_reducible refine Fl.sinAlloc ?_ ?_; rotate_left) | with_reducible exact World.Since.refl _ _ | with_reducible assumption | (with_reducible refine Fl.sinStep (by with_reducible assumption) ?_))); all_goals (first | omega | (simp; done) | (simp; omega) | (simp [go_sem]; done) | (simp [go_sem]; omega))⟩
theorem implStepOf_b (n : Int) (b : Bool) (w : World) (h : inB n 0 127 = b) : Calls Try.prog 28 #[.int .i64 n] w (PVB (stepS n b) b w) := by
  cases b
  · simp only [stepS, Bool.false_eq_true, if_false]
    go_enter Try.func28, Try.ntmps28
    go_wp2_with (go_at_call 67; refine (isPitch_b n _ _ h).mono ?_; rintro e w' ⟨rfl, rfl⟩)
    go_ret2
    exact ⟨_, rfl, fv0, by (repeat (first | (with_reducible refine Fl.sinDrew ?_) | (with_reducible refine World.Since.drew ?_) | (with_reducible refine Fl.sinSet ?_ ?_; rotate_left) | (with_reducible refine Fl.sinAlloc ?_ ?_; rotate_left) | with_reducible exact World.Since.refl _ _ | with_reducible assumption | (with_reducible refine Fl.sinStep (by with_reducible assumption) ?_))); all_goals (first | omega | (simp; done) | (simp; omega) | (simp [go_sem]; done) | (simp [go_sem]; omega))⟩
  · simp only [stepS, if_true]
    have h12 : 0 ≤ n ∧ n ≤ 127 := by simpa [inB] using h
    go_enter Try.func28, Try.ntmps28
    go_wp2_with (first | (go_at_call 67; refine (isPitch_b n _ _ h).mono ?_; rintro e w' ⟨rfl, rfl⟩) | (go_at_call 68; refine (implStep_any _ _ h12.1 h12.2).mono ?_; rintro e w' ⟨r1, q1, rfl, hv, rfl⟩; have V1 := Lib.hid hv; clear hv))
    go_ret2
    exact ⟨_, rfl, V1, by (repeat (first | (with_reducible refine Fl.sinDrew ?_) | (with_reducible refine World.Since.drew ?_) | (with_reducible refine Fl.sinSet ?_ ?_; rotate_left) | (with_reducible refine Fl.sinAlloc ?_ ?_; rotate_left) | with_reducible exact World.Since.refl _ _ | with_reducible assumption | (with_reducible refine Fl.sinStep (by with_reducible assumption) ?_))); all_goals (first | omega | (simp; done) | (simp; omega) | (simp [go_sem]; done) | (simp [go_sem]; omega))⟩
end Go.Proofs.Ytlodnikboekdpaa
