/- Filters: the law of impulses. -/
import Derived.Test.YtlddppnaakjamaaGr
import Derived.Test.YtlddppnaakjamaaFq
set_option linter.unusedVariables false
set_option linter.unusedSimpArgs false
namespace Go.Proofs.Ytlddppnaakjamaa
open Fl Go.RowKit
theorem specImp_no (f : FilN) (form count : Int) (w : World) (h : ¬ (inB form 0 2 = true ∧ inB count 0 256 = true)) (G : Nat → O) :
    Calls Try.prog 17 #[f.val, .int .i64 form, .int .i64 count] w (PLB 0 G false w) := by
  obtain ⟨b0, b1, b2, a1, a2⟩ := f
  unfold FilN.val
  cases h1 : inB form 0 2
  · go_enter Try.func17, Try.ntmps17
    go_wp2_with (go_at_call 33; refine (l02Form_any _ _ _ h1).mono ?_; rintro e w' ⟨rfl, rfl⟩)
    go_ret2
    exact PLB.none_ ((World.Since.refl _ _).alloc (Nat.le_refl _) _) _
  · have h2 : inB count 0 256 = false := by
      cases h2 : inB count 0 256
      · rfl
      · exact absurd ⟨h1, h2⟩ h
    clear h
    have HIN : Hid (∀ v, Calls Try.prog 38 #[.int .i64 count, .int .i64 0, .int .i64 256] v fun e w' => e = .returned (.bool false) ∧ v = w') := Lib.hid fun v => by have := l00In_any count 0 256 v; rw [h2] at this; exact this
    clear h2
    go_enter Try.func17, Try.ntmps17
    go_wp2_with (first | (go_at_call 33; refine (l02Form_any _ _ _ h1).mono ?_; rintro e w' ⟨rfl, rfl⟩) | (go_at_call 38; refine (HIN.out _).mono ?_; rintro e w' ⟨rfl, rfl⟩))
    go_ret2
    exact PLB.none_ ((World.Since.refl _ _).alloc (Nat.le_refl _) _) _
theorem implImp_no (f : FilN) (form count : Int) (w : World) (h : ¬ (inB form 0 2 = true ∧ inB count 0 256 = true)) (G : Nat → O) :
    Calls Try.prog 18 #[f.val, .int .i64 form, .int .i64 count] w (PLB 0 G false w) := by
  obtain ⟨b0, b1, b2, a1, a2⟩ := f
  unfold FilN.val
  cases h1 : inB form 0 2
  · go_enter Try.func18, Try.ntmps18
    go_wp2_with (go_at_call 39; refine (stepOf_out _ _ h1).mono ?_; rintro e w' ⟨rfl, rfl⟩)
    go_ret2
    exact PLB.none_ ((World.Since.refl _ _).alloc (Nat.le_refl _) _) _
  · have h2 : ¬ (0 ≤ count ∧ count ≤ 256) := fun h3 => h ⟨h1, by simp only [inB, Bool.and_eq_true, decide_eq_true_eq]; exact h3⟩
    clear h
    simp only [inB, Bool.and_eq_true, decide_eq_true_eq] at h1
    obtain ⟨form, rfl⟩ := Int.eq_ofNat_of_zero_le h1.1
    obtain ⟨kk, _, hso⟩ := stepOf_any form (by omega)
    have HSO := Lib.hid hso; clear hso
    by_cases h3 : count < 0
    · have d1 : decide (count < 0) = true := decide_eq_true h3
      go_enter Try.func18, Try.ntmps18
      go_wp2_with (go_at_call 39; refine (HSO.out _).mono ?_; rintro e w' ⟨rfl, rfl⟩)
      go_ret2
      exact PLB.none_ ((World.Since.refl _ _).alloc (Nat.le_refl _) _) _
    · have d1 : decide (count < 0) = false := decide_eq_false h3
      have d2 : decide (256 < count) = true := decide_eq_true (by omega)
      go_enter Try.func18, Try.ntmps18
      go_wp2_with (go_at_call 39; refine (HSO.out _).mono ?_; rintro e w' ⟨rfl, rfl⟩)
      go_ret2
      exact PLB.none_ ((World.Since.refl _ _).alloc (Nat.le_refl _) _) _
theorem lawImpulseOf_any (f : FilN) (form count : Int) (w : World) (hF : FvF f ⟨ab .f32 f.b0, ab .f32 f.b1, ab .f32 f.b2, ab .f32 f.a1, ab .f32 f.a2⟩) (w1 : (Lit.int .i64 form).wf = true) (w2 : (Lit.int .i64 count).wf = true) :
    Calls Try.prog 4 #[f.val, .int .i64 form, .int .i64 count] w fun e w' => e = .returned (.bool true) ∧ w.Since w.heap.size w' := by
  by_cases h : inB form 0 2 = true ∧ inB count 0 256 = true
  · obtain ⟨h1, h2⟩ := h
    simp only [inB, Bool.and_eq_true, decide_eq_true_eq] at h1 h2
    obtain ⟨form, rfl⟩ := Int.eq_ofNat_of_zero_le h1.1
    obtain ⟨n, rfl⟩ := Int.eq_ofNat_of_zero_le h2.1
    exact lawImpulseOf_gen f form n n _ true w (by omega) (fun v _ => specImp_ok form (by omega) f _ n v hF (by omega)) (fun v _ => implImp_ok form (by omega) f _ n v hF (by omega))
  · exact lawImpulseOf_gen f form count 0 (fun _ => none) false w (by omega) (fun v _ => specImp_no f form count v h _) (fun v _ => implImp_no f form count v h _)
end Go.Proofs.Ytlddppnaakjamaa
