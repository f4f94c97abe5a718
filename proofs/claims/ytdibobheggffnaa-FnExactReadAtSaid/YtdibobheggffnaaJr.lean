/- The code nearest to a number: the program's. -/
import Derived.Test.YtdibobheggffnaaJq
set_option linter.unusedVariables false
set_option linter.unusedSimpArgs false
namespace Go.Proofs.Ytdibobheggffnaa
open Fl Go.RowKit
theorem isNaN_nan (x : Nat) (h : FloatKind.f64.format.order x x = none) (w : World) : Calls Try.prog 86 #[.float .f64 x] w fun e w' => e = .returned (.bool true) ∧ w = w' := by
  go_enter Try.func86, Try.ntmps86
  go_wp2
  go_ret
  exact ⟨rfl, rfl⟩
theorem isNaN_num (x : Nat) (h : FloatKind.f64.format.order x x = some .eq) (w : World) : Calls Try.prog 86 #[.float .f64 x] w fun e w' => e = .returned (.bool false) ∧ w = w' := by
  go_enter Try.func86, Try.ntmps86
  go_wp2
  go_ret
  exact ⟨rfl, rfl⟩
theorem run_max {P : Program} (ts : Array TypeId) (t : TypeId) (x y r : Nat) (h : (FloatKind.f64.format.order x y = some .lt ∧ r = y) ∨ (FloatKind.f64.format.order x y = some .gt ∧ r = x) ∨ (FloatKind.f64.format.order x y = some .eq ∧ x = y ∧ r = x)) (W : World) :
    (Builtin.max_ ts t #[.float .f64 x, .float .f64 y]).run P W = .ok (.float .f64 r) W := by
  rcases h with ⟨h, rfl⟩ | ⟨h, rfl⟩ | ⟨h, rfl, rfl⟩
  · simp [Builtin.max_, Builtin.max2, h]
  · simp [Builtin.max_, Builtin.max2, h]
  · simp [Builtin.max_, Builtin.max2, h]
theorem run_min {P : Program} (ts : Array TypeId) (t : TypeId) (x y r : Nat) (h : (FloatKind.f64.format.order x y = some .lt ∧ r = x) ∨ (FloatKind.f64.format.order x y = some .gt ∧ r = y) ∨ (FloatKind.f64.format.order x y = some .eq ∧ x = y ∧ r = x)) (W : World) :
    (Builtin.min_ ts t #[.float .f64 x, .float .f64 y]).run P W = .ok (.float .f64 r) W := by
  rcases h with ⟨h, rfl⟩ | ⟨h, rfl⟩ | ⟨h, rfl, rfl⟩
  · simp [Builtin.min_, Builtin.min2, h]
  · simp [Builtin.min_, Builtin.min2, h]
  · simp [Builtin.min_, Builtin.min2, h]
/-- the rounded number, brought between the bounds, as an integer -/
theorem clamp_num {m x : Nat} (C : Cst m) (hab : ab .f64 x = some x) :
    ∃ r1 r2, ((FloatKind.f64.format.order (rneW x) (fd (-(m : Int))) = some .lt ∧ r1 = fd (-(m : Int))) ∨ (FloatKind.f64.format.order (rneW x) (fd (-(m : Int))) = some .gt ∧ r1 = rneW x) ∨ (FloatKind.f64.format.order (rneW x) (fd (-(m : Int))) = some .eq ∧ rneW x = fd (-(m : Int)) ∧ r1 = rneW x)) ∧
      ((FloatKind.f64.format.order r1 (fd ((m : Int) - 1)) = some .lt ∧ r2 = r1) ∨ (FloatKind.f64.format.order r1 (fd ((m : Int) - 1)) = some .gt ∧ r2 = fd ((m : Int) - 1)) ∨ (FloatKind.f64.format.order r1 (fd ((m : Int) - 1)) = some .eq ∧ r1 = fd ((m : Int) - 1) ∧ r2 = r1)) ∧
      floatToIntVal .f64 r2 .i64 = some (codO m (some x)) := by
  have hr := rung_of_ab .f64 hab
  have hR := rne_fits hr
  have hRa := ab_of_rung hR.1
  have fM := fd_fits ((m : Int) - 1)
  have fL := fd_fits (-(m : Int))
  have hi := rne_hi C hr
  have lo := rne_lo C hr
  have kM := key_pos C.sM; have pM := C.pM
  have kL := key_neg C.sL; have pL := C.pL
  have hML : FloatKind.f64.format.order (fd (-(m : Int))) (fd ((m : Int) - 1)) = some .lt := by
    rcases ord_of fL.1 fM.1 with ⟨h, h2⟩ | ⟨h, h2⟩ | ⟨h, h2⟩
    · exact h2
    · omega
    · omega
  rw [codO_some]
  rcases ord_of hRa fL.1 with ⟨h1, o1⟩ | ⟨h1, o1⟩ | ⟨h1, o1⟩
  · refine ⟨fd (-(m : Int)), fd (-(m : Int)), .inl ⟨o1, rfl⟩, .inl ⟨hML, rfl⟩, ?_⟩
    rw [C.iL, if_neg (by omega), if_pos (by omega)]
  · have e := key_inj hR.2 fL.2 h1 (by omega)
    refine ⟨rneW x, rneW x, .inr (.inr ⟨o1, e, rfl⟩), .inl ⟨by rw [e]; exact hML, rfl⟩, ?_⟩
    rw [if_neg (by omega)]
    split
    · rw [e]; exact C.iL
    · exact rne_int C hr (by omega) (by omega)
  · rcases ord_of hRa fM.1 with ⟨h2, o2⟩ | ⟨h2, o2⟩ | ⟨h2, o2⟩
    · refine ⟨rneW x, rneW x, .inr (.inl ⟨o1, rfl⟩), .inl ⟨o2, rfl⟩, ?_⟩
      rw [if_neg (by omega), if_neg (by omega)]
      exact rne_int C hr (by omega) (by omega)
    · have e := key_inj hR.2 fM.2 h2 (by omega)
      refine ⟨rneW x, rneW x, .inr (.inl ⟨o1, rfl⟩), .inr (.inr ⟨o2, e, rfl⟩), ?_⟩
      split
      · rw [e]; exact C.iM
      · rw [if_neg (by omega)]
        exact rne_int C hr (by omega) (by omega)
    · refine ⟨rneW x, fd ((m : Int) - 1), .inr (.inl ⟨o1, rfl⟩), .inr (.inl ⟨o2, rfl⟩), ?_⟩
      rw [C.iM, if_pos (by omega)]
set_option maxHeartbeats 4000000 in
set_option maxRecDepth 100000 in
theorem implNear_any (m : Nat) (x : Nat) (X : O) (w : World) (C : Cst m) (hm : 2 ≤ m ∧ m ≤ 32768) (hx : Hid (Fv .f64 x X)) :
    Calls Try.prog 70 #[codV m, .float .f64 x] w fun e w' => e = .returned (.int .i64 (codO m X)) ∧ w.Since w.heap.size w' := by
  unfold codV
  obtain ⟨f, hf⟩ : ∃ f, f = floatOfInt .f32 (m : Int) := ⟨_, rfl⟩
  rw [← hf]; clear hf
  cases X with
  | none =>
    have ho : FloatKind.f64.format.order x x = none := by rw [order_ab, hx.out.2]; rfl
    clear C
    go_enter Try.func70, Try.ntmps70
    go_wp2_with (first | (go_at_call 86; refine (isNaN_nan _ ho _).mono ?_; rintro e w1 ⟨rfl, rfl⟩))
    go_ret
    exact ⟨rfl, by (repeat (first | (with_reducible refine Fl.sinDrew ?_) | (with_reducible refine World.Since.drew ?_) | (with_reducible refine Fl.sinSet ?_ ?_; rotate_left) | (with_reducible refine Fl.sinAlloc ?_ ?_; rotate_left) | with_reducible exact World.Since.refl _ _ | with_reducible assumption | (with_reducible refine Fl.sinStep (by with_reducible assumption) ?_))); all_goals (first | omega | (simp; done) | (simp; omega) | (simp [go_sem]; done) | (simp [go_sem]; omega))⟩
  | some x' =>
    obtain rfl : x' = x := by
      have h := hx.out.2
      unfold ab at h
      split at h
      · cases h
      · injection h with h; exact h.symm
    have hab := hx.out.2
    have hr := rung_of_ab .f64 hab
    have ho : FloatKind.f64.format.order x' x' = some .eq := ord_self _ hab
    have hcl := fun W => callRne x' hab W
    obtain ⟨r1, r2, q1, q2, q3⟩ := clamp_num C hab
    have hmx := fun W => run_max (P := Try.prog) #[50, 50] 50 _ _ _ q1 W
    have hmn := fun W => run_min (P := Try.prog) #[50, 50] 50 _ _ _ q2 W
    have hcv := fun (W : World) => run_convert_float_int (P := Try.prog) (w := W) 50 2 .f64 .i64 r2 _ (by kernel_rfl) Try.underlying2 q3
    simp only [fd] at hmx hmn
    generalize codO m (some x') = v at hcv ⊢
    clear C q1 q2 q3 hr hab
    go_enter Try.func70, Try.ntmps70
    go_wp2_with (first | (go_at_call 86; refine (isNaN_num _ ho _).mono ?_; rintro e w1 ⟨rfl, rfl⟩))
    refine Lo.wp_loose_all [] (by kernel_rfl) (by kernel_rfl) ?_
    repeat (first
      | (refine Lo.wpL_move rfl _ (.inl rfl) (by decide) ?_; simp only [Act.put, List.setIfInBounds_toArray, List.set_cons_succ, List.set_cons_zero])
      | (refine Lo.wpL_move rfl _ (.inr rfl) (by decide) ?_; simp only [Act.put, List.setIfInBounds_toArray, List.set_cons_succ, List.set_cons_zero])
      | (refine Lo.wpL_fop rfl _ _ _ _ rfl rfl (by decide) _ _ _ _ _ rfl rfl (by assumption) (by assumption) ?_; intro rr hrr; simp only [Act.put, List.setIfInBounds_toArray, List.set_cons_succ, List.set_cons_zero])
      | (refine Lo.wpL_wide rfl _ _ _ rfl (by decide) _ _ rfl (by kernel_rfl) (by kernel_rfl) (by assumption) ?_; intro rr hrr; simp only [Act.put, List.setIfInBounds_toArray, List.set_cons_succ, List.set_cons_zero])
      | (refine Lo.wpL_quiet rfl (by decide) (fun K hK => ?_); go_big_quiet_op; (refine hK _ ?_; clear hK K)))
    refine Lo.wpL_nil ?_
    refine Lo.after_nil ?_; intro nq
    go_wp2
    go_ret
    exact ⟨rfl, by (repeat (first | (with_reducible refine Fl.sinDrew ?_) | (with_reducible refine World.Since.drew ?_) | (with_reducible refine Fl.sinSet ?_ ?_; rotate_left) | (with_reducible refine Fl.sinAlloc ?_ ?_; rotate_left) | with_reducible exact World.Since.refl _ _ | with_reducible assumption | (with_reducible refine Fl.sinStep (by with_reducible assumption) ?_))); all_goals (first | omega | (simp; done) | (simp; omega) | (simp [go_sem]; done) | (simp [go_sem]; omega))⟩
end Go.Proofs.Ytdibobheggffnaa
