/- The code nearest to a number: both. -/
import Derived.Test.YtdibobheggffnaaJp
set_option linter.unusedVariables false
set_option linter.unusedSimpArgs false
namespace Go.Proofs.Ytdibobheggffnaa
open Fl Go.RowKit
theorem run_rne {P : Program} (x : Nat) (hx : ab .f64 x = some x) (w : World) : (Extern.MathFloor.toIntegral "math.RoundToEven" .even #[.float .f64 x]).run P w = .ok (.float .f64 (rneW x)) w := by
  have hn : (FloatKind.f64.decode x).isNaN = false := by
    have := read_nan (k := .f64) (b := x)
    rw [hx] at this
    exact this
  unfold rneW
  change Sem.run P (match FloatKind.f64.decode x with
    | .nan s t => if FloatKind.f64.format.quiet t = t then pure (Value.float .f64 x) else do
      let kept ← choose (.extern "math.Floor,Ceil,Trunc,RoundToEven.signallingNaN kept" 2)
      pure (Value.float .f64 (if kept == 1 then x else FloatKind.f64.encode (.nan s (FloatKind.f64.format.quiet t))))
    | d => pure (Value.float .f64 (FloatKind.f64.encode (d.integral .even)))) w = _
  cases hd : FloatKind.f64.decode x with
  | nan s t => rw [hd] at hn; cases hn
  | number s m e => rfl
  | infinity s => rfl
theorem codO_some (m x : Nat) : codO m (some x) = if key .f64 (fd ((m : Int) - 1)) ≤ key .f64 x then (m : Int) - 1 else if key .f64 x ≤ key .f64 (fd (-(m : Int))) then -(m : Int) else (floatToIntVal .f64 (rneW x) .i64).getD 0 := rfl
theorem callRne (x : Nat) (hx : ab .f64 x = some x) (w : World) : (callFunc 85 #[.float .f64 x]).run Try.prog w = .ok (.value (.float .f64 (rneW x))) w := by
  rw [run_callFunc_extern (P := Try.prog) (fn := Try.f85) (e := Extern.MathFloor.toIntegral "math.RoundToEven" .even) (by kernel_rfl) (by kernel_rfl) (by kernel_rfl) (by kernel_rfl) (by kernel_rfl), run_rne x hx]
  rfl
theorem ord_of {x c : Nat} (hx : ab .f64 x = some x) (hc : ab .f64 c = some c) : (key .f64 x < key .f64 c ∧ FloatKind.f64.format.order x c = some .lt) ∨ (key .f64 x = key .f64 c ∧ FloatKind.f64.format.order x c = some .eq) ∨ (key .f64 c < key .f64 x ∧ FloatKind.f64.format.order x c = some .gt) := by
  rw [order_key .f64 hx hc, cmp_def]
  rcases Int.lt_trichotomy (key .f64 x) (key .f64 c) with h | h | h
  · exact .inl ⟨h, by rw [if_pos h]⟩
  · exact .inr (.inl ⟨h, by rw [if_neg (by omega), if_pos h]⟩)
  · exact .inr (.inr ⟨h, by rw [if_neg (by omega), if_neg (by omega)]⟩)
set_option maxHeartbeats 4000000 in
set_option maxRecDepth 100000 in
theorem specCode_any (b : Nat) (x : Nat) (X : O) (w : World) (h1 : 2 ≤ b) (h2 : b ≤ 16) (hx : Hid (Fv .f64 x X)) :
    Calls Try.prog 67 #[.int .i64 b, .float .f64 x] w fun e w' => e = .returned (.int .i64 (codO (mst b) X)) ∧ w = w' := by
  have C := cst_of h1 h2
  have hm := mst_le h1 h2
  have hq := fun W => specMost_any b W h1 h2
  obtain ⟨m, hmm⟩ : ∃ m, m = mst b := ⟨_, rfl⟩
  rw [← hmm] at hq hm C ⊢
  clear hmm
  have HQ := Lib.hid hq; clear hq
  cases X with
  | none =>
    have ho : FloatKind.f64.format.order x x = none := by rw [order_ab, hx.out.2]; rfl
    clear C
    go_enter Try.func67, Try.ntmps67
    go_wp2_with (first | (go_at_call 64; refine (HQ.out _).mono ?_; rintro e w1 ⟨rfl, rfl⟩))
    go_ret
    exact ⟨rfl, rfl⟩
  | some x' =>
    obtain rfl : x' = x := by
      have h := hx.out.2
      unfold ab at h
      split at h
      · cases h
      · injection h with h; exact h.symm
    have hab := hx.out.2
    have hr := rung_of_ab .f64 hab
    have ho : FloatKind.f64.format.order x' x' = some .eq := ord_self _ hab
    have hcl := fun W => callRne x' hab W
    rcases ord_of hab (fd_fits ((m : Int) - 1)).1 with ⟨k1, hoM⟩ | ⟨k1, hoM⟩ | ⟨k1, hoM⟩
    · rcases ord_of hab (fd_fits (-(m : Int))).1 with ⟨k2, hoL⟩ | ⟨k2, hoL⟩ | ⟨k2, hoL⟩
      · have hR : Hid (codO m (some x') = -(m : Int)) := Lib.hid (by rw [codO_some, if_neg (by omega), if_pos (by omega)])
        simp only [fd] at hoM hoL
        clear C k1 k2 hab hr hcl
        go_enter Try.func67, Try.ntmps67
        go_wp2_with (first | (go_at_call 64; refine (HQ.out _).mono ?_; rintro e w1 ⟨rfl, rfl⟩))
        go_ret
        exact ⟨by rw [hR.out]; rfl, rfl⟩
      · have hR : Hid (codO m (some x') = -(m : Int)) := Lib.hid (by rw [codO_some, if_neg (by omega), if_pos (by omega)])
        simp only [fd] at hoM hoL
        clear C k1 k2 hab hr hcl
        go_enter Try.func67, Try.ntmps67
        go_wp2_with (first | (go_at_call 64; refine (HQ.out _).mono ?_; rintro e w1 ⟨rfl, rfl⟩))
        go_ret
        exact ⟨by rw [hR.out]; rfl, rfl⟩
      · have hR : Hid (codO m (some x') = (floatToIntVal .f64 (rneW x') .i64).getD 0) := Lib.hid (by rw [codO_some, if_neg (by omega), if_neg (by omega)])
        have hv := rne_int C hr (by omega) (by omega)
        simp only [fd] at hoM hoL
        generalize (floatToIntVal .f64 (rneW x') .i64).getD 0 = v at hv hR
        have hcv := fun (W : World) => run_convert_float_int (P := Try.prog) (w := W) 50 2 .f64 .i64 (rneW x') v (by kernel_rfl) Try.underlying2 hv
        clear C k1 k2 hab hr
        go_enter Try.func67, Try.ntmps67
        go_wp2_with (first | (go_at_call 64; refine (HQ.out _).mono ?_; rintro e w1 ⟨rfl, rfl⟩))
        go_ret
        exact ⟨by rw [hR.out]; rfl, rfl⟩
    all_goals
      have hR : Hid (codO m (some x') = (m : Int) - 1) := Lib.hid (by rw [codO_some, if_pos (by omega)])
      simp only [fd] at hoM
      clear C k1 hab hr hcl
      go_enter Try.func67, Try.ntmps67
      go_wp2_with (first | (go_at_call 64; refine (HQ.out _).mono ?_; rintro e w1 ⟨rfl, rfl⟩))
      go_ret
      exact ⟨by rw [hR.out]; rfl, rfl⟩
end Go.Proofs.Ytdibobheggffnaa
