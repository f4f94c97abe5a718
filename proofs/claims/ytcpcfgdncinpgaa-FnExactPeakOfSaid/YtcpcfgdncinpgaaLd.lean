/- Laws on lists of floats that give one float, walked (written by a program). -/
import Derived.Test.YtcpcfgdncinpgaaSc
set_option linter.unusedVariables false
set_option linter.unusedSimpArgs false
namespace Go.Proofs.Ytcpcfgdncinpgaa
open Fl Go.RowKit

theorem lawPeakOf (A0 : Option Addr) (n0 c0 : Nat) (x0 : List Nat) (w : World) (h0 : Fs w w.heap.size A0 n0 x0) (m0 : n0 ≤ 9223372036854775807) :
    Calls Try.prog 14 #[.slice A0 n0 c0] w fun e w' => e = .returned (.bool true) ∧ w.Since w.heap.size w' := by
  by_cases hn0 : n0 ≤ 1048576
  · have hd0 : decide ((1048576 : Int) < n0) = false := decide_eq_false (by omega)
    have H0 := Lib.hid h0
    clear h0
    have S0 := Lib.hid (World.Since.refl w.heap.size w)
    go_enter Try.func14, Try.ntmps14
    go_wp2_with fail
    refine (toF_any A0 n0 c0 x0 _ (H0.out.now S0.out) hn0).mono ?_
    rintro e w1 ⟨rfl, hr, hs, hz⟩
    have P0 := Lib.hid (Fs.of_row (B := w1.heap.size) hr H0.out.1 H0.out.2.1 (by omega)); have S1 := Lib.hid (since_step S0.out hs); clear hr hs hz
    go_wp2_with fail
    refine (specPeak_any _ n0 n0 x0 _ _ P0.out hn0).mono ?_
    rintro e w' ⟨r1, q1, rfl, hv, rfl⟩
    have V1 := Lib.hid hv; clear hv; have T1 := Lib.hid (since_drewN S1.out q1)
    go_wp2_with fail
    refine (toF_any A0 n0 c0 x0 _ (H0.out.now T1.out) hn0).mono ?_
    rintro e w2 ⟨rfl, hr, hs, hz⟩
    have Q0 := Lib.hid (Fs.of_row (B := w2.heap.size) hr H0.out.1 H0.out.2.1 (by omega)); have S2 := Lib.hid (since_step T1.out hs); clear hr hs hz
    go_wp2_with fail
    refine (implPeak_any _ n0 n0 x0 _ _ Q0.out hn0).mono ?_
    rintro e w' ⟨r2, q2, rfl, hv, rfl⟩
    have V2 := Lib.hid hv; clear hv; have L1 : r1 < 4294967296 := V1.out.1; have L2 : r2 < 4294967296 := V2.out.1
    go_wp2_with (first | (with_reducible_and_instances refine wpList_wide _ rfl _ _ _ rfl _ rfl (by kernel_rfl) (by kernel_rfl) L1 ?_; intro r3 q3 hr; have X1 := Lib.hid hr; clear hr) | (with_reducible_and_instances refine wpList_wide _ rfl _ _ _ rfl _ rfl (by kernel_rfl) (by kernel_rfl) L2 ?_; intro r4 q4 hr; have X2 := Lib.hid hr; clear hr))
    refine (sameFloat_any _ _ _ _ X2.out (by have := X1.out; rw [V1.out.2, ← V2.out.2] at this; exact this)).mono ?_
    rintro e w' ⟨rfl, q5, rfl⟩
    have T2 := Lib.hid (since_drewN S2.out (q2 + q4 + q3 + q5))
    have Q0' := Lib.hid (Q0.out.drewN (q2 + q4 + q3 + q5)); clear Q0; have Q0 := Q0'; clear Q0'
    go_wp2_with fail
    refine (toF_any A0 n0 c0 x0 _ (H0.out.now T2.out) hn0).mono ?_
    rintro e w3 ⟨rfl, hr, hs, hz⟩
    have Q0' := Lib.hid (Q0.out.since hs |>.more hs.size); clear Q0; have Q0 := Q0'; clear Q0'
    have Z0 := Lib.hid (Fs.of_row (B := w3.heap.size) hr H0.out.1 H0.out.2.1 (by omega)); have S3 := Lib.hid (since_step T2.out hs); clear hr hs hz
    go_wp2_with fail
    refine (eqF_any _ _ n0 n0 n0 x0 x0 _ _ Q0.out Z0.out hn0 (fun _ _ => rfl)).mono ?_
    rintro e w' ⟨rfl, y0, rfl⟩
    have U0 := Lib.hid (since_drewN S3.out y0)
    have Q0' := Lib.hid (Q0.out.drewN y0); clear Q0; have Q0 := Q0'; clear Q0'
    have Z0' := Lib.hid (Z0.out.drewN y0); clear Z0; have Z0 := Z0'; clear Z0'
    go_wp2
    go_ret
    exact ⟨rfl, U0.out⟩
  · have hd0 : decide ((1048576 : Int) < n0) = true := decide_eq_true (by omega)
    go_enter Try.func14, Try.ntmps14
    go_wp2
    go_ret
    exact ⟨rfl, World.Since.refl _ _⟩

end Go.Proofs.Ytcpcfgdncinpgaa
