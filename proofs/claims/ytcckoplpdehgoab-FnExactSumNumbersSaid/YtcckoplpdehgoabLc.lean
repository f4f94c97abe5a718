/- Laws on lists of floats that give one float, walked. -/
import Derived.Test.YtcckoplpdehgoabSb
set_option linter.unusedVariables false
set_option linter.unusedSimpArgs false
namespace Go.Proofs.Ytcckoplpdehgoab
open Fl Go.RowKit

theorem lawSumNumbers (A : Option Addr) (n c : Nat) (xs : List Nat) (w : World) (h : Fs w w.heap.size A n xs) (hm : n ≤ 9223372036854775807) :
    Calls Try.prog 3 #[.slice A n c] w fun e w' => e = .returned (.bool true) ∧ w.Since w.heap.size w' := by
  by_cases hn : n ≤ 1048576
  · have hd : decide ((1048576 : Int) < n) = false := decide_eq_false (by omega)
    have H := Lib.hid h
    clear h
    go_enter Try.func3, Try.ntmps3
    go_wp2_with fail
    refine (toF_any A n c xs w H.out hn).mono ?_
    rintro e w1 ⟨rfl, hr1, hs1, hz1⟩
    have R1 := Lib.hid (Fs.of_row (B := w1.heap.size) hr1 H.out.1 H.out.2.1 (by omega)); have S1 := Lib.hid hs1; clear hr1 hs1 hz1
    go_wp2_with fail
    refine (specSum_any _ n n xs w1 _ R1.out hn).mono ?_
    rintro e w' ⟨r1, m1, rfl, hv1, rfl⟩
    have V1 := Lib.hid hv1; have S1' := Lib.hid (since_drewN S1.out m1); clear hv1
    go_wp2_with fail
    refine (toF_any A n c xs (w1.drewN m1) (H.out.now S1'.out) hn).mono ?_
    rintro e w2 ⟨rfl, hr2, hs2, hz2⟩
    have R2 := Lib.hid (Fs.of_row (B := w2.heap.size) hr2 H.out.1 H.out.2.1 (by omega)); have S2 := Lib.hid (since_step S1'.out hs2); clear hr2 hs2 hz2
    go_wp2_with fail
    refine (implSum_any _ n n xs w2 _ R2.out hn).mono ?_
    rintro e w' ⟨r2, m2, rfl, hv2, rfl⟩
    have V2 := Lib.hid hv2; have S2' := Lib.hid (since_drewN S2.out m2); clear hv2
    have L1 : r1 < 4294967296 := V1.out.1
    have L2 : r2 < 4294967296 := V2.out.1
    go_wp2_with (first | (with_reducible_and_instances refine wpList_wide _ rfl _ _ _ rfl _ rfl (by kernel_rfl) (by kernel_rfl) L1 ?_; intro r3 m3 hr; have X1 := Lib.hid hr; clear hr) | (with_reducible_and_instances refine wpList_wide _ rfl _ _ _ rfl _ rfl (by kernel_rfl) (by kernel_rfl) L2 ?_; intro r4 m4 hr; have X2 := Lib.hid hr; clear hr))
    refine (sameFloat_any _ _ _ _ X2.out (by have := X1.out; rw [V1.out.2, ← V2.out.2] at this; exact this)).mono ?_
    rintro e w' ⟨rfl, m5, rfl⟩
    go_wp2_with fail
    refine (toF_any A n c xs _ (H.out.now (since_drewN S2.out _)) hn).mono ?_
    rintro e w3 ⟨rfl, hr3, hs3, hz3⟩
    have R3 := Lib.hid (Fs.of_row (B := w3.heap.size) hr3 H.out.1 H.out.2.1 (by omega)); have S3 := Lib.hid (since_step (since_drewN S2.out _) hs3)
    have R2' := Lib.hid (((R2.out.drewN _).since hs3).more hs3.size); clear hr3 hs3 hz3
    go_wp2_with fail
    refine (eqF_any _ _ n n n xs xs w3 _ R2'.out R3.out hn (fun _ _ => rfl)).mono ?_
    rintro e w' ⟨rfl, m6, rfl⟩
    go_wp2
    go_ret
    exact ⟨rfl, since_drewN S3.out m6⟩
  · have hd : decide ((1048576 : Int) < n) = true := decide_eq_true (by omega)
    go_enter Try.func3, Try.ntmps3
    go_wp2
    go_ret
    exact ⟨rfl, World.Since.refl _ _⟩
end Go.Proofs.Ytcckoplpdehgoab
