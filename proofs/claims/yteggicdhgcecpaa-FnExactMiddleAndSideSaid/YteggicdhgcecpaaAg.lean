/- The laws of MixSamples, ScaleSamples, LeftAndRight, MiddleAndSide. -/
import Derived.Test.YteggicdhgcecpaaAe
import Derived.Test.YteggicdhgcecpaaAf
set_option linter.unusedVariables false
set_option linter.unusedSimpArgs false
namespace Go.Proofs.Yteggicdhgcecpaa
open Fl Go.RowKit
theorem lawLeftAndRight_any (A0 : Option Addr) (n0 c0 : Nat) (x0 : List Nat) (A1 : Option Addr) (n1 c1 : Nat) (x1 : List Nat) (w : World) (h0 : Fs w w.heap.size A0 n0 x0) (hb0 : n0 ≤ 9223372036854775807) (h1 : Fs w w.heap.size A1 n1 x1) (hb1 : n1 ≤ 9223372036854775807) :
    Calls Try.prog 9 #[.slice A0 n0 c0, .slice A1 n1 c1] w fun e w' => e = .returned (.bool true) ∧ w.Since w.heap.size w' := by
  by_cases h : 1048576 < n0 ∨ 1048576 < n1
  · exact lawLeftAndRight_big A0 n0 c0 A1 n1 c1 w h
  · have hn0 : n0 ≤ 1048576 := by omega
    have hn1 : n1 ≤ 1048576 := by omega
    by_cases ho : n0 ≤ 256 ∧ n0 = n1
    · obtain ⟨ho, rfl⟩ := ho
      exact lawLeftAndRight_gen A0 n0 c0 x0 A1 n0 c1 x1 n0 _ n0 _ true w h0 hn0 h1 hn1 hn0 hn0 (fun v b b2 h h2 => specLR_ok _ _ _ _ _ _ _ _ h h2 ho) (fun v b b2 h h2 => implLR_ok _ _ _ _ _ _ _ _ h (Nat.le_refl _) h2 (Nat.le_refl _) ho)
    · exact lawLeftAndRight_gen A0 n0 c0 x0 A1 n1 c1 x1 0 (fun _ => none) 0 (fun _ => none) false w h0 hn0 h1 hn1 (by omega) (by omega) (fun v b b2 h h2 => specLR_no _ _ _ _ _ _ _ ho hn0 hn1 _ _) (fun v b b2 h h2 => implLR_no _ _ _ _ _ _ _ ho _ _)
theorem lawMiddleAndSide_any (A0 : Option Addr) (n0 c0 : Nat) (x0 : List Nat) (A1 : Option Addr) (n1 c1 : Nat) (x1 : List Nat) (w : World) (h0 : Fs w w.heap.size A0 n0 x0) (hb0 : n0 ≤ 9223372036854775807) (h1 : Fs w w.heap.size A1 n1 x1) (hb1 : n1 ≤ 9223372036854775807) :
    Calls Try.prog 8 #[.slice A0 n0 c0, .slice A1 n1 c1] w fun e w' => e = .returned (.bool true) ∧ w.Since w.heap.size w' := by
  by_cases h : 1048576 < n0 ∨ 1048576 < n1
  · exact lawMiddleAndSide_big A0 n0 c0 A1 n1 c1 w h
  · have hn0 : n0 ≤ 1048576 := by omega
    have hn1 : n1 ≤ 1048576 := by omega
    by_cases ho : n0 ≤ 256 ∧ n0 = n1
    · obtain ⟨ho, rfl⟩ := ho
      exact lawMiddleAndSide_gen A0 n0 c0 x0 A1 n0 c1 x1 n0 _ n0 _ true w h0 hn0 h1 hn1 hn0 hn0 (fun v b b2 h h2 => specMS_ok _ _ _ _ _ _ _ _ h h2 ho) (fun v b b2 h h2 => implMS_ok _ _ _ _ _ _ _ _ h (Nat.le_refl _) h2 (Nat.le_refl _) ho)
    · exact lawMiddleAndSide_gen A0 n0 c0 x0 A1 n1 c1 x1 0 (fun _ => none) 0 (fun _ => none) false w h0 hn0 h1 hn1 (by omega) (by omega) (fun v b b2 h h2 => specMS_no _ _ _ _ _ _ _ ho hn0 hn1 _ _) (fun v b b2 h h2 => implMS_no _ _ _ _ _ _ _ ho _ _)
end Go.Proofs.Yteggicdhgcecpaa
