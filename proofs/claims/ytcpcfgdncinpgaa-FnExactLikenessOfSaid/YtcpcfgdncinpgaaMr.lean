/- The laws of HoldPeaks, LagPower, LikenessOf, BalanceOf. -/
import Derived.Test.YtcpcfgdncinpgaaMq
set_option linter.unusedVariables false
set_option linter.unusedSimpArgs false
namespace Go.Proofs.Ytcpcfgdncinpgaa
open Fl Go.RowKit
theorem lawHoldPeaks_any (A0 : Option Addr) (n0 c0 : Nat) (x0 : List Nat) (q f : Nat) (w : World) (h0 : Fs w w.heap.size A0 n0 x0) (m0 : n0 ≤ 9223372036854775807) (hq : Fv .f32 q (ab .f32 q)) (hf : Fv .f32 f (ab .f32 f)) :
    Calls Try.prog 13 #[.slice A0 n0 c0, .float .f32 q, .float .f32 f] w fun e w' => e = .returned (.bool true) ∧ w.Since w.heap.size w' := by
  by_cases b1 : 1048576 < n0
  · exact lawHoldPeaks_big A0 n0 c0 q f w b1
  by_cases hn : n0 ≤ 256
  · exact lawHoldPeaks_gen A0 n0 c0 x0 q f n0 _ true w h0 (by omega) (by omega) (fun v b g => specHold_ok _ n0 _ x0 q f _ _ v g hn (Lib.hid hq) (Lib.hid hf)) (fun v b g => implHold_ok _ n0 _ x0 q f _ _ v g hn (Lib.hid hq) (Lib.hid hf))
  · exact lawHoldPeaks_gen A0 n0 c0 x0 q f 0 (fun _ => none) false w h0 (by omega) (by omega) (fun v b g => specHold_no _ n0 _ q f v hn _) (fun v b g => implHold_no _ n0 _ q f v hn _)
theorem lawLagPower_any (A0 : Option Addr) (n0 c0 : Nat) (x0 : List Nat) (lag count : Int) (w : World) (h0 : Fs w w.heap.size A0 n0 x0) (m0 : n0 ≤ 9223372036854775807) (w1 : (Lit.int .i64 lag).wf = true) (w2 : (Lit.int .i64 count).wf = true) :
    Calls Try.prog 6 #[.slice A0 n0 c0, .int .i64 lag, .int .i64 count] w fun e w' => e = .returned (.bool true) ∧ w.Since w.heap.size w' := by
  by_cases b1 : 1048576 < n0
  · exact lawLagPower_big A0 n0 c0 lag count w b1
  · exact lawLagPower_gen A0 n0 c0 x0 lag count _ _ w h0 (by omega) (fun v b g => specLagP_any _ n0 _ x0 lag count v g (by omega) _ (Lib.hid rfl)) (fun v b g => implLagP_any _ n0 _ x0 lag count v g (by omega) _ (Lib.hid rfl))
theorem lawLikenessOf_any (A0 : Option Addr) (n0 c0 : Nat) (x0 : List Nat) (A1 : Option Addr) (n1 c1 : Nat) (x1 : List Nat) (w : World) (h0 : Fs w w.heap.size A0 n0 x0) (m0 : n0 ≤ 9223372036854775807) (h1 : Fs w w.heap.size A1 n1 x1) (m1 : n1 ≤ 9223372036854775807) :
    Calls Try.prog 10 #[.slice A0 n0 c0, .slice A1 n1 c1] w fun e w' => e = .returned (.bool true) ∧ w.Since w.heap.size w' := by
  by_cases b1 : 1048576 < n0 ∨ 1048576 < n1
  · exact lawLikenessOf_big A0 n0 c0 A1 n1 c1 w b1
  · exact lawLikenessOf_gen A0 n0 c0 x0 A1 n1 c1 x1 _ _ w h0 (by omega) h1 (by omega) (fun v b d g h => specLike_any _ n0 _ x0 _ n1 _ x1 v g (by omega) h (by omega) _ (Lib.hid rfl)) (fun v b d g h => implLike_any _ n0 _ x0 _ n1 _ x1 v g (by omega) h (by omega) _ (Lib.hid rfl))
theorem lawBalanceOf_any (A0 : Option Addr) (n0 c0 : Nat) (x0 : List Nat) (A1 : Option Addr) (n1 c1 : Nat) (x1 : List Nat) (w : World) (h0 : Fs w w.heap.size A0 n0 x0) (m0 : n0 ≤ 9223372036854775807) (h1 : Fs w w.heap.size A1 n1 x1) (m1 : n1 ≤ 9223372036854775807) :
    Calls Try.prog 11 #[.slice A0 n0 c0, .slice A1 n1 c1] w fun e w' => e = .returned (.bool true) ∧ w.Since w.heap.size w' := by
  by_cases b1 : 1048576 < n0 ∨ 1048576 < n1
  · exact lawBalanceOf_big A0 n0 c0 A1 n1 c1 w b1
  · exact lawBalanceOf_gen A0 n0 c0 x0 A1 n1 c1 x1 _ _ w h0 (by omega) h1 (by omega) (fun v b d g h => specBal_any _ n0 _ x0 _ n1 _ x1 v g (by omega) h (by omega) _ (Lib.hid rfl)) (fun v b d g h => implBal_any _ n0 _ x0 _ n1 _ x1 v g (by omega) h (by omega) _ (Lib.hid rfl))
end Go.Proofs.Ytcpcfgdncinpgaa
