/- The law of PickBy. -/
import Derived.Test.YtdibobheggffnaaJb
import Derived.Test.YtdibobheggffnaaJc
set_option linter.unusedVariables false
set_option linter.unusedSimpArgs false
namespace Go.Proofs.Ytdibobheggffnaa
open Fl Go.RowKit
theorem lawPickBy_any (f t : Int) (A : Option Addr) (n c : Nat) (xs : List Nat) (w : World) (w1 : (Lit.int .i64 f).wf = true) (w2 : (Lit.int .i64 t).wf = true) (h0 : Fs w w.heap.size A n xs) (m0 : n ≤ 9223372036854775807) :
    Calls Try.prog 4 #[.int .i64 f, .int .i64 t, .slice A n c] w fun e w' => e = .returned (.bool true) ∧ w.Since w.heap.size w' := by
  by_cases b1 : 1048576 < n
  · exact lawPickBy_big f t A n c w b1
  cases hok : okPick f t n
  · exact lawPickBy_gen f t A n c xs 0 (fun _ => none) false w h0 (by omega) (by omega) (fun v b g => specPick_no _ n _ f t v hok _) (fun v b g => implPick_no _ n _ f t v hok _)
  · obtain ⟨f', t', rfl, rfl, k1, k2, k3, k4⟩ := okPick_nat hok
    have := cntP_le (n := n) (t := t') k1
    exact lawPickBy_gen f' t' A n c xs _ _ true w h0 (by omega) (by omega) (fun v b g => specPick_ok _ n _ f' t' xs v g k4 k1 k2 k3) (fun v b g => implPick_ok _ n _ f' t' xs v g k4 k1 k2 k3)
end Go.Proofs.Ytdibobheggffnaa
