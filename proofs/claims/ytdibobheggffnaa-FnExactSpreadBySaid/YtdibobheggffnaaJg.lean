/- The law of SpreadBy. -/
import Derived.Test.YtdibobheggffnaaJe
import Derived.Test.YtdibobheggffnaaJf
set_option linter.unusedVariables false
set_option linter.unusedSimpArgs false
namespace Go.Proofs.Ytdibobheggffnaa
open Fl Go.RowKit
theorem lawSpreadBy_any (f : Int) (A : Option Addr) (n c : Nat) (xs : List Nat) (w : World) (w1 : (Lit.int .i64 f).wf = true) (h0 : Fs w w.heap.size A n xs) (m0 : n ≤ 9223372036854775807) :
    Calls Try.prog 3 #[.int .i64 f, .slice A n c] w fun e w' => e = .returned (.bool true) ∧ w.Since w.heap.size w' := by
  by_cases b1 : 1048576 < n
  · exact lawSpreadBy_big f A n c w b1
  cases hok : okSpr f n
  · exact lawSpreadBy_gen f A n c xs 0 (fun _ => none) false w h0 (by omega) (by omega) (fun v b g => specSpread_no _ n _ f v (by omega) hok _) (fun v b g => implSpread_no _ n _ f v (by omega) hok _)
  · obtain ⟨f', rfl, k1, k2, k3, k4⟩ := okSpr_nat hok
    have : n * f' ≤ 256 := by rw [Nat.mul_comm]; exact k3
    exact lawSpreadBy_gen f' A n c xs _ _ true w h0 (by omega) (by omega) (fun v b g => specSpread_ok _ n _ f' xs v g k4 k1 k2 k3) (fun v b g => implSpread_ok _ n _ f' xs v g k4 k1 k2 k3)
end Go.Proofs.Ytdibobheggffnaa
