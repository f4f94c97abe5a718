/- The law of BytesOfCodes. -/
import Derived.Test.YtbncjdeplbafiaaIf
set_option linter.unusedVariables false
set_option linter.unusedSimpArgs false
namespace Go.Proofs.Ytbncjdeplbafiaa
open Fl Go.RowKit
theorem lawBytesOfCodes_any (A0 : Option Addr) (n0 c0 : Nat) (x0 : List Int) (w : World) (hI : Is w w.heap.size A0 n0 x0) (_ : ∀ k, k < n0 → (Lit.int .i64 (wi x0 k)).wf = true) (hb : n0 ≤ 9223372036854775807) :
    Calls Try.prog 3 #[.slice A0 n0 c0] w fun e w' => e = .returned (.bool true) ∧ w.Since w.heap.size w' := by
  by_cases b : 1048576 < n0
  · exact lawBytesOfCodes_big A0 n0 c0 w b
  by_cases h : n0 ≤ 256 ∧ areC 32768 x0 n0
  · exact lawBytesOfCodes_gen A0 n0 c0 x0 _ true w hI (by omega) (fun v g hv => specBytesB_ok _ n0 _ x0 v hv h.1 h.2) (fun v g hv => implBytesB_ok _ n0 _ x0 v hv h.1 h.2)
  · exact lawBytesOfCodes_gen A0 n0 c0 x0 _ false w hI (by omega) (fun v g hv => specBytesB_no _ n0 _ x0 v hv (by omega) h) (fun v g hv => implBytesB_no _ n0 _ x0 v hv (by omega) h)
end Go.Proofs.Ytbncjdeplbafiaa
