/- The law of StepOfPitch. -/
import Derived.Test.YtlodnikboekdpaaVu
set_option linter.unusedVariables false
set_option linter.unusedSimpArgs false
namespace Go.Proofs.Ytlodnikboekdpaa
open Fl Go.RowKit
theorem lawStepOfPitch_any (n : Int) (w : World) (hn : (Lit.int .i64 n).wf = true) :
    Calls Try.prog 6 #[.int .i64 n] w fun e w' => e = .returned (.bool true) ∧ w.Since w.heap.size w' :=
  lawStepOfPitch_gen n _ _ w (fun v _ => specStepOf_b n _ v rfl) (fun v _ => implStepOf_b n _ v rfl)
end Go.Proofs.Ytlodnikboekdpaa
