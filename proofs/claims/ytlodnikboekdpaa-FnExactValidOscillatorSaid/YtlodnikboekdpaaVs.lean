/- The law of ValidOscillator. -/
import Derived.Test.YtlodnikboekdpaaVr
import Derived.Test.YtlodnikboekdpaaVf
set_option linter.unusedVariables false
set_option linter.unusedSimpArgs false
namespace Go.Proofs.Ytlodnikboekdpaa
open Fl Go.RowKit
theorem lawValidOscillator_any (e : OscN) (w : World) (he : e.st < 4294967296 ∧ e.ph < 4294967296 ∧ (Lit.int .i64 e.k).wf = true) :
    Calls Try.prog 3 #[e.val] w fun e w' => e = .returned (.bool true) ∧ w.Since w.heap.size w' :=
  lawValidOscillator_gen e _ w (fun v _ => specValidOsc_b e _ _ _ v (Lib.hid ⟨he.1, rfl⟩) (Lib.hid ⟨he.2.1, rfl⟩) rfl) (fun v _ => implValidOsc_b e _ _ _ v (Lib.hid ⟨he.1, rfl⟩) (Lib.hid ⟨he.2.1, rfl⟩) rfl)
end Go.Proofs.Ytlodnikboekdpaa
