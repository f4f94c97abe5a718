/- The laws of ValidEnvelope, EndOfNote, LevelAt. -/
import Derived.Test.YtlodnikboekdpaaVc
import Derived.Test.YtlodnikboekdpaaVf
set_option linter.unusedVariables false
set_option linter.unusedSimpArgs false
namespace Go.Proofs.Ytlodnikboekdpaa
open Fl Go.RowKit
theorem lawValidEnvelope_any (e : EnvN) (w : World) (he : e.s < 4294967296 ∧ (Lit.int .i64 e.a).wf = true ∧ (Lit.int .i64 e.d).wf = true ∧ (Lit.int .i64 e.r).wf = true) :
    Calls Try.prog 7 #[e.val] w fun e w' => e = .returned (.bool true) ∧ w.Since w.heap.size w' :=
  lawValidEnvelope_gen e _ w (fun v _ => specValidEnv_b e _ v rfl) (fun v _ => implEnv_b e _ v rfl)
theorem lawEndOfNote_any (e : EnvN) (n : NotN) (w : World) (he : e.s < 4294967296 ∧ (Lit.int .i64 e.a).wf = true ∧ (Lit.int .i64 e.d).wf = true ∧ (Lit.int .i64 e.r).wf = true) (hn : n.g < 4294967296 ∧ (Lit.int .i64 n.st).wf = true ∧ (Lit.int .i64 n.h).wf = true ∧ (Lit.int .i64 n.p).wf = true) :
    Calls Try.prog 9 #[e.val, n.val] w fun e w' => e = .returned (.bool true) ∧ w.Since w.heap.size w' :=
  lawEndOfNote_gen e n _ _ w (fun v _ => specEndOf_b e n _ v rfl) (fun v _ => implEndOf_b e n _ v rfl)
theorem lawLevelAt_any (e : EnvN) (held n : Int) (w : World) (he : e.s < 4294967296 ∧ (Lit.int .i64 e.a).wf = true ∧ (Lit.int .i64 e.d).wf = true ∧ (Lit.int .i64 e.r).wf = true) (h1 : (Lit.int .i64 held).wf = true) (h2 : (Lit.int .i64 n).wf = true) :
    Calls Try.prog 8 #[e.val, .int .i64 held, .int .i64 n] w fun e w' => e = .returned (.bool true) ∧ w.Since w.heap.size w' :=
  lawLevelAt_gen e held n _ _ w (fun v _ => specLevelAt_b e held n _ v he.1 rfl) (fun v _ => implLevelAt_b e held n _ v he.1 rfl)
end Go.Proofs.Ytlodnikboekdpaa
