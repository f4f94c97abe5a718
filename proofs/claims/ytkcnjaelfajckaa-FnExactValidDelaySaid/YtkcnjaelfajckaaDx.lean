/- The laws of EmptyLine and ValidDelay. -/
import Derived.Test.YtkcnjaelfajckaaDw
import Derived.Test.YtkcnjaelfajckaaFd
set_option linter.unusedVariables false
set_option linter.unusedSimpArgs false
namespace Go.Proofs.Ytkcnjaelfajckaa
open Fl Go.RowKit
theorem lawEmptyLine_any (l : Int) (w : World) (hw : (Lit.int .i64 l).wf = true) :
    Calls Try.prog 4 #[.int .i64 l] w fun e w' => e = .returned (.bool true) ∧ w.Since w.heap.size w' := by
  cases hok : okLen l
  · exact lawEmptyLine_gen l 0 (fun _ => none) false w (by omega) (fun v _ => specEmpty_no l v hok _) (fun v _ => implEmpty_no l v hok _)
  · have h := hok
    simp only [Bool.and_eq_true, decide_eq_true_eq, okLen] at h
    obtain ⟨n, rfl⟩ : ∃ n : Nat, l = n := ⟨l.toNat, by omega⟩
    exact lawEmptyLine_gen n n _ true w (by omega) (fun v _ => specEmpty_ok n v (by omega) (by omega)) (fun v _ => implEmpty_ok n v (by omega) (by omega))
theorem lawValidDelay_any (d : DelN) (w : World) (hd : DelOk d) :
    Calls Try.prog 3 #[d.val] w fun e w' => e = .returned (.bool true) ∧ w.Since w.heap.size w' :=
  lawValidDelay_gen d (okLen d.l) w (fun v _ => specValidDelay_any d v) (fun v _ => implValidDelay_any d v)
end Go.Proofs.Ytkcnjaelfajckaa
