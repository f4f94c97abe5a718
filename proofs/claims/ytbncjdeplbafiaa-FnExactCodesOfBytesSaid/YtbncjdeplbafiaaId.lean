/- The law of CodesOfBytes. -/
import Derived.Test.YtbncjdeplbafiaaIc
set_option linter.unusedVariables false
set_option linter.unusedSimpArgs false
namespace Go.Proofs.Ytbncjdeplbafiaa
open Fl Go.RowKit
theorem lawCodesOfBytes_big (s : ByteArray) (w : World) (h : 1048576 < s.size) :
    Calls Try.prog 4 #[.string s] w fun e w' => e = .returned (.bool true) ∧ w.Since w.heap.size w' := by
  have hd0 : decide ((1048576 : Int) < s.size) = true := decide_eq_true (by omega)
  go_enter Try.func4, Try.ntmps4
  go_wp2
  go_ret
  exact ⟨rfl, World.Since.refl _ _⟩
theorem lawCodesOfBytes_any (s : ByteArray) (w : World) (hs : s.size ≤ maxLen) :
    Calls Try.prog 4 #[.string s] w fun e w' => e = .returned (.bool true) ∧ w.Since w.heap.size w' := by
  by_cases b : 1048576 < s.size
  · exact lawCodesOfBytes_big s w b
  by_cases h : s.size % 2 = 0 ∧ s.size ≤ 512
  · obtain ⟨n, hn⟩ : ∃ n, s.size = 2 * n := ⟨s.size / 2, by omega⟩
    exact lawCodesOfBytes_gen s (by omega) n _ true w (by omega) (fun v _ => specCodesB_ok s n v hn (by omega)) (fun v _ => implCodesB_ok s n v hn (by omega))
  · exact lawCodesOfBytes_gen s (by omega) 0 [] false w (by omega) (fun v _ => specCodesB_no s v (by omega) h) (fun v _ => implCodesB_no s v (by omega) h)
end Go.Proofs.Ytbncjdeplbafiaa
