/- The law of FoldTaps. -/
import Derived.Test.YtdibobheggffnaaTd
import Derived.Test.YtdibobheggffnaaTe
set_option linter.unusedVariables false
set_option linter.unusedSimpArgs false
namespace Go.Proofs.Ytdibobheggffnaa
open Fl Go.RowKit
theorem lawFoldTaps_any (A : Option Addr) (t c : Nat) (ts : List Nat) (A1 : Option Addr) (l c1 : Nat) (ls : List Nat) (A2 : Option Addr) (n c2 : Nat) (xs : List Nat) (w : World) (h0 : Fs w w.heap.size A t ts) (m0 : t ≤ 9223372036854775807) (h1 : Fs w w.heap.size A1 l ls) (m1 : l ≤ 9223372036854775807) (h2 : Fs w w.heap.size A2 n xs) (m2 : n ≤ 9223372036854775807) :
    Calls Try.prog 5 #[.slice A t c, .slice A1 l c1, .slice A2 n c2] w fun e w' => e = .returned (.bool true) ∧ w.Since w.heap.size w' := by
  by_cases b0 : 1048576 < t
  · exact lawFoldTaps_big A t c A1 l c1 A2 n c2 w (.inl b0)
  by_cases b1 : 1048576 < l
  · exact lawFoldTaps_big A t c A1 l c1 A2 n c2 w (.inr (.inl b1))
  by_cases b2 : 1048576 < n
  · exact lawFoldTaps_big A t c A1 l c1 A2 n c2 w (.inr (.inr b2))
  cases hok : okFold t l n
  · exact lawFoldTaps_gen A t c ts A1 l c1 ls A2 n c2 xs 0 (fun _ => none) 0 (fun _ => none) false w h0 (by omega) h1 (by omega) h2 (by omega) (by omega) (by omega) (fun v g g1 g2 _ _ _ => specFoldT_no _ _ _ t _ l n _ _ _ _ v (by omega) (by omega) hok) (fun v g g1 g2 _ _ _ => implFoldT_no _ _ _ t _ l n _ _ _ _ v (by omega) (by omega) hok)
  · simp only [okFold, inB, Bool.and_eq_true, Bool.not_eq_true', bne_eq_false_iff_eq, decide_eq_true_eq] at hok
    exact lawFoldTaps_gen A t c ts A1 l c1 ls A2 n c2 xs n _ l _ true w h0 (by omega) h1 (by omega) h2 (by omega) (by omega) (by omega) (fun v g g1 g2 k0 k1 k2 => specFoldT_ok _ t _ l n _ _ _ _ ts ls xs v k0 k1 k2 (by omega) (by omega) (by omega)) (fun v g g1 g2 k0 k1 k2 => implFold_ok _ t _ l n _ _ _ _ ts ls xs v k0 k1 k2 (by omega) (by omega) (by omega))
end Go.Proofs.Ytdibobheggffnaa
