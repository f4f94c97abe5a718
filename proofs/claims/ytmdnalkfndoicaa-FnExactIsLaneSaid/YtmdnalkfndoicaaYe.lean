/- The law of IsLane. -/
import Derived.Test.YtmdnalkfndoicaaYd
set_option linter.unusedVariables false
set_option linter.unusedSimpArgs false
namespace Go.Proofs.Ytmdnalkfndoicaa
open Fl Go.RowKit
theorem specIsLane_b (A : Option Addr) (n c : Nat) (x : Nat → PointR) (r : Bool) (w : World) (h : Rs PointR.cells 2 w w.heap.size A n x) (hn : n ≤ 1048576) (hr : r = true ↔ laneOk x n) :
    Calls Try.prog 16 #[.slice A n c] w (PB r w) := by
  unfold PB
  have HA := Lib.hid h; have HR := Lib.hid hr
  clear h hr
  go_enter Try.func16, Try.ntmps16
  go_wp2_with (go_at_call 55; refine (specLane_b A n c x r _ _ HA.out (Nat.le_refl _) hn HR.out).mono ?_; rintro e w2 ⟨rfl, hs⟩)
  go_ret
  exact ⟨rfl, hs⟩
theorem implIsLane_b (A : Option Addr) (n c : Nat) (x : Nat → PointR) (r : Bool) (w : World) (h : Rs PointR.cells 2 w w.heap.size A n x) (hn : n ≤ 1048576) (hnc : n ≤ c) (hr : r = true ↔ laneOk x n) :
    Calls Try.prog 18 #[.slice A n c] w (PB r w) := by
  unfold PB
  have HA := Lib.hid h; have HR := Lib.hid hr
  clear h hr
  go_enter Try.func18, Try.ntmps18
  go_wp2_with (go_at_call 57; refine (laneOf_any A n c x r _ _ HA.out (Nat.le_refl _) hnc hn HR.out).mono ?_; rintro e w2 ⟨v, rfl, hv, hs⟩)
  go_ret
  exact ⟨rfl, hs⟩
open Classical in
theorem lawIsLane_any (A0 : Option Addr) (n0 c0 : Nat) (x0 : Nat → PointR) (w : World)
    (h0 : Rs PointR.cells 2 w w.heap.size A0 n0 x0) (hk0 : ∀ k, k < n0 → (x0 k).wf) (hb0 : n0 ≤ 9223372036854775807) :
    Calls Try.prog 3 #[.slice A0 n0 c0] w fun e w' => e = .returned (.bool true) ∧ w.Since w.heap.size w' := by
  by_cases h : 1048576 < n0
  · exact lawIsLane_big A0 n0 c0 w h hb0
  · have hn : n0 ≤ 1048576 := by omega
    have hr : (decide (laneOk x0 n0)) = true ↔ laneOk x0 n0 := decide_eq_true_iff
    exact lawIsLane_gen A0 n0 c0 x0 _ w h0 hn (fun k hk => (hk0 k hk).1) (fun v b h => specIsLane_b _ _ _ _ _ _ h hn hr) (fun v b h => implIsLane_b _ _ _ _ _ _ h hn (Nat.le_refl _) hr)
end Go.Proofs.Ytmdnalkfndoicaa
