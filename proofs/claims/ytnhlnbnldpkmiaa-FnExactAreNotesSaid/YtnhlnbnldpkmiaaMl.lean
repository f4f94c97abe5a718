/- The law of AreNotes. -/
import Derived.Test.YtnhlnbnldpkmiaaMj
import Derived.Test.YtnhlnbnldpkmiaaMk
set_option linter.unusedVariables false
set_option linter.unusedSimpArgs false
namespace Go.Proofs.Ytnhlnbnldpkmiaa
open Fl Go.RowKit
theorem specAreNotes_b (A : Option Addr) (n c : Nat) (x : Nat → NoteR) (r : Bool) (w : World) (h : Rs NoteR.cells 4 w w.heap.size A n x) (hn : n ≤ 1048576) (hr : r = true ↔ notesOk x n ∧ n ≤ 12) :
    Calls Try.prog 33 #[.slice A n c] w (PB r w) := by
  unfold PB
  have HA := Lib.hid h; have HR := Lib.hid hr
  clear h hr
  go_enter Try.func33, Try.ntmps33
  go_wp2_with (go_at_call 84; refine (specNotes_b A n c x r _ _ HA.out (Nat.le_refl _) hn HR.out).mono ?_; rintro e w2 ⟨rfl, hs⟩)
  go_ret
  exact ⟨rfl, hs⟩
open Classical in
theorem lawAreNotes_any (A0 : Option Addr) (n0 c0 : Nat) (x0 : Nat → NoteR) (w : World)
    (h0 : Rs NoteR.cells 4 w w.heap.size A0 n0 x0) (hk0 : ∀ k, k < n0 → (x0 k).wf) (hb0 : n0 ≤ 9223372036854775807) :
    Calls Try.prog 6 #[.slice A0 n0 c0] w fun e w' => e = .returned (.bool true) ∧ w.Since w.heap.size w' := by
  by_cases h : 1048576 < n0
  · exact lawAreNotes_big A0 n0 c0 w h hb0
  · have hn : n0 ≤ 1048576 := by omega
    have hr : (decide (notesOk x0 n0 ∧ n0 ≤ 12)) = true ↔ notesOk x0 n0 ∧ n0 ≤ 12 := decide_eq_true_iff
    exact lawAreNotes_gen A0 n0 c0 x0 _ w h0 hn (fun k hk => (hk0 k hk).1) (fun v b h => specAreNotes_b _ _ _ _ _ _ h hn hr) (fun v b h => implAreNotes_b _ _ _ _ _ _ h hn hr)
end Go.Proofs.Ytnhlnbnldpkmiaa
