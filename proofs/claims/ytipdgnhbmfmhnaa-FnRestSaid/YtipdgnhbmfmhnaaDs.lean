/- Lines of one kind: the program's run of a delay. -/
import Derived.Test.YtipdgnhbmfmhnaaDr
import Derived.Test.YtipdgnhbmfmhnaaDm
set_option linter.unusedVariables false
set_option linter.unusedSimpArgs false
namespace Go.Proofs.Ytipdgnhbmfmhnaa
open Fl Go.RowKit
theorem DelAt.of2 {w w' : World} {g : Nat} {d : DelN} (h : DelAt w g d) (hs : g < w'.heap.size) (e : w'.heap[g]? = w.heap[g]?) : DelAt w' g d :=
  ⟨hs, (cell_of_block e _).trans h.l, (cell_of_block e _).trans h.fb, (cell_of_block e _).trans h.dry, (cell_of_block e _).trans h.wet, (cell_of_block e _).trans h.fl⟩
theorem PLLB.up {n0 n1 : Nat} {f0 f1 : Nat → Option Nat} {b : Bool} {w w1 w2 : World} {e : Ending} (s : w.Since w.heap.size w1) (h : PLLB n0 f0 n1 f1 b w1 e w2) : PLLB n0 f0 n1 f1 b w e w2 := by
  obtain ⟨p, q, c, d, he, hp, hq, g1, g2, a1, a2, dj, hs⟩ := h
  exact ⟨p, q, c, d, he, hp, hq, g1.less s.size, g2.less s.size, a1, a2, dj, since_step s hs⟩
/-! where a run fails -/
end Go.Proofs.Ytipdgnhbmfmhnaa
