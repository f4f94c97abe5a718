/- Lines of one kind: the program's run of a delay. -/
import Derived.Test.YtpcbniaagckjoaaDr
import Derived.Test.YtpcbniaagckjoaaDm
set_option linter.unusedVariables false
set_option linter.unusedSimpArgs false
namespace Go.Proofs.Ytpcbniaagckjoaa
open Fl Go.RowKit
theorem implSamples_b (B : Option Addr) (m c : Nat) (b : Bool) (w : World) (h : decide ((m : Int) ≤ 256) = b) :
    Calls Try.prog 102 #[.slice B m c] w fun e w' => e = .returned (.bool b) ∧ w = w' := by
  go_enter Try.func102, Try.ntmps102
  go_wp2
  go_ret
  exact ⟨rfl, rfl⟩
theorem implIsLine_b (A : Option Addr) (n c : Nat) (b : Bool) (w : World) (h : okLen (n : Int) = b) :
    Calls Try.prog 112 #[.slice A n c] w fun e w' => e = .returned (.bool b) ∧ w = w' := by
  go_enter Try.func112, Try.ntmps112
  go_wp2_with (go_at_call 147; refine (implLen_b _ _ _ h).mono ?_; rintro e w' ⟨rfl, rfl⟩)
  go_ret
  exact ⟨rfl, rfl⟩
theorem DelAt.of2 {w w' : World} {g : Nat} {d : DelN} (h : DelAt w g d) (hs : g < w'.heap.size) (e : w'.heap[g]? = w.heap[g]?) : DelAt w' g d :=
  ⟨hs, (cell_of_block e _).trans h.l, (cell_of_block e _).trans h.fb, (cell_of_block e _).trans h.dry, (cell_of_block e _).trans h.wet, (cell_of_block e _).trans h.fl⟩
/-- what stands when k samples have gone through a ring -/
def RunI (d : DelN) (S : Nat → O) (F : FuncId) (n g b5 b6 b13 k : Nat) (W : World) : Prop :=
  ∃ f, RingAt W g n (k % n) f ∧ (∀ j, j < n → ab .f32 (f j) = S (Ln.ix n k j)) ∧ DelAt W b5 d ∧ W.cell? ⟨b6, 0, none⟩ = some (.func (.func F) #[] #[]) ∧ W.cell? ⟨b13, 0, none⟩ = some (.pointer (some ⟨g, 0, none⟩))
theorem PLLB.up {n0 n1 : Nat} {f0 f1 : Nat → Option Nat} {b : Bool} {w w1 w2 : World} {e : Ending} (s : w.Since w.heap.size w1) (h : PLLB n0 f0 n1 f1 b w1 e w2) : PLLB n0 f0 n1 f1 b w e w2 := by
  obtain ⟨p, q, c, d, he, hp, hq, g1, g2, a1, a2, dj, hs⟩ := h
  exact ⟨p, q, c, d, he, hp, hq, g1.less s.size, g2.less s.size, a1, a2, dj, since_step s hs⟩
/-! where a run fails -/
end Go.Proofs.Ytpcbniaagckjoaa
