/- Dynamics: the gate. -/
import Derived.Test.YtflpackchlpedaaEg
set_option linter.unusedVariables false
set_option linter.unusedSimpArgs false
namespace Go.Proofs.Ytflpackchlpedaa
open Fl Go.RowKit
theorem specHold_b (n lo hi : Int) (b : Bool) (w : World) (h : inB n lo hi = b) :
    Calls Try.prog 70 #[.int .i64 n, .int .i64 lo, .int .i64 hi] w fun e w' => e = .returned (.bool b) ∧ w = w' := by subst h; exact l00In_any n lo hi w
/-- what the closure of a gate finds in its boxes -/
structure GateI (b t : Nat) (hold H : Int) (W : World) : Prop where
  lt : b + 1 + 1 < W.heap.size
  t : W.cell? ⟨b, 0, none⟩ = some (.float .f32 t)
  ho : W.cell? ⟨b + 1, 0, none⟩ = some (.int .i64 hold)
  he : W.heap[b + 1 + 1]? = some (.cells #[.int .i64 H] 2 (0, 0))
theorem GateI.of {b t : Nat} {hold H : Int} {W W' : World} (h : GateI b t hold H W) (hs : W.heap.size ≤ W'.heap.size) (e : ∀ i, i ≤ b + 1 + 1 → W'.heap[i]? = W.heap[i]?) : GateI b t hold H W' :=
  ⟨Nat.lt_of_lt_of_le h.lt hs, (cell_of_block (e _ (by omega)) _).trans h.t, (cell_of_block (e _ (by omega)) _).trans h.ho, (e _ (by omega)).trans h.he⟩
theorem GateI.set {b t : Nat} {hold H H' : Int} {W : World} (h : GateI b t hold H W) : GateI b t hold H' (W.setCell ⟨b + 1 + 1, 0, none⟩ (.int .i64 H')) :=
  ⟨by rw [Go.Deep.nblk_setCell]; exact h.lt, (cell_of_block (Go.Deep.blk_setCell_other _ _ _ _ (show b ≠ b + 1 + 1 by omega)) _).trans h.t, (cell_of_block (Go.Deep.blk_setCell_other _ _ _ _ (show b + 1 ≠ b + 1 + 1 by omega)) _).trans h.ho, by
    simp [World.setCell, Array.getElem?_modify, h.he]⟩
end Go.Proofs.Ytflpackchlpedaa
