/- Dynamics: a follower's step, both sides. -/
import Derived.Test.YtflpackchlpedaaEh
import Derived.Test.YtflpackchlpedaaDi
set_option linter.unusedVariables false
set_option linter.unusedSimpArgs false
namespace Go.Proofs.Ytflpackchlpedaa
open Fl Go.RowKit
/-- a follower's three words lie in block g from place o on -/
structure FolAt (w : World) (g : Nat) (a r l : Nat) : Prop where
  lt : g < w.heap.size
  a : w.cell? ⟨g, 0, none⟩ = some (.float .f32 a)
  r : w.cell? ⟨g, 1, none⟩ = some (.float .f32 r)
  l : w.cell? ⟨g, 2, none⟩ = some (.float .f32 l)
theorem FolAt.of {w w' : World} {g a r l : Nat} (h : FolAt w g a r l) (hs : w.heap.size ≤ w'.heap.size) (e : w'.heap[g]? = w.heap[g]?) : FolAt w' g a r l :=
  ⟨Nat.lt_of_lt_of_le h.lt hs, (cell_of_block e _).trans h.a, (cell_of_block e _).trans h.r, (cell_of_block e _).trans h.l⟩
theorem flushH {x : Nat} {F : O} (h : Hid (Fv .f32 x F)) : Hid (Fv .f32 (flushN x) (F.map flushN)) := Lib.hid (flushN_fv h.out)
/-- a level behind a sample -/
def folO (A R L X : O) : O := (ad L (mu (if gtO (sizeO X) L then A else R) (su (sizeO X) L))).map flushN
theorem implFlush_hc (u : O) (w : World) (q m : Nat) (hq : Fv .f32 q u) : Calls Try.prog 66 (Value.float .f32 q :: []).toArray (w.drewN m) fun e w2 => ∃ r n : Nat, e = .returned (.float .f32 r) ∧ Fv .f32 r (u.map flushN) ∧ w2 = w.drewN n :=
  (implFlush_any q (w.drewN m) hq.1).mono fun _ _ ⟨h1, h2⟩ => ⟨_, m, h1, flushN_fv hq, h2.symm⟩
end Go.Proofs.Ytflpackchlpedaa
