/- Slices of floats that the call itself has made: written, and looked at again, by the laws. -/
import Derived.Test.YtflpackchlpedaaSa
set_option linter.unusedVariables false
set_option linter.unusedSimpArgs false
namespace Go.Proofs.Ytflpackchlpedaa
namespace Fl

/-- A slice (address A, length n) of the call's own, from block lo on, with the words xs; its cells may be written. T: the element's type. -/
def Gs (T : TypeId) (w : World) (lo : Nat) (A : Option Addr) (n : Nat) (xs : List Nat) : Prop :=
  xs.length = n ∧ Small xs ∧ (0 < n → ∃ g cs, A = some ⟨g, 0, none⟩ ∧ lo ≤ g ∧ w.heap[g]? = some (.cells cs T (0, 0)) ∧ ∀ k, k < n → cs[k]? = some (fv xs k))
section
variable {T : TypeId} {w w' : World} {lo n : Nat} {A : Option Addr} {xs : List Nat}
theorem Gs.read (h : Gs T w lo A n xs) : Fs w w.heap.size A n xs :=
  ⟨h.1, h.2.1, fun hn => by
    obtain ⟨g, cs, e, hg, hb, hc⟩ := h.2.2 hn
    refine ⟨g, 0, e, (Array.getElem?_eq_some_iff.1 hb).1, fun k hk => ?_⟩
    simp only [World.cell?, hb, Nat.zero_add]
    simpa using hc k hk⟩
theorem Gs.since (h : Gs T w lo A n xs) (hs : w.Since w.heap.size w') : Gs T w' lo A n xs :=
  ⟨h.1, h.2.1, fun hn => by
    obtain ⟨g, cs, e, hg, hb, hc⟩ := h.2.2 hn
    exact ⟨g, cs, e, hg, (hs.block g (Array.getElem?_eq_some_iff.1 hb).1).trans hb, hc⟩⟩
theorem Gs.drewN (h : Gs T w lo A n xs) (k : Nat) : Gs T (w.drewN k) lo A n xs := h
theorem Gs.less (h : Gs T w lo A n xs) {l : Nat} (hl : l ≤ lo) : Gs T w l A n xs :=
  ⟨h.1, h.2.1, fun hn => by
    obtain ⟨g, cs, e, hg, hb, hc⟩ := h.2.2 hn
    exact ⟨g, cs, e, by omega, hb, hc⟩⟩
theorem Gs.of_row {g : Nat} (h : w.rowIs g T n (fv xs)) (hl : xs.length = n) (hs : Small xs) (hg : lo ≤ g) : Gs T w lo (some ⟨g, 0, none⟩) n xs :=
  ⟨hl, hs, fun _ => by
    obtain ⟨cs, hb, _, hc⟩ := h
    exact ⟨g, cs, rfl, hg, hb, hc⟩⟩
theorem Gs.nil_ : Gs T w lo none 0 [] := ⟨rfl, (fun x hx => by cases hx), (fun h => by omega)⟩
end

/-- the words that a mark leaves: k, k + 1 and so on, as floats -/
def mk (k n : Nat) : List Nat := (List.range n).map fun j => floatOfInt .f32 ((k + j : Nat) : Int)
theorem mk_wd {k n j : Nat} (h : j < n) : wd (mk k n) j = floatOfInt .f32 ((k + j : Nat) : Int) := by
  unfold wd mk; simp [h]
theorem mk_small (k n : Nat) : Small (mk k n) := fun x hx => by
  obtain ⟨j, _, rfl⟩ := List.mem_map.1 hx
  exact FloatKind.f32.format.write_lt (.number (decide (((k + j : Nat) : Int) < 0)) (((k + j : Nat) : Int)).natAbs 0)
theorem mk_len (k n : Nat) : (mk k n).length = n := by unfold mk; simp
theorem ab_int (n : Int) : ab .f32 (floatOfInt .f32 n) = some (floatOfInt .f32 n)   := ab_write .f32 (d := .number (decide (n < 0)) n.natAbs 0) rfl
end Fl

open Fl Go.RowKit
/-- what has been marked so far -/
def marked (k : Nat) (xs : List Nat) (i j : Nat) : Value := if j < i then .float .f32 (floatOfInt .f32 ((k + j : Nat) : Int)) else fv xs j

end Go.Proofs.Ytflpackchlpedaa
