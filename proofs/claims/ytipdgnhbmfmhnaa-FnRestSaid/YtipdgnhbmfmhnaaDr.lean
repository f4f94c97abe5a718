/- What a step makes of all samples; lines of one kind. -/
import Derived.Test.YtipdgnhbmfmhnaaDi
set_option linter.unusedVariables false
set_option linter.unusedSimpArgs false
namespace Go.Proofs.Ytipdgnhbmfmhnaa
open Fl Go.RowKit
/-- words as a list -/
def lst (n : Nat) (r : Nat → Nat) : List Nat := (List.range n).map r
theorem lst_wd {n : Nat} {r : Nat → Nat} {i : Nat} (h : i < n) : wd (lst n r) i = r i := by unfold lst wd; simp [h]
theorem lst_len (n : Nat) (r : Nat → Nat) : (lst n r).length = n := by simp [lst]
theorem On.setNew {g p o : Nat} {a b : World} {v : Value} (h : On g a b) (hp : a.heap.size ≤ p) (hg : g ≤ p) : On g a (b.setCell ⟨p, o, none⟩ v) :=
  ⟨h.1.setCell hg v, fun i hi hn => by rw [Go.Deep.blk_setCell_other _ _ _ _ (show i ≠ p by omega)]; exact h.2 i hi hn⟩
theorem GCells.on {w w' : World} {g b n : Nat} {f : Nat → Value} (h : GCells w g n f) (o : On b w w') (hn : g ≠ b) : GCells w' g n f := by
  have hl := h.lt
  obtain ⟨cs, hb, hc⟩ := h
  exact ⟨cs, (o.2 g hl hn).trans hb, hc⟩
def partial_ (k : Nat) (r : Nat → Nat) (j : Nat) : Value := .float .f32 (if j < k then r j else 0)
end Go.Proofs.Ytipdgnhbmfmhnaa
