/- The model's step of a filter. -/
import Derived.Test.YtipdgnhbmfmhnaaGa
set_option linter.unusedVariables false
set_option linter.unusedSimpArgs false
namespace Go.Proofs.Ytipdgnhbmfmhnaa
open Fl Go.RowKit

theorem Lo.keep1 {ds : List Nat} {a : Act} {t : Nat} {v : Value} (hv : a.tmps.getD t undef = v) (ht : ds.contains t = false) (b : Act) (h : Lo.AR (fun i => ds.contains i) a b) : [Operand.tmp t].map b.eval = [v] := by
  have := (h.2.2 t).2 ht
  simp only [List.map_cons, List.map_nil, Act.eval]
  rw [this, hv]

theorem fvZ : Hid (Fv .f32 0 (some 0)) := Lib.hid ⟨by decide, by rw [ab32]; rfl⟩
theorem fvZ2 : Hid (Fv .f32 (flushN 0) (flO true (some 0))) := by
  have h9 := flO_fv fvZ true
  rw [if_pos rfl] at h9
  exact h9
end Go.Proofs.Ytipdgnhbmfmhnaa
