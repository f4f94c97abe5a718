/- Rows of floats that a loop appends to, one number a round. -/
import Derived.Test.YtbncjdeplbafiaaDm
import Derived.Test.YtbncjdeplbafiaaRz
set_option linter.unusedVariables false
set_option linter.unusedSimpArgs false
namespace Go.Proofs.Ytbncjdeplbafiaa
open Fl Go.RowKit
/-- v is a row of the loop's own, from block lo on, whose k numbers stand for F -/
def Rw (lo : Nat) (w : World) (v : Value) (k : Nat) (F : Nat → O) : Prop := ∃ os, w.ownsRow lo 37 1 v k (fvl os) ∧ Small os ∧ ∀ j, j < k → ab .f32 (wd os j) = F j
theorem Rw.start (w : World) (lo : Nat) (h : lo ≤ w.heap.size) (F : Nat → O) : Rw lo (w.alloc (.cells #[] 37)) (.slice (some ⟨w.heap.size, 0, none⟩) 0 0) 0 F :=
  ⟨[], ⟨rfl, .inr ⟨w.heap.size, 0, #[], rfl, h, Go.Deep.blk_alloc_new _ _, Nat.le_refl _, Nat.zero_le _, rfl, rfl⟩⟩, (fun x hx => by cases hx), fun j hj => by omega⟩
theorem Rw.keep {lo : Nat} {w w' : World} {v : Value} {k : Nat} {F : Nat → O} (h : Rw lo w v k F) (e : ∀ b, lo ≤ b → b < w.heap.size → w'.heap[b]? = w.heap[b]?) : Rw lo w' v k F := by
  obtain ⟨os, ⟨h1, h2⟩, hs, hf⟩ := h
  refine ⟨os, ⟨h1, ?_⟩, hs, hf⟩
  rcases h2 with h2 | ⟨g, cap, cur, e1, h3, h4, r⟩
  · exact .inl h2
  · exact .inr ⟨g, cap, cur, e1, h3, (e g h3 (Array.getElem?_eq_some_iff.1 h4).1).trans h4, r⟩
theorem Rw.since {lo : Nat} {w w' : World} {v : Value} {k : Nat} {F : Nat → O} (h : Rw lo w v k F) (s : w.Since w.heap.size w') : Rw lo w' v k F := h.keep fun b _ hb => s.block b hb
theorem Rw.on {lo g : Nat} {w w' : World} {v : Value} {k : Nat} {F : Nat → O} (h : Rw lo w v k F) (o : On g w w') (hg : g < lo) : Rw lo w' v k F := h.keep fun b hb hl => o.2 b hl (by omega)
theorem Rw.drewN {lo : Nat} {w : World} {v : Value} {k : Nat} {F : Nat → O} (h : Rw lo w v k F) (n : Nat) : Rw lo (w.drewN n) v k F := h
theorem Rw.alloc {lo : Nat} {w : World} {v : Value} {k : Nat} {F : Nat → O} (h : Rw lo w v k F) (o : Obj) : Rw lo (w.alloc o) v k F := h.since ((World.Since.refl _ _).alloc (Nat.le_refl _) _)
/-- what it is in the end -/
theorem Rw.done {lo : Nat} {w : World} {v : Value} {k : Nat} {F : Nat → O} (h : Rw lo w v k F) : ∃ (p : Ls) (c : Nat), v = .slice p.A p.n c ∧ p.n = k ∧ Gs 37 w lo p.A p.n p.xs ∧ Are p F := by
  obtain ⟨os, h1, hs, hf⟩ := h
  have hf' : v = .slice none 0 0 ∧ k = 0 ∨ ∃ g cap, v = .slice (some ⟨g, 0, none⟩) k cap := by
    rcases h1.2 with h2 | ⟨g, cap, cur, e, _⟩
    · exact .inl h2
    · exact .inr ⟨g, cap, e⟩
  rcases hf' with ⟨rfl, rfl⟩ | ⟨g, cap, rfl⟩
  · exact ⟨⟨none, 0, os⟩, 0, rfl, rfl, Gs.of_own h1 hs, hf⟩
  · exact ⟨⟨some ⟨g, 0, none⟩, k, os⟩, cap, rfl, rfl, Gs.of_own h1 hs, hf⟩
end Go.Proofs.Ytbncjdeplbafiaa
