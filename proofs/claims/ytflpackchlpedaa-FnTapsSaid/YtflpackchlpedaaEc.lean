/- Rows of floats that a loop appends to, one number a round. -/
import Derived.Test.YtflpackchlpedaaDm
import Derived.Test.YtflpackchlpedaaRz
set_option linter.unusedVariables false
set_option linter.unusedSimpArgs false
namespace Go.Proofs.Ytflpackchlpedaa
open Fl Go.RowKit
/-- v is a row of the loop's own, from block lo on, whose k numbers stand for F -/
def Rw (lo : Nat) (w : World) (v : Value) (k : Nat) (F : Nat → O) : Prop := ∃ os, w.ownsRow lo 33 1 v k (fvl os) ∧ Small os ∧ ∀ j, j < k → ab .f32 (wd os j) = F j
theorem Rw.start (w : World) (lo : Nat) (h : lo ≤ w.heap.size) (F : Nat → O) : Rw lo (w.alloc (.cells #[] 33)) (.slice (some ⟨w.heap.size, 0, none⟩) 0 0) 0 F :=
  ⟨[], ⟨rfl, .inr ⟨w.heap.size, 0, #[], rfl, h, Go.Deep.blk_alloc_new _ _, Nat.le_refl _, Nat.zero_le _, rfl, rfl⟩⟩, (fun x hx => by cases hx), fun j hj => by omega⟩
theorem Rw.keep {lo : Nat} {w w' : World} {v : Value} {k : Nat} {F : Nat → O} (h : Rw lo w v k F) (e : ∀ b, lo ≤ b → b < w.heap.size → w'.heap[b]? = w.heap[b]?) : Rw lo w' v k F := by
  obtain ⟨os, ⟨h1, h2⟩, hs, hf⟩ := h
  refine ⟨os, ⟨h1, ?_⟩, hs, hf⟩
  rcases h2 with h2 | ⟨g, cap, cur, e1, h3, h4, r⟩
  · exact .inl h2
  · exact .inr ⟨g, cap, cur, e1, h3, (e g h3 (Array.getElem?_eq_some_iff.1 h4).1).trans h4, r⟩
theorem Rw.since {lo : Nat} {w w' : World} {v : Value} {k : Nat} {F : Nat → O} (h : Rw lo w v k F) (s : w.Since w.heap.size w') : Rw lo w' v k F := h.keep fun b _ hb => s.block b hb
theorem Rw.on {lo g : Nat} {w w' : World} {v : Value} {k : Nat} {F : Nat → O} (h : Rw lo w v k F) (o : On g w w') (hg : g < lo) : Rw lo w' v k F := h.keep fun b hb hl => o.2 b hl (by omega)
theorem Rw.drewN {lo : Nat} {w : World} {v : Value} {k : Nat} {F : Nat → O} (h : Rw lo w v k F) (n : Nat) : Rw lo (w.drewN n) v k F := h
theorem Rw.alloc {lo : Nat} {w : World} {v : Value} {k : Nat} {F : Nat → O} (h : Rw lo w v k F) (o : Obj) : Rw lo (w.alloc o) v k F := h.since ((World.Since.refl _ _).alloc (Nat.le_refl _) _)
/-- what it is in the end -/
theorem Rw.done {lo : Nat} {w : World} {v : Value} {k : Nat} {F : Nat → O} (h : Rw lo w v k F) : ∃ (p : Ls) (c : Nat), v = .slice p.A p.n c ∧ p.n = k ∧ Gs 33 w lo p.A p.n p.xs ∧ Are p F := by
  obtain ⟨os, h1, hs, hf⟩ := h
  have hf' : v = .slice none 0 0 ∧ k = 0 ∨ ∃ g cap, v = .slice (some ⟨g, 0, none⟩) k cap := by
    rcases h1.2 with h2 | ⟨g, cap, cur, e, _⟩
    · exact .inl h2
    · exact .inr ⟨g, cap, e⟩
  rcases hf' with ⟨rfl, rfl⟩ | ⟨g, cap, rfl⟩
  · exact ⟨⟨none, 0, os⟩, 0, rfl, rfl, Gs.of_own h1 hs, hf⟩
  · exact ⟨⟨some ⟨g, 0, none⟩, k, os⟩, cap, rfl, rfl, Gs.of_own h1 hs, hf⟩
theorem wpList_app1 {ops : Array Oper} {rest : List Oper} {o : Oper} {a : Act} {Q : Exit → Act → World → Prop} {w : World} (hgd : o.guard = none) (s x : Operand)
    (ho : o.op = .call { callee := .builtin .append, args := #[s, x], argTypes := #[27, 27] }) (lo : Nat) (v : Value) (k : Nat) (F : Nat → O) (hs : a.eval s = v) (b r : Nat)
    (hx : a.eval x = .slice (some ⟨b, 0, none⟩) 1 1) (hc : w.cell? ⟨b, 0, none⟩ = some (.float .f32 r)) (hk : k < 1048576) (hlo : lo ≤ w.heap.size) (hr : Hid (Fv .f32 r (F k))) (hR : Rw lo w v k F)
    (h : ∀ v' w', Hid (Rw lo w' v' (k + 1) F) → Hid (w.Since lo w') → wpList Try.prog ops Q rest (a.put o.dst v') w') : wpList Try.prog ops Q (o :: rest) a w := by
  obtain ⟨os, h1, h2, h3⟩ := hR
  obtain ⟨i0, hi, hz0, hz1, hz2⟩ := info_parts Try.infoF
  refine wpList_append_own (P := Try.prog) w hgd s x 27 ho lo 33 i0 (.float .f32 0) 1 4 Try.underlying27 hi hz0 hz1 hz2 rfl (by omega) v k (fvl os) hs h1 ⟨b, 0, none⟩ 1 1 [.float .f32 r] hx rfl ?_ ?_ ?_ ?_ hlo ?_
  · intro j u hj
    rcases j with _ | j
    · simp at hj; subst hj; simpa [Addr.add] using hc
    · simp at hj
  · intro u hu; simp at hu; subst hu; rfl
  · unfold maxLen; omega
  · omega
  · intro v' w' hown hg _
    refine h v' w' (Lib.hid ⟨os ++ [r], ?_, h2.snoc hr.out.1, fun j hj => ?_⟩) (Lib.hid ⟨hg.os, hg.tape, hg.output, hg.size, fun i hi => ?_⟩)
    · rw [← fvl_snoc]; exact hown
    · have hyl : os.length = k := by simpa [fvl] using h1.1
      rw [wd_snoc hyl]
      by_cases e : j < k
      · rw [if_pos e]; exact h3 j e
      · obtain rfl : j = k := by omega
        rw [if_neg e, if_pos rfl]; exact hr.out.2
    · refine hg.block i (by omega) fun e => ?_
      have := own_lo h1 i e.symm
      omega
end Go.Proofs.Ytflpackchlpedaa
