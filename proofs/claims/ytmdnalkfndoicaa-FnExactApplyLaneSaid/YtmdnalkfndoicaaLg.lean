/- Loose regions with a tail, whose first operation, a move, is taken first, and whose callees make memory. -/
import Derived.Test.YtmdnalkfndoicaaLf
import Derived.Test.YtmdnalkfndoicaaLw
set_option linter.unusedVariables false
set_option linter.unusedSimpArgs false
namespace Go.Proofs.Ytmdnalkfndoicaa
namespace Lo
open Fl Ieee
theorem wp_looseFG_tail {P : Program} {id : Nat} {Q : Exit → Act → World → Prop} {a : Act} {w : World} {o : Oper} {l : List Oper} (ds : List Nat) (n : Nat) (x : Operand) (hop : o.op = .move x) (hg : o.guard = none) (hm : P.follows .mixedOrders = true) (hB : lexF (o :: l).toArray n = true)
    (hQ : ∀ c b v, Q (.panic c) (b.put o.dst (a.eval x)) v → Q (.panic c) b v)
    (h : wpL P (o :: l).toArray (fun v => ∃ hs d, v = mkW w hs d) (fun i => ds.contains i) (fun a2 => ∀ hs d, After ds a2 fun b _ => wpList P (o :: l).toArray Q ((o :: l).drop n) b (mkW w hs d)) (l.take (n - 1)) (a.put o.dst (a.eval x))) : (Code.region id (o :: l).toArray true).wp P Q a w := by
  simp only [lexF, Bool.and_eq_true, decide_eq_true_eq] at hB
  obtain ⟨⟨⟨⟨⟨⟨⟨hsel, hn⟩, hn1⟩, hs⟩, hc⟩, hf⟩, hr⟩, hlex⟩ := hB
  have hn2 : n < l.length + 1 := by simpa using hn
  have htl : (l.take (n - 1)).length = n - 1 := by simp; omega
  have hdl : ((o :: l).drop n).length = (o :: l).toArray.size - n := by simp
  have inv0 : HeadInv .any (o :: l).toArray n (Array.replicate (o :: l).toArray.size false) :=
    ⟨by simp, fun j oj _ hl => (by rw [getD_replicate_false] at hl; cases hl), fun t _ ht => getD_in (by simpa using ht) (getD_replicate_false _ _)⟩
  have inv1 := inv0.set (i := 0) (by simpa using hr) (by omega)
  have H := anyM_text1 (md := .any) (g := (o :: l).toArray.size - n) hsel hs hc hn (l.take (n - 1)) 1 _ _ (Nat.le_refl _) (fun j hj => by
    have hj2 : j < n - 1 := by rw [htl] at hj; exact hj
    rw [Nat.add_comm 1 j]
    simp [hj2]) (by rw [htl]; omega) inv1 (by rw [htl]; exact hlex) h
  refine wp_region_held (S := fun _ => True) hm ?_
  have hsz : (o :: l).toArray.size = (n - 1 + ((o :: l).toArray.size - n)) + 1 := by omega
  rw [hsz]
  refine wpAnyH_take (i := 0) (oi := o) (v := a.eval x) (by simp) hsel (by rw [← hsz]; exact hf) (by rw [← hsz]; exact hr) hQ (.inl ⟨wanted_none hg _, fun w2 _ => BigFrame.run_move x hop w2⟩) trivial (held_of_any _ _ _ _ ?_)
  rw [← hsz]
  have := wpAny_of_anyM (Q2 := Q) (g := (o :: l).toArray.size - n) (fun listed a2 b w2 hw hab hL => by
    obtain ⟨hs2, d2, rfl⟩ := hw
    have := wpAny_of_seq (md := .any) (Q' := Q) ((o :: l).drop n) n listed b (mkW w hs2 d2) (fun j => by simp [List.getElem?_drop]) (by rw [hdl]; exact hL.1) (hL.2 hs2 d2 b hab 0)
    rwa [hdl] at this) _ _ _ _ { w with drawn := w.drawn + 1 } ⟨#[], _, mkW_self w _⟩ (AR.refl _ _) H
  rw [htl] at this
  exact this
theorem loadF1 {w : World} {g o v : Nat} (h : w.cell? ⟨g, o, none⟩ = some (.float .f32 v)) : (loadVar 29 ⟨g, o, none⟩).run Try.prog w = .ok (.float .f32 v) w := by
  simp [loadVar, go_sem, h]
theorem loadI1 {w : World} {g o : Nat} {v : Int} (h : w.cell? ⟨g, o, none⟩ = some (.int .i64 v)) : (loadVar 2 ⟨g, o, none⟩).run Try.prog w = .ok (.int .i64 v) w := by
  simp [loadVar, go_sem, h]
/-- loads of one cell in worlds that grow -/
theorem loadFG {W : World} {g o v : Nat} (hg : g < W.heap.size) (h : W.cell? ⟨g, o, none⟩ = some (.float .f32 v)) (v' : World) (hv : ∃ hs d, v' = mkW W hs d) : (loadVar 29 ⟨g, o, none⟩).run Try.prog v' = .ok (.float .f32 v) v' := by
  obtain ⟨hs, d, rfl⟩ := hv
  exact loadF1 (((mkW_since W hs d).cell (a := ⟨g, o, none⟩) hg).trans h)
theorem loadIG {W : World} {g o : Nat} {v : Int} (hg : g < W.heap.size) (h : W.cell? ⟨g, o, none⟩ = some (.int .i64 v)) (v' : World) (hv : ∃ hs d, v' = mkW W hs d) : (loadVar 2 ⟨g, o, none⟩).run Try.prog v' = .ok (.int .i64 v) v' := by
  obtain ⟨hs, d, rfl⟩ := hv
  exact loadI1 (((mkW_since W hs d).cell (a := ⟨g, o, none⟩) hg).trans h)
end Lo
end Go.Proofs.Ytmdnalkfndoicaa
