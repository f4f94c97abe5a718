/- Lists of int64 that functions give: contracts, looked at, held; rows of integers that a loop appends to. -/
import Derived.Test.YtflpackchlpedaaLy
import Derived.Test.YtflpackchlpedaaEc
set_option linter.unusedVariables false
set_option linter.unusedSimpArgs false
namespace Go.Proofs.Ytflpackchlpedaa
open Fl Go.RowKit
namespace Fl
/-- a list of integers: where it lies, how long, its numbers -/
structure Li where
  A : Option Addr
  n : Nat
  xs : List Int
end Fl
theorem Fl.Gx.readI {w : World} {lo n : Nat} {A : Option Addr} {xs : List Int} (h : Gx w lo (ix64 A n xs)) : Is w w.heap.size A n xs := h.toI.read
def PJB (n0 : Nat) (f0 : List Int) (b : Bool) (w : World) (e : Ending) (w' : World) : Prop :=
  ∃ (p : Li) (c : Nat), e = .returned (.tuple #[.slice p.A p.n c, .bool b]) ∧ p.n = n0 ∧ IGs 2 w' w.heap.size p.A p.n p.xs ∧ p.xs = f0 ∧ w.Since w.heap.size w'
theorem PJB.none_ {w w' : World} (s : w.Since w.heap.size w') : PJB 0 [] false w (.returned (.tuple #[.slice none 0 0, .bool false])) w' :=
  ⟨⟨none, 0, []⟩, 0, rfl, rfl, IGs.nil_, rfl, s⟩
def PJVB (n0 : Nat) (f0 : List Int) (o : O) (b : Bool) (w : World) (e : Ending) (w' : World) : Prop :=
  ∃ (p : Li) (c r : Nat), e = .returned (.tuple #[.slice p.A p.n c, .float .f32 r, .bool b]) ∧ p.n = n0 ∧ IGs 2 w' w.heap.size p.A p.n p.xs ∧ p.xs = f0 ∧ Hid (Fv .f32 r o) ∧ w.Since w.heap.size w'
/-! rows of integers that a loop appends to -/
namespace Fl
def ivl (os : List Int) : List Value := os.map fun x => Value.int .i64 x
theorem ivl_snoc (xs : List Int) (x : Int) : ivl xs ++ [Value.int .i64 x] = ivl (xs ++ [x]) := by unfold ivl; simp
theorem IGs.of_own {w : World} {lo n c : Nat} {A : Option Addr} {xs : List Int} (h : w.ownsRow lo 2 1 (.slice A n c) n (ivl xs)) : IGs 2 w lo A n xs := by
  have hl : xs.length = n := by simpa [ivl] using h.1
  refine ⟨hl, fun hn => ?_⟩
  rcases h.2 with ⟨hv, h0⟩ | ⟨g, cap, cur, hv, hg, hb, hnc, _, hsz, htk⟩
  · omega
  · injection hv with h1 _ _
    subst h1
    refine ⟨g, cur, rfl, hg, hb, fun k hk => ?_⟩
    have e1 : (cur.toList.take (n * 1))[k]? = (ivl xs)[k]? := by rw [htk]
    rw [List.getElem?_take_of_lt (by omega)] at e1
    rw [Array.getElem?_toList] at e1
    rw [e1]
    unfold ivl iv wi
    simp [List.getD_eq_getElem?_getD, List.getElem?_eq_getElem (show k < xs.length by omega)]
end Fl
/-- v is a row of the loop's own, from block lo on, whose numbers are these -/
def RwI (lo : Nat) (w : World) (v : Value) (os : List Int) : Prop := w.ownsRow lo 2 1 v os.length (ivl os)
theorem RwI.start (w : World) (lo : Nat) (h : lo ≤ w.heap.size) : RwI lo (w.alloc (.cells #[] 2)) (.slice (some ⟨w.heap.size, 0, none⟩) 0 0) [] :=
  ⟨rfl, .inr ⟨w.heap.size, 0, #[], rfl, h, Go.Deep.blk_alloc_new _ _, Nat.le_refl _, Nat.zero_le _, rfl, rfl⟩⟩
theorem RwI.keep {lo : Nat} {w w' : World} {v : Value} {os : List Int} (h : RwI lo w v os) (e : ∀ b, lo ≤ b → b < w.heap.size → w'.heap[b]? = w.heap[b]?) : RwI lo w' v os := by
  obtain ⟨h1, h2⟩ := h
  refine ⟨h1, ?_⟩
  rcases h2 with h2 | ⟨g, cap, cur, e1, h3, h4, r⟩
  · exact .inl h2
  · exact .inr ⟨g, cap, cur, e1, h3, (e g h3 (Array.getElem?_eq_some_iff.1 h4).1).trans h4, r⟩
theorem RwI.since {lo : Nat} {w w' : World} {v : Value} {os : List Int} (h : RwI lo w v os) (s : w.Since w.heap.size w') : RwI lo w' v os := h.keep fun b _ hb => s.block b hb
theorem RwI.drewN {lo : Nat} {w : World} {v : Value} {os : List Int} (h : RwI lo w v os) (n : Nat) : RwI lo (w.drewN n) v os := h
theorem RwI.alloc {lo : Nat} {w : World} {v : Value} {os : List Int} (h : RwI lo w v os) (o : Obj) : RwI lo (w.alloc o) v os := h.since ((World.Since.refl _ _).alloc (Nat.le_refl _) _)
theorem RwI.done {lo : Nat} {w : World} {v : Value} {os : List Int} (h : RwI lo w v os) : ∃ (p : Li) (c : Nat), v = .slice p.A p.n c ∧ p.n = os.length ∧ IGs 2 w lo p.A p.n p.xs ∧ p.xs = os := by
  have hf' : v = .slice none 0 0 ∧ os.length = 0 ∨ ∃ g cap, v = .slice (some ⟨g, 0, none⟩) os.length cap := by
    rcases h.2 with h2 | ⟨g, cap, cur, e, _⟩
    · exact .inl h2
    · exact .inr ⟨g, cap, e⟩
  rcases hf' with ⟨rfl, h0⟩ | ⟨g, cap, rfl⟩
  · obtain rfl : os = [] := List.eq_nil_of_length_eq_zero h0
    exact ⟨⟨none, 0, []⟩, 0, rfl, rfl, IGs.nil_, rfl⟩
  · exact ⟨⟨some ⟨g, 0, none⟩, os.length, os⟩, cap, rfl, rfl, IGs.of_own h, rfl⟩
theorem wpList_app1I {ops : Array Oper} {rest : List Oper} {o : Oper} {a : Act} {Q : Exit → Act → World → Prop} {w : World} (hgd : o.guard = none) (s x : Operand)
    (ho : o.op = .call { callee := .builtin .append, args := #[s, x], argTypes := #[36, 36] }) (lo : Nat) (v : Value) (os : List Int) (hs : a.eval s = v) (b : Nat) (r : Int)
    (hx : a.eval x = .slice (some ⟨b, 0, none⟩) 1 1) (hc : w.cell? ⟨b, 0, none⟩ = some (.int .i64 r)) (hk : os.length < 1048576) (hlo : lo ≤ w.heap.size) (hR : RwI lo w v os)
    (h : ∀ v' w', Hid (RwI lo w' v' (os ++ [r])) → Hid (w.Since lo w') → wpList Try.prog ops Q rest (a.put o.dst v') w') : wpList Try.prog ops Q (o :: rest) a w := by
  have h1 := hR
  obtain ⟨i0, hi, hz0, hz1, hz2⟩ := info_parts Try.infoI
  refine wpList_append_own (P := Try.prog) w hgd s x 36 ho lo 2 i0 (.int .i64 0) 1 8 Try.underlying36 hi hz0 hz1 hz2 rfl (by omega) v os.length (ivl os) hs h1 ⟨b, 0, none⟩ 1 1 [.int .i64 r] hx rfl ?_ ?_ ?_ ?_ hlo ?_
  · intro j u hj
    rcases j with _ | j
    · simp at hj; subst hj; simpa [Addr.add] using hc
    · simp at hj
  · intro u hu; simp at hu; subst hu; rfl
  · unfold maxLen; omega
  · omega
  · intro v' w' hown hg _
    refine h v' w' (Lib.hid ?_) (Lib.hid ⟨hg.os, hg.tape, hg.output, hg.size, fun i hi => ?_⟩)
    · show w'.ownsRow lo 2 1 v' (os ++ [r]).length (ivl (os ++ [r]))
      rw [← ivl_snoc, List.length_append]; exact hown
    · refine hg.block i (by omega) fun e => ?_
      have := own_lo h1 i e.symm
      omega
end Go.Proofs.Ytflpackchlpedaa
