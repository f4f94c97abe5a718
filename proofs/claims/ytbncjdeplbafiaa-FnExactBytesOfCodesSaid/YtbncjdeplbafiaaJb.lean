/- Rates: factors; samples picked, both. -/
import Derived.Test.YtbncjdeplbafiaaJa
set_option linter.unusedVariables false
set_option linter.unusedSimpArgs false
namespace Go.Proofs.Ytbncjdeplbafiaa
open Fl Go.RowKit
theorem specIn_b (l a b : Int) (bb : Bool) (w : World) (h : inB l a b = bb) : Calls Try.prog 16 #[.int .i64 l, .int .i64 a, .int .i64 b] w fun e w' => e = .returned (.bool bb) ∧ w = w' := by
  subst h
  exact specIn_any l a b w
theorem allowR_any (a b x : Int) (w : World) :
    Calls Try.prog 18 #[.agg #[.int .i64 a, .int .i64 b], .int .i64 x] w fun e w' => e = .returned (.bool (inB x a b)) ∧ w.alloc (.cells #[.int .i64 a, .int .i64 b] 36) = w' := by
  by_cases h : a ≤ x
  all_goals
    go_enter Try.func18, Try.ntmps18
    go_wp2
    go_ret
    exact ⟨ret_bool (by simp [inB]; omega), rfl⟩
theorem allowR (a b x : Int) (bb : Bool) (w : World) (h : inB x a b = bb) :
    Calls Try.prog 18 #[.agg #[.int .i64 a, .int .i64 b], .int .i64 x] w fun e w' => e = .returned (.bool bb) ∧ w.alloc (.cells #[.int .i64 a, .int .i64 b] 36) = w' := by subst h; exact allowR_any a b x w
/-- how many samples are picked, from t on, each f-th -/
def cntP (n f t : Nat) : Nat := (n + f - 1 - t) / f
theorem cntP_lt {n f t k : Nat} (hf : 1 ≤ f) (ht : t < f) : k < cntP n f t ↔ t + k * f < n := by
  unfold cntP
  rw [← Nat.succ_le_iff, Nat.le_div_iff_mul_le (by omega), Nat.succ_mul]
  omega
theorem cntP_le {n f t : Nat} (hf : 1 ≤ f) : cntP n f t ≤ n + f := by
  unfold cntP
  exact Nat.le_trans (Nat.div_le_self _ _) (by omega)
def pickF (xs : List Nat) (f t : Nat) (k : Nat) : O := ab .f32 (wd xs (t + k * f))
def okPick (f t : Int) (n : Nat) : Bool := inB f 1 8 && inB t 0 (f - 1) && decide (n ≤ 256)
theorem okPick_nat {f t : Int} {n : Nat} (h : okPick f t n = true) : ∃ f' t' : Nat, f = f' ∧ t = t' ∧ 1 ≤ f' ∧ f' ≤ 8 ∧ t' < f' ∧ n ≤ 256 := by
  simp only [okPick, inB, Bool.and_eq_true, decide_eq_true_eq] at h
  exact ⟨f.toNat, t.toNat, by omega, by omega, by omega, by omega, by omega, by omega⟩
theorem PL.toB {n0 : Nat} {f0 : Nat → O} {w w' : World} {e : Ending} (h : PL n0 f0 w e w') : ∃ (p : Ls) (c : Nat), e = .returned (.slice p.A p.n c) ∧ Hid (p.n = n0) ∧ Hid (Gs 37 w' w.heap.size p.A p.n p.xs) ∧ Hid (Are p f0) ∧ Hid (w.Since w.heap.size w') := by
  obtain ⟨p, c, h1, h2, h3, h4, h5⟩ := h
  exact ⟨p, c, h1, Lib.hid h2, Lib.hid h3, Lib.hid h4, Lib.hid h5⟩
end Go.Proofs.Ytbncjdeplbafiaa
