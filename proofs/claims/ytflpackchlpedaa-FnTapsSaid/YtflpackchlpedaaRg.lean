/- Lines: what they have taken, as a stream; rings. Plain mathematics. -/
import Derived.Test.YtflpackchlpedaaSm
set_option linter.unusedVariables false
set_option linter.unusedSimpArgs false
namespace Go.Proofs.Ytflpackchlpedaa
namespace Ln
abbrev Ov := Option Nat
/-- the numbers of a line of length n + 1, and those that it takes behind them: v x b is taken where b is the oldest number -/
def st (n : Nat) (l : Nat → Ov) (v : Ov → Ov → Ov) (x : Nat → Ov) (j : Nat) : Ov :=
  if j < n + 1 then l j else v (x (j - (n + 1))) (st n l v x (j - (n + 1)))
termination_by j
decreasing_by omega
theorem st_old {n : Nat} {l : Nat → Ov} {v : Ov → Ov → Ov} {x : Nat → Ov} {j : Nat} (h : j < n + 1) : st n l v x j = l j := by rw [st, if_pos h]
theorem st_new {n : Nat} {l : Nat → Ov} {v : Ov → Ov → Ov} {x : Nat → Ov} (k : Nat) : st n l v x (n + 1 + k) = v (x k) (st n l v x k) := by
  rw [st, if_neg (by omega), show n + 1 + k - (n + 1) = k by omega]
/-- the place in the stream of what lies at place j of a ring of n behind k numbers -/
def ix (n k j : Nat) : Nat := k + (j + n - k % n) % n
theorem ix_lt {n k j : Nat} (hn : 0 < n) : k ≤ ix n k j ∧ ix n k j < k + n := by
  unfold ix
  have := Nat.mod_lt (j + n - k % n) hn
  omega
theorem ix_zero {n j : Nat} (hj : j < n) : ix n 0 j = j := by
  unfold ix
  rw [Nat.zero_mod, Nat.sub_zero, Nat.add_mod_right, Nat.mod_eq_of_lt hj]; omega
theorem ix_mod {n k j : Nat} (hj : j < n) : ix n k j % n = j := by
  unfold ix
  have hm := Nat.mod_lt k (show 0 < n by omega)
  have e : k = n * (k / n) + k % n := (Nat.div_add_mod k n).symm
  rcases Nat.lt_or_ge j (k % n) with h | h
  · rw [Nat.mod_eq_of_lt (show j + n - k % n < n by omega)]
    have e2 : k + (j + n - k % n) = j + n * (k / n + 1) := by rw [Nat.mul_add]; omega
    rw [e2, Nat.add_mul_mod_self_left, Nat.mod_eq_of_lt hj]
  · have e1 : j + n - k % n = (j - k % n) + n := by omega
    rw [e1, Nat.add_mod_right, Nat.mod_eq_of_lt (show j - k % n < n by omega)]
    have e2 : k + (j - k % n) = j + n * (k / n) := by omega
    rw [e2, Nat.add_mul_mod_self_left, Nat.mod_eq_of_lt hj]
/-- one number in each stretch of n has a remainder -/
theorem ix_of {n k m : Nat} (h1 : k ≤ m) (h2 : m < k + n) : ix n k (m % n) = m := by
  have hn : 0 < n := by omega
  have h3 := ix_mod (n := n) (k := k) (Nat.mod_lt m hn)
  have h4 := ix_lt (n := n) (k := k) (j := m % n) hn
  generalize ix n k (m % n) = a at *
  have ea := Nat.div_add_mod a n
  have em := Nat.div_add_mod m n
  have : a / n = m / n := by
    rcases Nat.lt_trichotomy (a / n) (m / n) with h | h | h
    · have : n * (a / n + 1) ≤ n * (m / n) := Nat.mul_le_mul_left _ h
      rw [Nat.mul_add] at this; omega
    · exact h
    · have : n * (m / n + 1) ≤ n * (a / n) := Nat.mul_le_mul_left _ h
      rw [Nat.mul_add] at this; omega
  rw [this] at ea; omega
theorem ix_step {n k j : Nat} (hj : j < n) : ix n (k + 1) j = if j = k % n then k + n else ix n k j := by
  have hn : 0 < n := by omega
  by_cases h : j = k % n
  · rw [if_pos h, h]
    have := ix_of (n := n) (k := k + 1) (m := k + n) (by omega) (by omega)
    rwa [Nat.add_mod_right] at this
  · rw [if_neg h]
    have h1 := ix_lt (n := n) (k := k) (j := j) hn
    have h2 := ix_mod (n := n) (k := k) hj
    have h3 : ix n k j ≠ k := fun e => h (by rw [← h2, e])
    have := ix_of (n := n) (k := k + 1) (m := ix n k j) (by omega) (by omega)
    rwa [h2] at this
theorem mod_step {n k : Nat} (hn : 0 < n) : (k % n + 1) % n = (k + 1) % n := by rw [Nat.add_mod, Nat.mod_mod, ← Nat.add_mod]
/-- place o + i of a ring (round) whose oldest place is o = k % n -/
theorem ix_at {n k i : Nat} (hi : i < n) : ix n k ((k % n + i) % n) = k + i := by
  rw [Nat.mod_add_mod]
  exact ix_of (by omega) (by omega)
/-- the oldest place -/
theorem ix_old {n k : Nat} (hn : 0 < n) : ix n k (k % n) = k := ix_of (Nat.le_refl _) (by omega)
end Ln
end Go.Proofs.Ytflpackchlpedaa
