/- Joined: Jo Jb Jh Jp Jq Jr Js Ua Fs Mm Mn Mo Mp Rv Ms Mt Mu Cl Mv Mz Rt Ru Rw Rx -/
import Derived.Test.YtcpcfgdncinpgaaFi
import Derived.Test.YtcpcfgdncinpgaaJa
import Derived.Test.YtcpcfgdncinpgaaFw
import Derived.Test.YtcpcfgdncinpgaaEa
import Derived.Test.YtcpcfgdncinpgaaEe
import Derived.Test.YtcpcfgdncinpgaaEg
import Derived.Test.YtcpcfgdncinpgaaEo
import Derived.Test.YtcpcfgdncinpgaaEl
import Derived.Test.YtcpcfgdncinpgaaLf
import Derived.Test.YtcpcfgdncinpgaaEc
import Derived.Test.YtcpcfgdncinpgaaTa
import Derived.Lib.SliceRun
import Derived.Maps.OwnOps
import Derived.Maps.Views
import Derived.Maps.Keyed
import Derived.Test.YtcpcfgdncinpgaaHb
/- A float made whole, to the nearest even: it keeps to whole bounds. -/
set_option linter.unusedVariables false
set_option linter.unusedSimpArgs false
namespace Go.Proofs.Ytcpcfgdncinpgaa
namespace Fl
open Ieee
/-- a 64-bit word rounded to a whole number -/
def rneW (x : Nat) : Nat := match FloatKind.f64.decode x with
  | .nan _ _ => x
  | d => FloatKind.f64.encode (d.integral .even)
def fd (c : Int) : Nat := floatOfInt .f64 c
theorem cutze (s : Bool) (n d : Nat) : Toward.zero.cut s n d ≤ n / 2 ^ d := by
  unfold Toward.cut
  dsimp only
  rw [Nat.shiftLeft_eq, Nat.one_mul]
  show n / 2 ^ min d (n.log2 + 2) + 0 ≤ _
  rcases Nat.le_total d (n.log2 + 2) with h1 | h1
  · rw [Nat.min_eq_left h1]; exact Nat.le_refl _
  · rw [Nat.min_eq_right h1, Nat.div_eq_of_lt (Nat.lt_trans Nat.lt_log2_self (Nat.pow_lt_pow_right (by decide) (by omega)))]
    exact Nat.zero_le _
/-- what lies within 2^20 goes into an integer -/
theorem toInt_some {y : Nat} (h : rung .f64 y ≤ 1043 * 4503599627370496) : ∃ v, floatToIntVal .f64 y .i64 = some v := by
  have hf : rung .f64 y < FloatKind.f64.format.infRung := Nat.lt_of_le_of_lt h (by decide)
  obtain ⟨m, e, hr, hz⟩ := read_fin .f64 hf
  obtain ⟨D, hD⟩ : ∃ D : Nat, D = 1074 := ⟨_, rfl⟩
  have h1 : zv .f64 (1043 * 4503599627370496) = 2 ^ 20 * 2 ^ D := by rw [hD]; decide +kernel
  have h2 : FloatKind.f64.format.leastPlace = -(D : Int) := by rw [hD]; decide
  have h3 : m * 2 ^ e ≤ 2 ^ 20 * 2 ^ D := by rw [← hz, ← h1]; exact (zv_le .f64).2 h
  clear hD h1
  have hd : FloatKind.f64.decode y = .number (sgn .f64 y) m (-(D : Int) + e) := by rw [← h2]; exact hr
  have hc : Toward.zero.cut (sgn .f64 y) (m <<< (-(D : Int) + e).toNat) (-(-(D : Int) + e)).toNat ≤ 1048576 := by
    refine Nat.le_trans (cutze _ _ _) ?_
    rw [Nat.shiftLeft_eq, Nat.div_le_iff_le_mul_add_pred (Nat.two_pow_pos _)]
    rcases Nat.le_total e D with h4 | h4
    · rw [show (-(D : Int) + e).toNat = 0 by omega, show (-(-(D : Int) + e)).toNat = D - e by omega, Nat.pow_zero, Nat.mul_one]
      have h5 : 2 ^ D = 2 ^ (D - e) * 2 ^ e := by rw [← Nat.pow_add]; congr 1; omega
      rw [h5, ← Nat.mul_assoc] at h3
      have := Nat.le_of_mul_le_mul_right h3 (Nat.two_pow_pos e)
      rw [Nat.mul_comm] at this
      exact Nat.le_trans this (Nat.le_add_right _ _)
    · rw [show (-(D : Int) + e).toNat = e - D by omega, show (-(-(D : Int) + e)).toNat = 0 by omega]
      have h5 : 2 ^ e = 2 ^ (e - D) * 2 ^ D := by rw [← Nat.pow_add]; congr 1; omega
      rw [h5, ← Nat.mul_assoc] at h3
      have := Nat.le_of_mul_le_mul_right h3 (Nat.two_pow_pos D)
      simp only [Nat.pow_zero, Nat.one_mul]
      omega
  have hi : ∃ v : Int, (Datum.number (sgn .f64 y) m (-(D : Int) + e)).toInt .zero = some v ∧ -1048576 ≤ v ∧ v ≤ 1048576 := by
    unfold Datum.toInt Datum.integral
    dsimp only
    generalize Toward.zero.cut (sgn .f64 y) (m <<< (-(D : Int) + e).toNat) (-(-(D : Int) + e)).toNat = c at *
    refine ⟨_, rfl, ?_, ?_⟩ <;> (unfold signed; rw [Nat.shiftLeft_zero]; split <;> omega)
  obtain ⟨v, hv, v1, v2⟩ := hi
  refine ⟨v, ?_⟩
  unfold floatToIntVal
  rw [hd, hv]
  dsimp only
  have r1 : IntKind.i64.min ≤ v := by show (-9223372036854775808 : Int) ≤ v; omega
  have r2 : v ≤ IntKind.i64.max := by show v ≤ (9223372036854775807 : Int); omega
  rw [if_pos ⟨r1, r2⟩]
theorem sgn_word0 (k : FloatKind) {r : Nat} (h : r ≤ k.format.infRung) : sgn k (k.format.word false r) = false := by
  have h1 := k.format.infRung_lt
  have e : k.format.word false r = r := by unfold Format.word; simp
  rw [e]
  unfold sgn
  rw [Nat.div_eq_of_lt (by omega)]
  rfl

theorem sgn_wordR (k : FloatKind) (s : Bool) {r : Nat} (h : r ≤ k.format.infRung) : sgn k (k.format.word s r) = s := by
  have h1 := k.format.infRung_lt
  have h0 := sw_pos k
  cases s
  · exact sgn_word0 k h
  · have e : k.format.word true r = k.format.signWeight + r := by unfold Format.word; simp
    rw [e]
    unfold sgn
    rw [Nat.add_div_left _ h0, Nat.div_eq_of_lt (by omega)]
    rfl
theorem sgn_nearR (k : FloatKind) (s : Bool) (mag : Nat) (place : Int) : sgn k (k.format.nearest s mag place) = s := by
  unfold Format.nearest
  dsimp only
  split
  · exact sgn_wordR k s (Nat.zero_le _)
  · exact sgn_wordR k s (Nat.min_le_right ..)
theorem rne_fin {x : Nat} (h : rung .f64 x < FloatKind.f64.format.infRung) (D : Nat) (hD : FloatKind.f64.format.leastPlace = -(D : Int)) : ∃ m e : Nat, zv .f64 (rung .f64 x) = m * 2 ^ e ∧
    rneW x = FloatKind.f64.format.nearest (sgn .f64 x) (Toward.even.cut (sgn .f64 x) (m * 2 ^ (e - D)) (D - e)) 0 := by
  obtain ⟨m, e, hr, hz⟩ := read_fin .f64 h
  refine ⟨m, e, hz, ?_⟩
  have hd : FloatKind.f64.decode x = .number (sgn .f64 x) m (-(D : Int) + e) := by rw [← hD]; exact hr
  unfold rneW
  rw [hd]
  dsimp only
  show FloatKind.f64.format.nearest _ _ _ = _
  rw [Nat.shiftLeft_eq, show (-(D : Int) + e).toNat = e - D by omega, show (-(-(D : Int) + e)).toNat = D - e by omega]
theorem rne_inf {x : Nat} (h : rung .f64 x = FloatKind.f64.format.infRung) : rneW x = FloatKind.f64.format.word (sgn .f64 x) FloatKind.f64.format.infRung := by
  have hd : FloatKind.f64.decode x = .infinity (sgn .f64 x) := read_inf .f64 h
  unfold rneW
  rw [hd]
  rfl
/-- c stands for the whole number C -/
def Whl (c C : Nat) : Prop := rung .f64 c = rung .f64 (FloatKind.f64.format.nearest false C 0) ∧ zv .f64 (rung .f64 c) = C * 2 ^ 1074
theorem rne_ge {x c C : Nat} (hx : rung .f64 x ≤ FloatKind.f64.format.infRung) (hc : Whl c C) (h : rung .f64 c ≤ rung .f64 x) : rung .f64 c ≤ rung .f64 (rneW x) := by
  obtain ⟨D, hD⟩ : ∃ D : Nat, D = 1074 := ⟨_, rfl⟩
  obtain ⟨hc1, hc2⟩ := hc
  rw [← hD] at hc2
  have h2 : FloatKind.f64.format.leastPlace = -(D : Int) := by rw [hD]; decide
  clear hD
  rcases Nat.lt_or_eq_of_le hx with h1 | h1
  · obtain ⟨m, e, hz, hr⟩ := rne_fin h1 D h2
    have h3 : C * 2 ^ D ≤ m * 2 ^ e := by rw [← hz, ← hc2]; exact (zv_le .f64).2 h
    rw [hr, hc1]
    refine nearest_mono .f64 _ _ (b := FloatKind.f64.format.leastPlace) (by have := lp_neg .f64; omega) (by have := lp_neg .f64; omega) (Int.le_refl _) (Nat.mul_le_mul_right _ ?_)
    have h4 := cut_mono false (sgn .f64 x) (n := C) (d := 0) (n' := m * 2 ^ (e - D)) (d' := D - e) (by
      rw [Nat.pow_zero, Nat.mul_one]
      rcases Nat.le_total e D with h4 | h4
      · rw [show e - D = 0 by omega, Nat.pow_zero, Nat.mul_one]
        have h5 : 2 ^ D = 2 ^ (D - e) * 2 ^ e := by rw [← Nat.pow_add]; congr 1; omega
        rw [h5, ← Nat.mul_assoc] at h3
        exact Nat.le_of_mul_le_mul_right h3 (Nat.two_pow_pos e)
      · rw [show D - e = 0 by omega, Nat.pow_zero, Nat.mul_one]
        have h5 : 2 ^ e = 2 ^ (e - D) * 2 ^ D := by rw [← Nat.pow_add]; congr 1; omega
        rw [h5, ← Nat.mul_assoc] at h3
        exact Nat.le_of_mul_le_mul_right h3 (Nat.two_pow_pos D))
    rw [cut_zero] at h4
    exact h4
  · rw [rne_inf h1]
    have h5 : rung .f64 (FloatKind.f64.format.word (sgn .f64 x) FloatKind.f64.format.infRung) = FloatKind.f64.format.infRung := by unfold rung; rw [word_rung_mod _ _ (Nat.le_refl _)]
    omega
theorem rne_le {x c C : Nat} (hx : rung .f64 x ≤ FloatKind.f64.format.infRung) (hc : Whl c C) (hcf : rung .f64 c < FloatKind.f64.format.infRung) (h : rung .f64 x ≤ rung .f64 c) : rung .f64 (rneW x) ≤ rung .f64 c := by
  obtain ⟨D, hD⟩ : ∃ D : Nat, D = 1074 := ⟨_, rfl⟩
  obtain ⟨hc1, hc2⟩ := hc
  rw [← hD] at hc2
  have h2 : FloatKind.f64.format.leastPlace = -(D : Int) := by rw [hD]; decide
  clear hD
  have h1 : rung .f64 x < FloatKind.f64.format.infRung := by omega
  obtain ⟨m, e, hz, hr⟩ := rne_fin h1 D h2
  have h3 : m * 2 ^ e ≤ C * 2 ^ D := by rw [← hz, ← hc2]; exact (zv_le .f64).2 h
  rw [hr, hc1]
  refine nearest_mono .f64 _ _ (b := FloatKind.f64.format.leastPlace) (by have := lp_neg .f64; omega) (by have := lp_neg .f64; omega) (Int.le_refl _) (Nat.mul_le_mul_right _ ?_)
  have h4 := cut_mono (sgn .f64 x) false (n := m * 2 ^ (e - D)) (d := D - e) (n' := C) (d' := 0) (by
    rw [Nat.pow_zero, Nat.mul_one]
    rcases Nat.le_total e D with h4 | h4
    · rw [show e - D = 0 by omega, Nat.pow_zero, Nat.mul_one]
      have h5 : 2 ^ D = 2 ^ (D - e) * 2 ^ e := by rw [← Nat.pow_add]; congr 1; omega
      rw [h5, ← Nat.mul_assoc] at h3
      exact Nat.le_of_mul_le_mul_right h3 (Nat.two_pow_pos e)
    · rw [show D - e = 0 by omega, Nat.pow_zero, Nat.mul_one]
      have h5 : 2 ^ e = 2 ^ (e - D) * 2 ^ D := by rw [← Nat.pow_add]; congr 1; omega
      rw [h5, ← Nat.mul_assoc] at h3
      exact Nat.le_of_mul_le_mul_right h3 (Nat.two_pow_pos D))
  rw [cut_zero] at h4
  exact h4
theorem rne_sgn {x : Nat} (hx : rung .f64 x ≤ FloatKind.f64.format.infRung) : sgn .f64 (rneW x) = sgn .f64 x := by
  rcases Nat.lt_or_eq_of_le hx with h1 | h1
  · obtain ⟨m, e, hz, hr⟩ := rne_fin h1 1074 (by decide)
    rw [hr]; exact sgn_nearR _ _ _ _
  · rw [rne_inf h1]; exact sgn_wordR _ _ (Nat.le_refl _)
theorem rne_fits {x : Nat} (hx : rung .f64 x ≤ FloatKind.f64.format.infRung) : rung .f64 (rneW x) ≤ FloatKind.f64.format.infRung ∧ rneW x < 2 ^ 64 := by
  rcases Nat.lt_or_eq_of_le hx with h1 | h1
  · obtain ⟨m, e, hz, hr⟩ := rne_fin h1 1074 (by decide)
    rw [hr]
    exact ⟨nearest_fin _ _ _ _, (fv_write .f64 (d := .number (sgn .f64 x) _ 0) rfl).1⟩
  · rw [rne_inf h1]
    refine ⟨?_, (fv_write .f64 (d := .infinity (sgn .f64 x)) rfl).1⟩
    unfold rung; rw [word_rung_mod _ _ (Nat.le_refl _)]; exact Nat.le_refl _
theorem ab_of_rung {x : Nat} (h : rung .f64 x ≤ FloatKind.f64.format.infRung) : ab .f64 x = some x := by
  unfold ab rung at *
  rw [if_neg (by omega)]
end Fl
end Go.Proofs.Ytcpcfgdncinpgaa

/- Rates: factors; samples picked, both. -/
set_option linter.unusedVariables false
set_option linter.unusedSimpArgs false
namespace Go.Proofs.Ytcpcfgdncinpgaa
open Fl Go.RowKit
theorem specIn_b (l a b : Int) (bb : Bool) (w : World) (h : inB l a b = bb) : Calls Try.prog 58 #[.int .i64 l, .int .i64 a, .int .i64 b] w fun e w' => e = .returned (.bool bb) ∧ w = w' := by
  subst h
  exact specIn_any l a b w
theorem allowR_any (a b x : Int) (w : World) :
    Calls Try.prog 67 #[.agg #[.int .i64 a, .int .i64 b], .int .i64 x] w fun e w' => e = .returned (.bool (inB x a b)) ∧ w.alloc (.cells #[.int .i64 a, .int .i64 b] 80) = w' := by
  by_cases h : a ≤ x
  all_goals
    go_enter Try.func67, Try.ntmps67
    go_wp2
    go_ret
    exact ⟨ret_bool (by simp [inB]; omega), rfl⟩
theorem allowR (a b x : Int) (bb : Bool) (w : World) (h : inB x a b = bb) :
    Calls Try.prog 67 #[.agg #[.int .i64 a, .int .i64 b], .int .i64 x] w fun e w' => e = .returned (.bool bb) ∧ w.alloc (.cells #[.int .i64 a, .int .i64 b] 80) = w' := by subst h; exact allowR_any a b x w
/-- how many samples are picked, from t on, each f-th -/
def cntP (n f t : Nat) : Nat := (n + f - 1 - t) / f
theorem cntP_lt {n f t k : Nat} (hf : 1 ≤ f) (ht : t < f) : k < cntP n f t ↔ t + k * f < n := by
  unfold cntP
  rw [← Nat.succ_le_iff, Nat.le_div_iff_mul_le (by omega), Nat.succ_mul]
  omega
theorem cntP_le {n f t : Nat} (hf : 1 ≤ f) : cntP n f t ≤ n + f := by
  unfold cntP
  exact Nat.le_trans (Nat.div_le_self _ _) (by omega)
def pickF (xs : List Nat) (f t : Nat) (k : Nat) : O := ab .f32 (wd xs (t + k * f))
def okPick (f t : Int) (n : Nat) : Bool := inB f 1 8 && inB t 0 (f - 1) && decide (n ≤ 256)
theorem okPick_nat {f t : Int} {n : Nat} (h : okPick f t n = true) : ∃ f' t' : Nat, f = f' ∧ t = t' ∧ 1 ≤ f' ∧ f' ≤ 8 ∧ t' < f' ∧ n ≤ 256 := by
  simp only [okPick, inB, Bool.and_eq_true, decide_eq_true_eq] at h
  exact ⟨f.toNat, t.toNat, by omega, by omega, by omega, by omega, by omega, by omega⟩
theorem PL.toB {n0 : Nat} {f0 : Nat → O} {w w' : World} {e : Ending} (h : PL n0 f0 w e w') : ∃ (p : Ls) (c : Nat), e = .returned (.slice p.A p.n c) ∧ Hid (p.n = n0) ∧ Hid (Gs 23 w' w.heap.size p.A p.n p.xs) ∧ Hid (Are p f0) ∧ Hid (w.Since w.heap.size w') := by
  obtain ⟨p, c, h1, h2, h3, h4, h5⟩ := h
  exact ⟨p, c, h1, Lib.hid h2, Lib.hid h3, Lib.hid h4, Lib.hid h5⟩
end Go.Proofs.Ytcpcfgdncinpgaa

/- Bits: the most of bits, a coder, codes that are codes. -/
set_option linter.unusedVariables false
set_option linter.unusedSimpArgs false
namespace Go.Proofs.Ytcpcfgdncinpgaa
open Fl Go.RowKit
def mst (b : Nat) : Nat := 2 ^ (b - 1)
theorem mst_le {b : Nat} (h1 : 2 ≤ b) (h2 : b ≤ 16) : 2 ≤ mst b ∧ mst b ≤ 32768 := by
  obtain rfl | rfl | rfl | rfl | rfl | rfl | rfl | rfl | rfl | rfl | rfl | rfl | rfl | rfl | rfl : b = 2 ∨ b = 3 ∨ b = 4 ∨ b = 5 ∨ b = 6 ∨ b = 7 ∨ b = 8 ∨ b = 9 ∨ b = 10 ∨ b = 11 ∨ b = 12 ∨ b = 13 ∨ b = 14 ∨ b = 15 ∨ b = 16 := by omega
  all_goals (unfold mst; decide)
def codV (m : Nat) : Value := .agg #[.int .i64 (-(m : Int)), .int .i64 ((m : Int) - 1), .float .f32 (floatOfInt .f32 (m : Int))]
def codZ : Value := .agg #[.int .i64 0, .int .i64 0, .float .f32 0]
def PC (v : Value) (b : Bool) (w : World) (e : Ending) (w' : World) : Prop := e = .returned (.tuple #[v, .bool b]) ∧ w.Since w.heap.size w'
end Go.Proofs.Ytcpcfgdncinpgaa

/- The code nearest to a number: the model's and the program's. -/
set_option linter.unusedVariables false
set_option linter.unusedSimpArgs false
namespace Go.Proofs.Ytcpcfgdncinpgaa
open Fl Go.RowKit
/-- what is asked of the greatest and of the least code as 64-bit numbers -/
structure Cst (m : Nat) : Prop where
  wM : Whl (fd ((m : Int) - 1)) (m - 1)
  wL : Whl (fd (-(m : Int))) m
  sM : sgn .f64 (fd ((m : Int) - 1)) = false
  sL : sgn .f64 (fd (-(m : Int))) = true
  pM : 0 < rung .f64 (fd ((m : Int) - 1))
  pL : 0 < rung .f64 (fd (-(m : Int)))
  zM : rung .f64 (fd ((m : Int) - 1)) ≤ 1042 * 4503599627370496
  zL : rung .f64 (fd (-(m : Int))) ≤ 1042 * 4503599627370496
  iM : floatToIntVal .f64 (fd ((m : Int) - 1)) .i64 = some ((m : Int) - 1)
  iL : floatToIntVal .f64 (fd (-(m : Int))) .i64 = some (-(m : Int))
set_option maxRecDepth 10000 in
theorem cst_of {b : Nat} (h1 : 2 ≤ b) (h2 : b ≤ 16) : Cst (mst b) := by
  obtain rfl | rfl | rfl | rfl | rfl | rfl | rfl | rfl | rfl | rfl | rfl | rfl | rfl | rfl | rfl : b = 2 ∨ b = 3 ∨ b = 4 ∨ b = 5 ∨ b = 6 ∨ b = 7 ∨ b = 8 ∨ b = 9 ∨ b = 10 ∨ b = 11 ∨ b = 12 ∨ b = 13 ∨ b = 14 ∨ b = 15 ∨ b = 16 := by omega
  all_goals exact ⟨⟨by decide +kernel, by decide +kernel⟩, ⟨by decide +kernel, by decide +kernel⟩, by decide +kernel, by decide +kernel, by decide +kernel, by decide +kernel, by decide +kernel, by decide +kernel, by decide +kernel, by decide +kernel⟩
def codO (m : Nat) : O → Int
  | none => 0
  | some x => if key .f64 (fd ((m : Int) - 1)) ≤ key .f64 x then (m : Int) - 1 else if key .f64 x ≤ key .f64 (fd (-(m : Int))) then -(m : Int) else (floatToIntVal .f64 (rneW x) .i64).getD 0
theorem key_pos {x : Nat} (h : sgn .f64 x = false) : key .f64 x = (rung .f64 x : Int) := by unfold key; rw [h]; rfl
theorem key_neg {x : Nat} (h : sgn .f64 x = true) : key .f64 x = -(rung .f64 x : Int) := by unfold key; rw [h]; rfl
theorem rne_hi {m x : Nat} (C : Cst m) (hx : rung .f64 x ≤ FloatKind.f64.format.infRung) : (key .f64 (fd ((m : Int) - 1)) ≤ key .f64 x → key .f64 (fd ((m : Int) - 1)) ≤ key .f64 (rneW x)) ∧ (key .f64 x ≤ key .f64 (fd ((m : Int) - 1)) → key .f64 (rneW x) ≤ key .f64 (fd ((m : Int) - 1))) := by
  have h1 := rne_sgn hx
  have p := C.pM
  have hf : rung .f64 (fd ((m : Int) - 1)) < FloatKind.f64.format.infRung := Nat.lt_of_le_of_lt C.zM (by decide)
  have h2 := rne_ge (x := x) hx C.wM
  have h3 := rne_le (x := x) hx C.wM hf
  rw [key_pos C.sM]
  cases hs : sgn .f64 x
  · rw [hs] at h1; rw [key_pos hs, key_pos h1]
    exact ⟨fun h => by have := h2 (by omega); omega, fun h => by have := h3 (by omega); omega⟩
  · rw [hs] at h1; rw [key_neg hs, key_neg h1]
    exact ⟨fun h => by omega, fun h => by omega⟩
theorem rne_lo {m x : Nat} (C : Cst m) (hx : rung .f64 x ≤ FloatKind.f64.format.infRung) : (key .f64 (fd (-(m : Int))) ≤ key .f64 x → key .f64 (fd (-(m : Int))) ≤ key .f64 (rneW x)) ∧ (key .f64 x ≤ key .f64 (fd (-(m : Int))) → key .f64 (rneW x) ≤ key .f64 (fd (-(m : Int)))) := by
  have h1 := rne_sgn hx
  have p := C.pL
  have hf : rung .f64 (fd (-(m : Int))) < FloatKind.f64.format.infRung := Nat.lt_of_le_of_lt C.zL (by decide)
  have h2 := rne_ge (x := x) hx C.wL
  have h3 := rne_le (x := x) hx C.wL hf
  rw [key_neg C.sL]
  cases hs : sgn .f64 x
  · rw [hs] at h1; rw [key_pos hs, key_pos h1]
    exact ⟨fun h => by omega, fun h => by omega⟩
  · rw [hs] at h1; rw [key_neg hs, key_neg h1]
    exact ⟨fun h => by have := h3 (by omega); omega, fun h => by have := h2 (by omega); omega⟩
theorem key_inj {x y : Nat} (hx : x < 2 ^ 64) (hy : y < 2 ^ 64) (h : key .f64 x = key .f64 y) (h0 : rung .f64 y ≠ 0) : x = y := by
  rw [← word_of .f64 (b := x) hx, ← word_of .f64 (b := y) hy]
  cases hs : sgn .f64 x <;> cases ht : sgn .f64 y
  · rw [key_pos hs, key_pos ht] at h; rw [show rung .f64 x = rung .f64 y by omega]
  · rw [key_pos hs, key_neg ht] at h; omega
  · rw [key_neg hs, key_pos ht] at h; omega
  · rw [key_neg hs, key_neg ht] at h; rw [show rung .f64 x = rung .f64 y by omega]
theorem rne_int {m x : Nat} (C : Cst m) (hx : rung .f64 x ≤ FloatKind.f64.format.infRung) (h1 : key .f64 (fd (-(m : Int))) ≤ key .f64 x) (h2 : key .f64 x ≤ key .f64 (fd ((m : Int) - 1))) : floatToIntVal .f64 (rneW x) .i64 = some ((floatToIntVal .f64 (rneW x) .i64).getD 0) := by
  have h3 := (rne_hi C hx).2 h2
  have h4 := (rne_lo C hx).1 h1
  have zM := C.zM; have zL := C.zL
  rw [key_pos C.sM] at h3; rw [key_neg C.sL] at h4
  obtain ⟨v, hv⟩ := toInt_some (y := rneW x) (by
    cases hs : sgn .f64 (rneW x)
    · rw [key_pos hs] at h3; omega
    · rw [key_neg hs] at h4; omega)
  rw [hv]; rfl
theorem fd_fits (c : Int) : ab .f64 (fd c) = some (fd c) ∧ fd c < 2 ^ 64 := ⟨(fv_write .f64 (d := .number (decide (c < 0)) c.natAbs 0) rfl).2, (fv_write .f64 (d := .number (decide (c < 0)) c.natAbs 0) rfl).1⟩
end Go.Proofs.Ytcpcfgdncinpgaa

/- The code nearest to a number: both. -/
set_option linter.unusedVariables false
set_option linter.unusedSimpArgs false
namespace Go.Proofs.Ytcpcfgdncinpgaa
open Fl Go.RowKit
theorem run_rne {P : Program} (x : Nat) (hx : ab .f64 x = some x) (w : World) : (Extern.MathFloor.toIntegral "math.RoundToEven" .even #[.float .f64 x]).run P w = .ok (.float .f64 (rneW x)) w := by
  have hn : (FloatKind.f64.decode x).isNaN = false := by
    have := read_nan (k := .f64) (b := x)
    rw [hx] at this
    exact this
  unfold rneW
  change Sem.run P (match FloatKind.f64.decode x with
    | .nan s t => if FloatKind.f64.format.quiet t = t then pure (Value.float .f64 x) else do
      let kept ← choose (.extern "math.Floor,Ceil,Trunc,RoundToEven.signallingNaN kept" 2)
      pure (Value.float .f64 (if kept == 1 then x else FloatKind.f64.encode (.nan s (FloatKind.f64.format.quiet t))))
    | d => pure (Value.float .f64 (FloatKind.f64.encode (d.integral .even)))) w = _
  cases hd : FloatKind.f64.decode x with
  | nan s t => rw [hd] at hn; cases hn
  | number s m e => rfl
  | infinity s => rfl
theorem codO_some (m x : Nat) : codO m (some x) = if key .f64 (fd ((m : Int) - 1)) ≤ key .f64 x then (m : Int) - 1 else if key .f64 x ≤ key .f64 (fd (-(m : Int))) then -(m : Int) else (floatToIntVal .f64 (rneW x) .i64).getD 0 := rfl
theorem callRne (x : Nat) (hx : ab .f64 x = some x) (w : World) : (callFunc 81 #[.float .f64 x]).run Try.prog w = .ok (.value (.float .f64 (rneW x))) w := by
  rw [run_callFunc_extern (P := Try.prog) (fn := Try.f81) (e := Extern.MathFloor.toIntegral "math.RoundToEven" .even) (by kernel_rfl) (by kernel_rfl) (by kernel_rfl) (by kernel_rfl) (by kernel_rfl), run_rne x hx]
  rfl
theorem ord_of {x c : Nat} (hx : ab .f64 x = some x) (hc : ab .f64 c = some c) : (key .f64 x < key .f64 c ∧ FloatKind.f64.format.order x c = some .lt) ∨ (key .f64 x = key .f64 c ∧ FloatKind.f64.format.order x c = some .eq) ∨ (key .f64 c < key .f64 x ∧ FloatKind.f64.format.order x c = some .gt) := by
  rw [order_key .f64 hx hc, cmp_def]
  rcases Int.lt_trichotomy (key .f64 x) (key .f64 c) with h | h | h
  · exact .inl ⟨h, by rw [if_pos h]⟩
  · exact .inr (.inl ⟨h, by rw [if_neg (by omega), if_pos h]⟩)
  · exact .inr (.inr ⟨h, by rw [if_neg (by omega), if_neg (by omega)]⟩)
end Go.Proofs.Ytcpcfgdncinpgaa

/- The code nearest to a number: the program's. -/
set_option linter.unusedVariables false
set_option linter.unusedSimpArgs false
namespace Go.Proofs.Ytcpcfgdncinpgaa
open Fl Go.RowKit
theorem isNaN_nan (x : Nat) (h : FloatKind.f64.format.order x x = none) (w : World) : Calls Try.prog 115 #[.float .f64 x] w fun e w' => e = .returned (.bool true) ∧ w = w' := by
  go_enter Try.func115, Try.ntmps115
  go_wp2
  go_ret
  exact ⟨rfl, rfl⟩
theorem isNaN_num (x : Nat) (h : FloatKind.f64.format.order x x = some .eq) (w : World) : Calls Try.prog 115 #[.float .f64 x] w fun e w' => e = .returned (.bool false) ∧ w = w' := by
  go_enter Try.func115, Try.ntmps115
  go_wp2
  go_ret
  exact ⟨rfl, rfl⟩
theorem run_max {P : Program} (ts : Array TypeId) (t : TypeId) (x y r : Nat) (h : (FloatKind.f64.format.order x y = some .lt ∧ r = y) ∨ (FloatKind.f64.format.order x y = some .gt ∧ r = x) ∨ (FloatKind.f64.format.order x y = some .eq ∧ x = y ∧ r = x)) (W : World) :
    (Builtin.max_ ts t #[.float .f64 x, .float .f64 y]).run P W = .ok (.float .f64 r) W := by
  rcases h with ⟨h, rfl⟩ | ⟨h, rfl⟩ | ⟨h, rfl, rfl⟩
  · simp [Builtin.max_, Builtin.max2, h]
  · simp [Builtin.max_, Builtin.max2, h]
  · simp [Builtin.max_, Builtin.max2, h]
theorem run_min {P : Program} (ts : Array TypeId) (t : TypeId) (x y r : Nat) (h : (FloatKind.f64.format.order x y = some .lt ∧ r = x) ∨ (FloatKind.f64.format.order x y = some .gt ∧ r = y) ∨ (FloatKind.f64.format.order x y = some .eq ∧ x = y ∧ r = x)) (W : World) :
    (Builtin.min_ ts t #[.float .f64 x, .float .f64 y]).run P W = .ok (.float .f64 r) W := by
  rcases h with ⟨h, rfl⟩ | ⟨h, rfl⟩ | ⟨h, rfl, rfl⟩
  · simp [Builtin.min_, Builtin.min2, h]
  · simp [Builtin.min_, Builtin.min2, h]
  · simp [Builtin.min_, Builtin.min2, h]
/-- the rounded number, brought between the bounds, as an integer -/
theorem clamp_num {m x : Nat} (C : Cst m) (hab : ab .f64 x = some x) :
    ∃ r1 r2, ((FloatKind.f64.format.order (rneW x) (fd (-(m : Int))) = some .lt ∧ r1 = fd (-(m : Int))) ∨ (FloatKind.f64.format.order (rneW x) (fd (-(m : Int))) = some .gt ∧ r1 = rneW x) ∨ (FloatKind.f64.format.order (rneW x) (fd (-(m : Int))) = some .eq ∧ rneW x = fd (-(m : Int)) ∧ r1 = rneW x)) ∧
      ((FloatKind.f64.format.order r1 (fd ((m : Int) - 1)) = some .lt ∧ r2 = r1) ∨ (FloatKind.f64.format.order r1 (fd ((m : Int) - 1)) = some .gt ∧ r2 = fd ((m : Int) - 1)) ∨ (FloatKind.f64.format.order r1 (fd ((m : Int) - 1)) = some .eq ∧ r1 = fd ((m : Int) - 1) ∧ r2 = r1)) ∧
      floatToIntVal .f64 r2 .i64 = some (codO m (some x)) := by
  have hr := rung_of_ab .f64 hab
  have hR := rne_fits hr
  have hRa := ab_of_rung hR.1
  have fM := fd_fits ((m : Int) - 1)
  have fL := fd_fits (-(m : Int))
  have hi := rne_hi C hr
  have lo := rne_lo C hr
  have kM := key_pos C.sM; have pM := C.pM
  have kL := key_neg C.sL; have pL := C.pL
  have hML : FloatKind.f64.format.order (fd (-(m : Int))) (fd ((m : Int) - 1)) = some .lt := by
    rcases ord_of fL.1 fM.1 with ⟨h, h2⟩ | ⟨h, h2⟩ | ⟨h, h2⟩
    · exact h2
    · omega
    · omega
  rw [codO_some]
  rcases ord_of hRa fL.1 with ⟨h1, o1⟩ | ⟨h1, o1⟩ | ⟨h1, o1⟩
  · refine ⟨fd (-(m : Int)), fd (-(m : Int)), .inl ⟨o1, rfl⟩, .inl ⟨hML, rfl⟩, ?_⟩
    rw [C.iL, if_neg (by omega), if_pos (by omega)]
  · have e := key_inj hR.2 fL.2 h1 (by omega)
    refine ⟨rneW x, rneW x, .inr (.inr ⟨o1, e, rfl⟩), .inl ⟨by rw [e]; exact hML, rfl⟩, ?_⟩
    rw [if_neg (by omega)]
    split
    · rw [e]; exact C.iL
    · exact rne_int C hr (by omega) (by omega)
  · rcases ord_of hRa fM.1 with ⟨h2, o2⟩ | ⟨h2, o2⟩ | ⟨h2, o2⟩
    · refine ⟨rneW x, rneW x, .inr (.inl ⟨o1, rfl⟩), .inl ⟨o2, rfl⟩, ?_⟩
      rw [if_neg (by omega), if_neg (by omega)]
      exact rne_int C hr (by omega) (by omega)
    · have e := key_inj hR.2 fM.2 h2 (by omega)
      refine ⟨rneW x, rneW x, .inr (.inl ⟨o1, rfl⟩), .inr (.inr ⟨o2, e, rfl⟩), ?_⟩
      split
      · rw [e]; exact C.iM
      · rw [if_neg (by omega)]
        exact rne_int C hr (by omega) (by omega)
    · refine ⟨rneW x, fd ((m : Int) - 1), .inr (.inl ⟨o1, rfl⟩), .inr (.inl ⟨o2, rfl⟩), ?_⟩
      rw [C.iM, if_pos (by omega)]
end Go.Proofs.Ytcpcfgdncinpgaa

/- Products with powers of two: the code of the product in 32 bits is that of the product in 64 bits. -/
set_option linter.unusedVariables false
set_option linter.unusedSimpArgs false
namespace Go.Proofs.Ytcpcfgdncinpgaa
namespace Fl
open Ieee
theorem nearest_exact (k : FloatKind) (neg : Bool) {r mag : Nat} {place b : Int} (hr : r < k.format.infRung) (hb : b ≤ place) (hbl : b ≤ k.format.leastPlace)
    (h : zv k r * 2 ^ (k.format.leastPlace - b).toNat = mag * 2 ^ (place - b).toNat) : rung k (k.format.nearest neg mag place) = r := by
  obtain ⟨m, e, hz, hme, _⟩ := rung_form k r
  have h0 := nearest_rung k neg hr hz hme
  have h1 : m * 2 ^ (k.format.leastPlace + (e : Int) - b).toNat = mag * 2 ^ (place - b).toNat := by
    rw [← h, hz, Nat.mul_assoc, ← Nat.pow_add]
    congr 2
    omega
  have a := nearest_mono k neg neg (mag := m) (mag' := mag) (place := k.format.leastPlace + e) (place' := place) (b := b) (by omega) hb hbl (Nat.le_of_eq h1)
  have a' := nearest_mono k neg neg (mag := mag) (mag' := m) (place := place) (place' := k.format.leastPlace + e) (b := b) hb (by omega) hbl (Nat.le_of_eq h1.symm)
  omega
theorem zv_dbl1 (k : FloatKind) (r : Nat) : ∃ r', zv k r' = zv k r * 2 := by
  have hp := bin_pos k
  by_cases h : r < k.format.binade
  · refine ⟨2 * r, ?_⟩
    by_cases h2 : 2 * r < k.format.binade
    · unfold zv; rw [if_pos h2, if_pos h]; omega
    · have e1 : 2 * r / k.format.binade = 1 := by
        rw [Nat.div_eq_sub_div hp (by omega), Nat.div_eq_of_lt (by omega)]
      have e2 : 2 * r % k.format.binade = 2 * r - k.format.binade := by
        rw [Nat.mod_eq_sub_mod (by omega), Nat.mod_eq_of_lt (by omega)]
      unfold zv
      rw [if_neg h2, if_pos h, e1, e2]
      simp
      omega
  · refine ⟨r + k.format.binade, ?_⟩
    have e1 : (r + k.format.binade) / k.format.binade = r / k.format.binade + 1 := Nat.add_div_right _ hp
    have e2 : (r + k.format.binade) % k.format.binade = r % k.format.binade := Nat.add_mod_right _ _
    have hq : 1 ≤ r / k.format.binade := (Nat.one_le_div_iff hp).2 (by omega)
    unfold zv
    rw [if_neg (by omega), if_neg h, e1, e2, Nat.mul_assoc, ← Nat.pow_succ]
    congr 2
    omega
theorem zv_dbl (k : FloatKind) (r : Nat) : ∀ j, ∃ r', zv k r' = zv k r * 2 ^ j
  | 0 => ⟨r, by rw [Nat.pow_zero, Nat.mul_one]⟩
  | j + 1 => by
    obtain ⟨s, hs⟩ := zv_dbl k r j
    obtain ⟨t, ht⟩ := zv_dbl1 k s
    exact ⟨t, by rw [ht, hs, Nat.pow_succ, Nat.mul_assoc]⟩
/-- a product that is exact -/
theorem mul_exact (k : FloatKind) {x c r m : Nat} (hx : rung k x < k.format.infRung) (hc : rung k c < k.format.infRung) (sc : sgn k c = false) (P : Nat) (hP : k.format.leastPlace = -(P : Int)) (hzc : zv k (rung k c) = m * 2 ^ P) (hr : r < k.format.infRung)
    (hzr : zv k r = zv k (rung k x) * m) : ∃ q, floatBits .mul k x c = some q ∧ rung k q = r ∧ sgn k q = sgn k x := by
  obtain ⟨mx, ex, h1, h2⟩ := read_fin k hx
  obtain ⟨mc, ec, h3, h4⟩ := read_fin k hc
  simp only [floatBits, Format.mul, h1, h3, Datum.product, Option.map_some]
  refine ⟨_, rfl, ?_, ?_⟩
  · show rung k (k.format.nearest _ _ _) = r
    refine nearest_exact k _ (b := k.format.leastPlace + k.format.leastPlace) hr (by omega) (by omega) ?_
    rw [show (k.format.leastPlace - (k.format.leastPlace + k.format.leastPlace)).toNat = P by omega,
      show (k.format.leastPlace + (ex : Int) + (k.format.leastPlace + (ec : Int)) - (k.format.leastPlace + k.format.leastPlace)).toNat = ex + ec by omega, hzr, h2, Nat.pow_add]
    have e : mx * mc * (2 ^ ex * 2 ^ ec) = (mx * 2 ^ ex) * (mc * 2 ^ ec) := by rw [Nat.mul_assoc, Nat.mul_assoc, Nat.mul_left_comm mc]
    rw [e, ← h4, hzc, Nat.mul_assoc]
  · show sgn k (k.format.nearest _ _ _) = _
    rw [sgn_nearest, sc]
    cases sgn k x <;> rfl
/-- a product with a number without sign, at least 1, is not less, and has the sign -/
theorem mul_big (k : FloatKind) {x c o t : Nat} (hx : rung k x < k.format.infRung) (hc : rung k c < k.format.infRung) (sc : sgn k c = false) (ht : rung k t < k.format.infRung) (ho : rung k o < k.format.infRung) (h1 : rung k t ≤ rung k x) (h2 : rung k o ≤ rung k c)
    (h3 : (floatBits .mul k t o).map (fun r => decide (rung k t ≤ rung k r)) = some true) : ∃ q, floatBits .mul k x c = some q ∧ rung k t ≤ rung k q ∧ sgn k q = sgn k x ∧ rung k q ≤ k.format.infRung := by
  obtain ⟨r, q, e1, e2, e3⟩ := mul_size k ht ho hx hc h1 h2
  rw [e1] at h3
  simp only [Option.map_some, Option.some.injEq, decide_eq_true_eq] at h3
  refine ⟨q, e2, by omega, ?_⟩
  obtain ⟨mx, ex, g1, g2⟩ := read_fin k hx
  obtain ⟨mc, ec, g3, g4⟩ := read_fin k hc
  simp only [floatBits, Format.mul, g1, g3, Datum.product, Option.map_some] at e2
  injection e2 with e2
  rw [← e2]
  refine ⟨?_, nearest_fin _ _ _ _⟩
  show sgn k (k.format.nearest _ _ _) = _
  rw [sgn_nearest, sc]
  cases sgn k x <;> rfl
end Fl
open Fl Go.RowKit Ieee
/-- what is asked of m as a number of 32 and of 64 bits -/
structure Pw (m : Nat) : Prop where
  f3 : rung .f32 (fI (m : Int)) < FloatKind.f32.format.infRung
  f6 : rung .f64 (fd (m : Int)) < FloatKind.f64.format.infRung
  s3 : sgn .f32 (fI (m : Int)) = false
  s6 : sgn .f64 (fd (m : Int)) = false
  z3 : zv .f32 (rung .f32 (fI (m : Int))) = m * 2 ^ 149
  z6 : zv .f64 (rung .f64 (fd (m : Int))) = m * 2 ^ 1074
  o3 : rung .f32 1065353216 ≤ rung .f32 (fI (m : Int))
  o6 : rung .f64 4607182418800017408 ≤ rung .f64 (fd (m : Int))
  i3 : ∀ s : Bool, (Datum.infinity s).product (FloatKind.f32.format.read (fI (m : Int))) = some (.infinity s)
  i6 : ∀ s : Bool, (Datum.infinity s).product (FloatKind.f64.format.read (fd (m : Int))) = some (.infinity s)
set_option maxRecDepth 10000 in
theorem pw_of {b : Nat} (h1 : 2 ≤ b) (h2 : b ≤ 16) : Pw (mst b) := by
  obtain rfl | rfl | rfl | rfl | rfl | rfl | rfl | rfl | rfl | rfl | rfl | rfl | rfl | rfl | rfl : b = 2 ∨ b = 3 ∨ b = 4 ∨ b = 5 ∨ b = 6 ∨ b = 7 ∨ b = 8 ∨ b = 9 ∨ b = 10 ∨ b = 11 ∨ b = 12 ∨ b = 13 ∨ b = 14 ∨ b = 15 ∨ b = 16 := by omega
  all_goals exact ⟨by decide +kernel, by decide +kernel, by decide +kernel, by decide +kernel, by decide +kernel, by decide +kernel, by decide +kernel, by decide +kernel, by decide +kernel, by decide +kernel⟩
def t32 : Nat := 147 * 8388608
def t64 : Nat := 1043 * 4503599627370496
theorem cod_sat {m y : Nat} (C : Cst m) (h : rung .f64 t64 ≤ rung .f64 y) : codO m (some y) = if sgn .f64 y then -(m : Int) else (m : Int) - 1 := by
  have kM := key_pos C.sM; have kL := key_neg C.sL
  have zM := C.zM; have zL := C.zL; have pM := C.pM
  have ht : rung .f64 t64 = 1043 * 4503599627370496 := by decide
  rw [codO_some]
  cases hs : sgn .f64 y
  · have ky := key_pos hs
    rw [if_pos (by omega)]; rfl
  · have ky := key_neg hs
    rw [if_neg (by omega), if_pos (by omega)]; rfl
theorem wide_some (x : Nat) : wide (some x) = some (FloatKind.f64.encode (FloatKind.f32.decode x)) := rfl
theorem opO_some (op : BinOp) (k : FloatKind) (x y : Nat) : opO op k (some x) (some y) = floatBits op k x y := rfl
theorem wide_big {p : Nat} (hp : rung .f32 p ≤ FloatKind.f32.format.infRung) (h : rung .f32 t32 ≤ rung .f32 p) : rung .f64 t64 ≤ rung .f64 (FloatKind.f64.encode (FloatKind.f32.decode p)) ∧ sgn .f64 (FloatKind.f64.encode (FloatKind.f32.decode p)) = sgn .f32 p := by
  obtain ⟨D, hD⟩ : ∃ D : Nat, D = 925 := ⟨_, rfl⟩
  rcases Nat.lt_or_eq_of_le hp with h1 | h1
  · obtain ⟨a, b⟩ := wide_zv h1 D hD
    refine ⟨?_, a⟩
    have h2 := wide_zv (b := t32) (by decide) D hD
    rw [show FloatKind.f64.encode (FloatKind.f32.decode t32) = t64 by decide +kernel] at h2
    refine (zv_le .f64).1 ?_
    rw [h2.2, b]
    exact Nat.mul_le_mul_right _ ((zv_le .f32).2 h)
  · have hr : FloatKind.f32.decode p = .infinity (sgn .f32 p) := read_inf .f32 h1
    rw [hr]
    cases sgn .f32 p <;> decide +kernel
theorem sg_word_inj {x y : Nat} (hx : x < 2 ^ 64) (hy : y < 2 ^ 64) (h1 : rung .f64 x = rung .f64 y) (h2 : sgn .f64 x = sgn .f64 y) : x = y := by
  rw [← word_of .f64 (b := x) hx, ← word_of .f64 (b := y) hy, h1, h2]
theorem op_lt {op : BinOp} {k : FloatKind} {x y q : Nat} (h : floatBits op k x y = some q) : q < 2 ^ k.format.width := by
  cases op <;> simp only [floatBits] at h <;> first | (cases h; done) | skip
  all_goals
    simp only [Format.add, Format.sub, Format.mul, Format.div, Option.map_eq_some_iff] at h
    obtain ⟨d, hd, rfl⟩ := h
    exact k.format.write_lt d
set_option maxHeartbeats 1000000 in
theorem cod_mul {m j : Nat} (hj : m = 2 ^ j) (hm : m ≤ 32768) (C : Cst m) (W : Pw m) (X : O) (hX : ∀ x, X = some x → rung .f32 x ≤ FloatKind.f32.format.infRung) :
    codO m (wide (opO .mul .f32 X (some (fI (m : Int))))) = codO m (opO .mul .f64 (wide X) (some (fd (m : Int)))) := by
  cases X with
  | none => rfl
  | some x =>
    have hx := hX x rfl
    rw [wide_some, opO_some, opO_some]
    have one6 : rung .f64 4607182418800017408 < FloatKind.f64.format.infRung := by decide
    have one3 : rung .f32 1065353216 < FloatKind.f32.format.infRung := by decide
    rcases Nat.lt_or_eq_of_le hx with h1 | h1
    · obtain ⟨D, hD⟩ : ∃ D : Nat, D = 925 := ⟨_, rfl⟩
      obtain ⟨sx, zx⟩ := wide_zv h1 D hD
      have hD3 : zv .f32 FloatKind.f32.format.infRung * 2 ^ D ≤ zv .f64 FloatKind.f64.format.infRung := by rw [hD]; decide +kernel
      have hwf : rung .f64 (FloatKind.f64.encode (FloatKind.f32.decode x)) < FloatKind.f64.format.infRung := by
        refine (zv_lt .f64).1 ?_
        rw [zx]
        have h2 : zv .f32 (rung .f32 x) < zv .f32 FloatKind.f32.format.infRung := (zv_lt .f32).2 h1
        exact Nat.lt_of_lt_of_le (Nat.mul_lt_mul_of_pos_right h2 (Nat.two_pow_pos _)) hD3
      rcases Nat.lt_or_ge (rung .f32 x) (rung .f32 t32) with h2 | h2
      · -- small: both products are exact
        obtain ⟨r, hr⟩ := zv_dbl .f32 (rung .f32 x) j
        rw [← hj] at hr
        have hrf : r < FloatKind.f32.format.infRung := by
          refine (zv_lt .f32).1 ?_
          rw [hr]
          have h3 : zv .f32 (rung .f32 x) < zv .f32 (rung .f32 t32) := (zv_lt .f32).2 h2
          have h4 : zv .f32 (rung .f32 t32) * 32768 ≤ zv .f32 FloatKind.f32.format.infRung := by decide +kernel
          have h5 : zv .f32 (rung .f32 x) * m ≤ zv .f32 (rung .f32 x) * 32768 := Nat.mul_le_mul_left _ hm
          omega
        obtain ⟨p, e1, e2, e3⟩ := mul_exact .f32 h1 W.f3 W.s3 149 (by decide) W.z3 hrf hr
        have hpf : rung .f32 p < FloatKind.f32.format.infRung := by rw [e2]; exact hrf
        obtain ⟨sp, zp⟩ := wide_zv hpf D hD
        have hpw : rung .f64 (FloatKind.f64.encode (FloatKind.f32.decode p)) < FloatKind.f64.format.infRung := by
          refine (zv_lt .f64).1 ?_
          rw [zp]
          have h2 : zv .f32 (rung .f32 p) < zv .f32 FloatKind.f32.format.infRung := (zv_lt .f32).2 hpf
          exact Nat.lt_of_lt_of_le (Nat.mul_lt_mul_of_pos_right h2 (Nat.two_pow_pos _)) hD3
        obtain ⟨q, g1, g2, g3⟩ := mul_exact .f64 hwf W.f6 W.s6 1074 (by decide) W.z6 hpw (by rw [zp, e2, hr, zx, Nat.mul_assoc, Nat.mul_comm m, ← Nat.mul_assoc])
        rw [e1, g1, wide_some]
        have : FloatKind.f64.encode (FloatKind.f32.decode p) = q := sg_word_inj (FloatKind.f64.format.write_lt _) (op_lt g1) g2.symm (by rw [sp, e3, g3, sx])
        rw [this]
      · obtain ⟨p, e1, e2, e3, e4⟩ := mul_big .f32 (t := t32) (o := 1065353216) h1 W.f3 W.s3 (by decide) one3 h2 W.o3 (by decide +kernel)
        obtain ⟨w1, w2⟩ := wide_big hx h2
        obtain ⟨q, g1, g2, g3, g4⟩ := mul_big .f64 (t := t64) (o := 4607182418800017408) hwf W.f6 W.s6 (by decide) one6 w1 W.o6 (by decide +kernel)
        obtain ⟨v1, v2⟩ := wide_big e4 e2
        rw [e1, g1, wide_some, cod_sat C v1, cod_sat C g2, v2, e3, g3, w2]
    · have hr : FloatKind.f32.format.read x = .infinity (sgn .f32 x) := read_inf .f32 h1
      have hd : FloatKind.f32.decode x = .infinity (sgn .f32 x) := hr
      have e1 : floatBits .mul .f32 x (fI (m : Int)) = some (FloatKind.f32.format.word (sgn .f32 x) FloatKind.f32.format.infRung) := by
        simp only [floatBits, Format.mul, hr, W.i3, Option.map_some]; rfl
      have hr6 : FloatKind.f64.format.read (FloatKind.f64.encode (FloatKind.f32.decode x)) = .infinity (sgn .f32 x) := by
        rw [hd]; cases sgn .f32 x <;> decide +kernel
      have e2 : floatBits .mul .f64 (FloatKind.f64.encode (FloatKind.f32.decode x)) (fd (m : Int)) = some (FloatKind.f64.format.word (sgn .f32 x) FloatKind.f64.format.infRung) := by
        simp only [floatBits, Format.mul, hr6, W.i6, Option.map_some]; rfl
      rw [e1, e2, wide_some]
      cases sgn .f32 x
      · rw [show FloatKind.f64.encode (FloatKind.f32.decode (FloatKind.f32.format.word false FloatKind.f32.format.infRung)) = FloatKind.f64.format.word false FloatKind.f64.format.infRung by decide +kernel]
      · rw [show FloatKind.f64.encode (FloatKind.f32.decode (FloatKind.f32.format.word true FloatKind.f32.format.infRung)) = FloatKind.f64.format.word true FloatKind.f64.format.infRung by decide +kernel]
end Go.Proofs.Ytcpcfgdncinpgaa

/- Whole parts of floats: what goes into an integer, and what is left of it. -/
set_option linter.unusedVariables false
set_option linter.unusedSimpArgs false
namespace Go.Proofs.Ytcpcfgdncinpgaa
namespace Fl
open Ieee
theorem cutz_eq (s : Bool) (n d : Nat) : Toward.zero.cut s n d = n / 2 ^ d := by
  unfold Toward.cut
  dsimp only
  rw [Nat.shiftLeft_eq, Nat.one_mul]
  show n / 2 ^ min d (n.log2 + 2) + 0 = _
  rcases Nat.le_total d (n.log2 + 2) with h1 | h1
  · rw [Nat.min_eq_left h1]; rfl
  · have h2 : n < 2 ^ (n.log2 + 2) := Nat.lt_trans Nat.lt_log2_self (Nat.pow_lt_pow_right (by decide) (by omega))
    rw [Nat.min_eq_right h1, Nat.div_eq_of_lt h2, Nat.div_eq_of_lt (Nat.lt_of_lt_of_le h2 (Nat.pow_le_pow_right (by decide) h1))]
/-- the whole part of a finite number's size -/
def whl (D y : Nat) : Nat := zv .f64 (rung .f64 y) / 2 ^ D
theorem toInt_whole {y D : Nat} (hD : D = 1074) (hf : rung .f64 y < FloatKind.f64.format.infRung) (hlt : whl D y < 4611686018427387904) : floatToIntVal .f64 y .i64 = some (sg (sgn .f64 y) (whl D y)) := by
  obtain ⟨m, e, hr, hz⟩ := read_fin .f64 hf
  have h2 : FloatKind.f64.format.leastPlace = -(D : Int) := by rw [hD]; decide
  clear hD
  have hd : FloatKind.f64.decode y = .number (sgn .f64 y) m (-(D : Int) + e) := by rw [← h2]; exact hr
  have hc : Toward.zero.cut (sgn .f64 y) (m <<< (-(D : Int) + e).toNat) (-(-(D : Int) + e)).toNat = whl D y := by
    rw [cutz_eq, Nat.shiftLeft_eq]
    unfold whl
    rw [hz]
    rcases Nat.le_total e D with h4 | h4
    · rw [show (-(D : Int) + e).toNat = 0 by omega, show (-(-(D : Int) + e)).toNat = D - e by omega, Nat.pow_zero, Nat.mul_one]
      have h5 : 2 ^ D = 2 ^ (D - e) * 2 ^ e := by rw [← Nat.pow_add]; congr 1; omega
      rw [h5, Nat.mul_div_mul_right _ _ (Nat.two_pow_pos e)]
    · rw [show (-(D : Int) + e).toNat = e - D by omega, show (-(-(D : Int) + e)).toNat = 0 by omega, Nat.pow_zero, Nat.div_one]
      have h5 : 2 ^ e = 2 ^ (e - D) * 2 ^ D := by rw [← Nat.pow_add]; congr 1; omega
      rw [h5, ← Nat.mul_assoc, Nat.mul_div_cancel _ (Nat.two_pow_pos D)]
  have hi : (Datum.number (sgn .f64 y) m (-(D : Int) + e)).toInt .zero = some (sg (sgn .f64 y) (whl D y)) := by
    unfold Datum.toInt Datum.integral
    dsimp only
    rw [hc]
    simp only [signed, sg, Nat.shiftLeft_zero]
  unfold floatToIntVal
  rw [hd, hi]
  dsimp only
  have r1 : IntKind.i64.min ≤ sg (sgn .f64 y) (whl D y) := by show (-9223372036854775808 : Int) ≤ _; unfold sg; split <;> omega
  have r2 : sg (sgn .f64 y) (whl D y) ≤ IntKind.i64.max := by show _ ≤ (9223372036854775807 : Int); unfold sg; split <;> omega
  rw [if_pos ⟨r1, r2⟩]
theorem zv_low {C : Nat} (h : C < 9007199254740992) : zv .f64 C = C := by
  have hb : FloatKind.f64.format.binade = 4503599627370496 := by decide
  unfold zv
  rw [hb]
  by_cases h1 : C < 4503599627370496
  · rw [if_pos h1]
  · have e1 : C / 4503599627370496 = 1 := by omega
    have e2 : C % 4503599627370496 = C - 4503599627370496 := by omega
    rw [if_neg h1, e1, e2]
    simp
    omega
theorem fd_whole {C D : Nat} {s : Bool} (hD : D = 1074) (h : C < 9007199254740992) : rung .f64 (fd (sg s C)) < FloatKind.f64.format.infRung ∧ zv .f64 (rung .f64 (fd (sg s C))) = C * 2 ^ D ∧ (C ≠ 0 → sgn .f64 (fd (sg s C)) = s) := by
  obtain ⟨r, hr⟩ := zv_dbl .f64 C D
  rw [zv_low h] at hr
  have h2 : FloatKind.f64.format.leastPlace = -(D : Int) := by rw [hD]; decide
  have hbig : zv .f64 (1076 * 4503599627370496) = 9007199254740992 * 2 ^ D := by rw [hD]; decide +kernel
  have hfin : 1076 * 4503599627370496 < FloatKind.f64.format.infRung := by decide
  have hri : r < FloatKind.f64.format.infRung := by
    refine Nat.lt_trans ((zv_lt .f64).1 ?_) hfin
    rw [hr, hbig]
    exact Nat.mul_lt_mul_of_pos_right h (Nat.two_pow_pos D)
  clear hD hbig
  have hn : (sg s C).natAbs = C := by unfold sg; split <;> omega
  have e : fd (sg s C) = FloatKind.f64.format.nearest (decide (sg s C < 0)) C 0 := by
    show FloatKind.f64.format.nearest (decide (sg s C < 0)) (sg s C).natAbs 0 = _
    rw [hn]
  have hrr : rung .f64 (fd (sg s C)) = r := by
    rw [e]
    refine nearest_exact .f64 _ (b := -(D : Int)) hri (by omega) (by omega) ?_
    rw [h2, show (-(D : Int) - -(D : Int)).toNat = 0 by omega, show ((0 : Int) - -(D : Int)).toNat = D by omega, Nat.pow_zero, Nat.mul_one, hr]
  refine ⟨by rw [hrr]; exact hri, by rw [hrr, hr], fun h0 => ?_⟩
  rw [e, sgn_nearR]
  unfold sg
  cases s
  · simp
  · simp; omega
theorem sub_whole {x D : Nat} (hD : D = 1074) (hf : rung .f64 x < FloatKind.f64.format.infRung) (hlt : whl D x < 9007199254740992) : ∃ d, floatBits .sub .f64 x (fd (sg (sgn .f64 x) (whl D x))) = some d ∧ rung .f64 d ≤ 4607182418800017408 := by
  obtain ⟨hv1, hv2, hv3⟩ := fd_whole (s := sgn .f64 x) hD hlt
  have h2 : FloatKind.f64.format.leastPlace = -(D : Int) := by rw [hD]; decide
  have hone : rung .f64 (FloatKind.f64.format.nearest false 1 0) = 4607182418800017408 := by decide
  clear hD
  obtain ⟨m, e, hm, hz⟩ := read_fin .f64 hf
  obtain ⟨n, f, hn, hz2⟩ := read_fin .f64 hv1
  have hdm : zv .f64 (rung .f64 x) = whl D x * 2 ^ D + zv .f64 (rung .f64 x) % 2 ^ D := by unfold whl; rw [Nat.mul_comm]; exact (Nat.div_add_mod _ _).symm
  have hmod := Nat.mod_lt (zv .f64 (rung .f64 x)) (Nat.two_pow_pos D)
  obtain ⟨C, hC⟩ : ∃ C, C = whl D x := ⟨_, rfl⟩
  rw [← hC] at hv1 hv2 hv3 hn hz2 hdm hlt ⊢
  simp only [floatBits, Format.sub, hm, hn, Datum.opposite, Datum.sum, Option.map_some]
  refine ⟨_, rfl, ?_⟩
  rw [← hone]
  refine nearest_mono .f64 _ _ (b := FloatKind.f64.format.leastPlace) (by omega) (by omega) (by omega) ?_
  rw [h2]
  have e1 : (min (-(D : Int) + (e : Int)) (-(D : Int) + (f : Int)) - -(D : Int)).toNat = min e f := by omega
  have e3 : (-(D : Int) + (e : Int) - min (-(D : Int) + (e : Int)) (-(D : Int) + (f : Int))).toNat = e - min e f := by omega
  have e4 : (-(D : Int) + (f : Int) - min (-(D : Int) + (e : Int)) (-(D : Int) + (f : Int))).toNat = f - min e f := by omega
  have e5 : ((0 : Int) - -(D : Int)).toNat = D := by omega
  rw [e1, e3, e4, e5]
  have sgd : ∀ (s : Bool) (a u : Nat), signed s a u = sg s (a * 2 ^ u) := by intro s a u; simp only [signed, sg, Nat.shiftLeft_eq]
  rw [sgd, sgd]
  have a1 : m * 2 ^ (e - min e f) * 2 ^ min e f = C * 2 ^ D + zv .f64 (rung .f64 x) % 2 ^ D := by
    rw [Nat.mul_assoc, ← Nat.pow_add, Nat.sub_add_cancel (Nat.min_le_left ..), ← hz]; exact hdm
  have a2 : n * 2 ^ (f - min e f) * 2 ^ min e f = C * 2 ^ D := by
    rw [Nat.mul_assoc, ← Nat.pow_add, Nat.sub_add_cancel (Nat.min_le_right ..), ← hz2]; exact hv2
  generalize zv .f64 (rung .f64 x) % 2 ^ D = R at *
  generalize m * 2 ^ (e - min e f) = M at *
  generalize n * 2 ^ (f - min e f) = N' at *
  have hle : N' ≤ M := Nat.le_of_mul_le_mul_right (show N' * 2 ^ min e f ≤ M * 2 ^ min e f by rw [a1, a2]; omega) (Nat.two_pow_pos _)
  have hdiff : (M - N') * 2 ^ min e f = R := by rw [Nat.sub_mul, a1, a2]; omega
  have hab : (sg (sgn .f64 x) M + sg (!sgn .f64 (fd (sg (sgn .f64 x) C))) N').natAbs = M - N' := by
    by_cases h0 : C = 0
    · have hN : N' = 0 := by
        rw [h0, Nat.zero_mul] at a2
        rcases Nat.mul_eq_zero.1 a2 with h | h
        · exact h
        · have := Nat.two_pow_pos (min e f); omega
      rw [hN]
      unfold sg
      generalize sgn .f64 (fd (sg (sgn .f64 x) C)) = t
      generalize sgn .f64 x = u
      cases u <;> cases t <;> simp
    · rw [hv3 h0]
      unfold sg
      cases sgn .f64 x
      · simp; omega
      · simp; omega
  rw [hab, hdiff, Nat.one_mul]
  exact Nat.le_of_lt hmod
end Fl
end Go.Proofs.Ytcpcfgdncinpgaa

/- Signs of sums, products, quotients; the part of a spread in which a number is. -/
set_option linter.unusedVariables false
set_option linter.unusedSimpArgs false
namespace Go.Proofs.Ytcpcfgdncinpgaa
namespace Fl
open Ieee
theorem add_sign (k : FloatKind) {x y : Nat} (hx : Fin k x) (hy : Fin k y) (sy : sgn k y = false) (h : sgn k x = false ∨ rung k x ≤ rung k y) :
    ∃ r, floatBits .add k x y = some r ∧ sgn k r = false := by
  obtain ⟨m, e, hm, hz⟩ := read_fin k hx
  obtain ⟨n, f, hn, hz2⟩ := read_fin k hy
  rw [sy] at hn
  simp only [floatBits, Format.add, hm, hn, Datum.sum, Option.map_some]
  refine ⟨_, rfl, ?_⟩
  refine (sgn_nearest k _ _ _).trans ?_
  have e1 : (min (k.format.leastPlace + (e : Int)) (k.format.leastPlace + (f : Int)) - k.format.leastPlace).toNat = min e f := by omega
  have e3 : (k.format.leastPlace + (e : Int) - min (k.format.leastPlace + (e : Int)) (k.format.leastPlace + (f : Int))).toNat = e - min e f := by omega
  have e4 : (k.format.leastPlace + (f : Int) - min (k.format.leastPlace + (e : Int)) (k.format.leastPlace + (f : Int))).toNat = f - min e f := by omega
  rw [e3, e4]
  have sgd : ∀ (s : Bool) (a u : Nat), signed s a u = sg s (a * 2 ^ u) := by intro s a u; simp only [signed, sg, Nat.shiftLeft_eq]
  rw [sgd, sgd]
  have hge : 0 ≤ sg (sgn k x) (m * 2 ^ (e - min e f)) + sg false (n * 2 ^ (f - min e f)) := by
    rcases h with h | h
    · rw [h]
      generalize m * 2 ^ (e - min e f) = p1
      generalize n * 2 ^ (f - min e f) = p2
      simp only [sg]; simp; omega
    · have c := (zv_le k).2 h
      rw [hz, hz2] at c
      have c2 : m * 2 ^ (e - min e f) ≤ n * 2 ^ (f - min e f) := by
        have hp : 0 < 2 ^ min e f := Nat.two_pow_pos _
        refine Nat.le_of_mul_le_mul_right ?_ hp
        rw [Nat.mul_assoc, Nat.mul_assoc, ← Nat.pow_add, ← Nat.pow_add, Nat.sub_add_cancel (Nat.min_le_left ..), Nat.sub_add_cancel (Nat.min_le_right ..)]
        exact c
      generalize m * 2 ^ (e - min e f) = p1 at *
      generalize n * 2 ^ (f - min e f) = p2 at *
      cases sgn k x <;> simp only [sg] <;> simp <;> omega
  split
  · simp
  · exact decide_eq_false (by omega)
theorem mul_sign (k : FloatKind) {x y : Nat} (hx : Fin k x) (hy : Fin k y) : ∃ r, floatBits .mul k x y = some r ∧ sgn k r = (sgn k x ^^ sgn k y) := by
  obtain ⟨m, e, hm, hz⟩ := read_fin k hx
  obtain ⟨n, f, hn, hz2⟩ := read_fin k hy
  simp only [floatBits, Format.mul, hm, hn, Datum.product, Option.map_some]
  exact ⟨_, rfl, sgn_nearest k _ _ _⟩
theorem div_sign (k : FloatKind) {x y : Nat} (hx : Fin k x) (hy : Fin k y) (hy0 : rung k y ≠ 0) : ∃ r, floatBits .quo k x y = some r ∧ sgn k r = (sgn k x ^^ sgn k y) := by
  obtain ⟨m, e, hm, hz⟩ := read_fin k hx
  obtain ⟨n, f, hn, hz2⟩ := read_fin k hy
  have hn0 : n ≠ 0 := by
    intro e0
    subst e0
    rw [Nat.zero_mul] at hz2
    exact hy0 ((zv_inj k (r := rung k y) (s := 0)).1 (by rw [zv_zero]; exact hz2))
  simp only [floatBits, Format.div, hm, hn, Datum.quotient, if_neg hn0, Option.map_some]
  exact ⟨_, rfl, sgn_nearest k _ _ _⟩
def cA : Nat := 4607182418263146496
def cO : Nat := 4607182418800017408
def cT : Nat := 4611686018427387904
def cS : Nat := 4611686018158952448
def cH : Nat := 4607182418531581952
theorem part_tab : ∀ p : _root_.Fin 65, 1 ≤ p.val → (match floatBits .mul .f64 cH (fd (p.val : Nat)) with | some u => decide (zv .f64 (rung .f64 u) < p.val * 2 ^ 1074) && decide (rung .f64 u < FloatKind.f64.format.infRung) | none => false) = true := by decide +kernel
theorem fd_tab : ∀ p : _root_.Fin 65, rung .f64 (fd (p.val : Nat)) < FloatKind.f64.format.infRung ∧ sgn .f64 (fd (p.val : Nat)) = false ∧ ab .f64 (fd (p.val : Nat)) = some (fd (p.val : Nat)) := by decide +kernel
theorem part_sum {b : Nat} (hb : ab .f32 b = some b) (h : rung .f32 b ≤ 1065353216) (h2 : rung .f32 b ≤ 1065353215 ∨ b = 3212836864) :
    ∃ s, floatBits .add .f64 (FloatKind.f64.encode (FloatKind.f32.decode b)) cO = some s ∧ sgn .f64 s = false ∧ rung .f64 s ≤ rung .f64 cS := by
  have inf32 : FloatKind.f32.format.infRung = 2139095040 := by decide
  obtain ⟨D, hD⟩ : ∃ D : Nat, D = 925 := ⟨_, rfl⟩
  obtain ⟨w1, w2⟩ := wide_zv (b := b) (by omega) D hD
  obtain ⟨o1, o2⟩ := wide_zv (b := 1065353216) (by decide) D hD
  obtain ⟨a1, a2⟩ := wide_zv (b := 1065353215) (by decide) D hD
  have eO : FloatKind.f64.encode (FloatKind.f32.decode 1065353216) = cO := by decide +kernel
  have eA : FloatKind.f64.encode (FloatKind.f32.decode 1065353215) = cA := by decide +kernel
  rw [eO] at o2; rw [eA] at a2
  have le1 : rung .f64 (FloatKind.f64.encode (FloatKind.f32.decode b)) ≤ rung .f64 cO := (zv_le .f64).1 (by rw [w2, o2]; exact Nat.mul_le_mul_right _ ((zv_le .f32).2 (by rw [show rung .f32 1065353216 = 1065353216 by decide]; exact h)))
  have fO : Fin .f64 cO := by unfold Fin; decide
  have fW : Fin .f64 (FloatKind.f64.encode (FloatKind.f32.decode b)) := by unfold Fin at fO ⊢; omega
  obtain ⟨s, hs, hsg⟩ := add_sign .f64 fW fO (by decide) (.inr le1)
  refine ⟨s, hs, hsg, ?_⟩
  rcases h2 with h2 | rfl
  · have le2 : rung .f64 (FloatKind.f64.encode (FloatKind.f32.decode b)) ≤ rung .f64 cA := (zv_le .f64).1 (by rw [w2, a2]; exact Nat.mul_le_mul_right _ ((zv_le .f32).2 (by rw [show rung .f32 1065353215 = 1065353215 by decide]; exact h2)))
    obtain ⟨r, t, h3, h4, h5⟩ := add_size .f64 fW fO (c := cA) (d := cO) (by unfold Fin; decide) fO (by decide) (by decide) le2 (Nat.le_refl _)
    rw [hs] at h3; cases h3
    have e4 : floatBits .add .f64 cA cO = some cS := by decide +kernel
    rw [e4] at h4; cases h4
    exact h5
  · have e4 : floatBits .add .f64 (FloatKind.f64.encode (FloatKind.f32.decode 3212836864)) cO = some 0 := by decide +kernel
    rw [hs] at e4; cases e4
    decide
theorem part_of {b p : Nat} (hb32 : b < 4294967296) (hge : geO (ab .f32 b) (some 3212836864) = true) (hlt : ltO (ab .f32 b) (some 1065353216) = true) (hp : 1 ≤ p) (hp2 : p ≤ 64) :
    ∃ s h m q : Nat, opO .add .f64 (wide (ab .f32 b)) (some cO) = some s ∧ opO .quo .f64 (some s) (some cT) = some h ∧ opO .mul .f64 (some h) (some (fd (p : Nat))) = some m ∧ floatToIntVal .f64 m .i64 = some (q : Int) ∧ q < p := by
  have hb : ab .f32 b = some b := by
    cases e : ab .f32 b with
    | none => rw [e] at hlt; exact absurd hlt (by decide)
    | some c => rw [ab_some e]
  have hc1 : ab .f32 1065353216 = some 1065353216 := by decide
  have hc2 : ab .f32 3212836864 = some 3212836864 := by decide
  rw [hb] at hge hlt ⊢
  have k1 := order_key .f32 hb hc1
  have k2 := order_key .f32 hb hc2
  have e1 : key .f32 1065353216 = 1065353216 := by decide
  have e2 : key .f32 3212836864 = -1065353216 := by decide
  rw [e1] at k1; rw [e2] at k2
  have l1 : key .f32 b < 1065353216 := by
    have h1 : (FloatKind.f32.format.order b 1065353216 == some .lt) = true := hlt
    rw [k1] at h1
    simp only [beq_iff_eq, Option.some.injEq] at h1
    exact Int.compare_eq_lt.1 h1
  have l2 : -1065353216 ≤ key .f32 b := by
    have h1 : (FloatKind.f32.format.order b 3212836864 == some .gt || FloatKind.f32.format.order b 3212836864 == some .eq) = true := hge
    rw [k2] at h1
    simp only [Bool.or_eq_true, beq_iff_eq, Option.some.injEq] at h1
    rcases h1 with h | h
    · have := Int.compare_eq_gt.1 h; omega
    · have := Int.compare_eq_eq.1 h; omega
  have hr : rung .f32 b ≤ 1065353216 ∧ (rung .f32 b ≤ 1065353215 ∨ b = 3212836864) := by
    unfold key sg at l1 l2
    cases hs : sgn .f32 b
    · rw [hs] at l1; simp at l1; omega
    · rw [hs] at l2; simp at l2
      have hs2 := hs
      unfold sgn at hs2
      rw [sw32] at hs2
      have hd : b / 2147483648 % 2 = 1 := by simpa using hs2
      have hrr : rung .f32 b = b % 2147483648 := by unfold rung; rw [sw32]
      omega
  obtain ⟨s, h3, h4, h5⟩ := part_sum hb hr.1 hr.2
  have inf64 : FloatKind.f64.format.infRung = 9218868437227405312 := by decide
  have rS : rung .f64 cS = 4611686018158952448 := by decide
  have rT : rung .f64 cT = 4611686018427387904 := by decide
  have rH : rung .f64 cH = 4607182418531581952 := by decide
  have fs : Fin .f64 s := by unfold Fin; omega
  have fT : Fin .f64 cT := by unfold Fin; omega
  have fH : Fin .f64 cH := by unfold Fin; omega
  obtain ⟨h, q1, q2⟩ := div_sign .f64 fs fT (by omega)
  obtain ⟨D, hD⟩ : ∃ D : Nat, D = 1074 := ⟨_, rfl⟩
  obtain ⟨h', q3, q4⟩ := div_size .f64 fs fT fH (by omega) D (by rw [hD]; decide) (by
    have c1 := (zv_le .f64).2 h5
    have c2 : zv .f64 (rung .f64 cS) * 2 ^ D ≤ zv .f64 (rung .f64 cH) * zv .f64 (rung .f64 cT) := by rw [hD]; decide +kernel
    exact Nat.le_trans (Nat.mul_le_mul_right _ c1) c2)
  rw [q1] at q3; cases q3
  have sT : sgn .f64 cT = false := by decide
  rw [h4, sT] at q2
  have fh : Fin .f64 h := by unfold Fin; omega
  obtain ⟨fp1, fp2, fp3⟩ := fd_tab ⟨p, by omega⟩
  have tb := part_tab ⟨p, by omega⟩ hp
  dsimp only at fp1 fp2 fp3 tb
  obtain ⟨m, q5, q6⟩ := mul_sign .f64 fh (show Fin .f64 (fd (p : Nat)) from fp1)
  obtain ⟨m', u, q7, q8, q9⟩ := mul_size .f64 fh (show Fin .f64 (fd (p : Nat)) from fp1) fH (show Fin .f64 (fd (p : Nat)) from fp1) q4 (Nat.le_refl _)
  rw [q5] at q7; cases q7
  rw [q8] at tb
  simp only [Bool.and_eq_true, decide_eq_true_eq] at tb
  have q2' : sgn .f64 h = false := q2
  rw [q2', fp2] at q6
  have fm : rung .f64 m < FloatKind.f64.format.infRung := by omega
  have hw : whl D m < p := by
    unfold whl
    have c3 := (zv_le .f64).2 q9
    have tb1 : zv .f64 (rung .f64 u) < p * 2 ^ D := by rw [hD]; exact tb.1
    clear tb
    exact Nat.div_lt_of_lt_mul (by rw [Nat.mul_comm]; exact Nat.lt_of_le_of_lt c3 tb1)
  have hti := toInt_whole hD fm (by omega)
  have q6' : sgn .f64 m = false := q6
  rw [q6'] at hti
  have aw : ab .f64 (FloatKind.f64.encode (FloatKind.f32.decode b)) = some (FloatKind.f64.encode (FloatKind.f32.decode b)) := ab_wide hb
  refine ⟨s, h, m, whl D m, ?_, q1, q5, ?_, hw⟩
  · have hwd : wide (some b) = some (FloatKind.f64.encode (FloatKind.f32.decode b)) := rfl
    rw [hwd]
    exact h3
  · rw [hti]; simp [sg]
end Fl
end Go.Proofs.Ytcpcfgdncinpgaa

/- Meters: held peaks, both sides. -/
set_option linter.unusedVariables false
set_option linter.unusedSimpArgs false
namespace Go.Proofs.Ytcpcfgdncinpgaa
open Fl Go.RowKit
/-- a size, where a not-a-number counts as nothing -/
def zsO (x : O) : O := if x.isNone then some 0 else sizeO x
def holdH (X : Nat → O) (F : O) (H : O) : Nat → O
  | 0 => H
  | k + 1 => if gtO (zsO (X k)) (mu (holdH X F H k) F) then zsO (X k) else mu (holdH X F H k) F
theorem sizeO_none {x : O} : (sizeO x).isNone = x.isNone := by unfold sizeO; cases x <;> rfl
theorem zs_fv {b : Nat} {X : O} (h : Hid (Fv .f32 b X)) : Hid (Fv .f32 (if X.isNone then 0 else sizeS b) (zsO X)) := by
  unfold zsO
  cases e : X.isNone
  · exact sizeS_fv h
  · exact fv0
theorem self_size {b : Nat} (h : Hid (Fv .f32 b (ab .f32 b))) : FloatKind.f32.format.order (sizeS b) (sizeS b) = if (ab .f32 b).isNone then none else some .eq := by
  rw [order_self, (sizeS_fv h).out.2]; cases ab .f32 b <;> rfl
set_option maxHeartbeats 4000000 in
set_option maxRecDepth 100000 in
theorem specHold_ok (A : Option Addr) (n c : Nat) (xs : List Nat) (q f : Nat) (Q F : O) (w : World) (hA : Fs w w.heap.size A n xs) (hn : n ≤ 256) (hq : Hid (Fv .f32 q Q)) (hf : Hid (Fv .f32 f F)) :
    Calls Try.prog 46 #[.slice A n c, .float .f32 q, .float .f32 f] w (PLB n (fun k => holdH (fun k => ab .f32 (wd xs k)) F Q (k + 1)) true w) := by
  have hfew : decide ((n : Int) ≤ 256) = true := decide_eq_true (by omega)
  have HA := Lib.hid hA
  clear hA
  go_enter Try.func46, Try.ntmps46
  go_wp2_with (first | (go_at_call 50; refine (specFew_any _ _ _ _ _ hfew).mono ?_; rintro e w' ⟨rfl, rfl⟩))
  go_loopw [1, 8, 9] (fun hv v i wr => ∃ k h : Nat, k ≤ n ∧ i = .int .i64 k ∧ hv = .float .f32 h ∧ Hid (Fv .f32 h (holdH (fun k => ab .f32 (wd xs k)) F Q k)) ∧ Rw w.heap.size wr v k (fun k => holdH (fun k => ab .f32 (wd xs k)) F Q (k + 1)) ∧ w.Since w.heap.size wr) (fun _ _ i _ => n - (intOf i).toNat)
  case atStart => exact ⟨0, q, Nat.zero_le _, rfl, rfl, hq, Rw.start w _ (Nat.le_refl _) _, (World.Since.refl _ _).alloc (Nat.le_refl _) _⟩
  case round =>
    obtain ⟨k, h, hk, rfl, rfl, hh, hr, hs⟩ := hrel
    have HR := Lib.hid hr; have HS := Lib.hid hs
    clear hr hs
    by_cases hlt : k < n
    · obtain ⟨g, off, rfl, hg, hc⟩ := HA.out.2.2 (by omega)
      have hcell : wr.cell? ⟨g, off + k, none⟩ = some (.float .f32 (wd xs k)) := (HS.out.cell (a := ⟨g, off + k, none⟩) hg).trans (hc k hlt)
      have hx : Hid (Fv .f32 (wd xs k) (ab .f32 (wd xs k))) := Lib.hid ⟨HA.out.2.1.at_ k, rfl⟩
      have hsz := HS.out.size
      have eH : Hid (holdH (fun k => ab .f32 (wd xs k)) F Q (k + 1) = if gtO (zsO (ab .f32 (wd xs k))) (mu (holdH (fun k => ab .f32 (wd xs k)) F Q k) F) then zsO (ab .f32 (wd xs k)) else mu (holdH (fun k => ab .f32 (wd xs k)) F Q k) F) := Lib.hid rfl
      have hz := zs_fv hx
      have h0 := self_size hx
      clear hc
      go_wp2_with (first | (with_reducible_and_instances refine Lo.wpList_fo _ rfl _ _ _ _ _ rfl _ _ _ _ _ rfl rfl rfl (by assumption) (by assumption) ?_; intro rr nn hrr) | fail)
      have g1 := gt_fv hz hrr
      refine (specSize_any _ _ hx.out.1).mono ?_
      rintro e w' ⟨rfl, rfl⟩
      cases en : (ab .f32 (wd xs k)).isNone
      all_goals
        rw [en] at g1 hz h0
        simp only [if_true, if_false, Bool.false_eq_true] at g1 hz h0
        have eH1 := eH.out
        cases e1 : gtO (zsO (ab .f32 (wd xs k))) (mu (holdH (fun k => ab .f32 (wd xs k)) F Q k) F)
        all_goals
          rw [e1] at g1 eH1
          simp only [if_true, if_false, Bool.false_eq_true] at eH1
          first
            | (have hy : Hid (Fv .f32 rr (holdH (fun k => ab .f32 (wd xs k)) F Q (k + 1))) := by rw [eH1]; exact hrr
               have EH := Lib.hid eH1; clear eH eH1
               go_wp2_with (first | (at_builtin; refine wpList_app1 rfl (.tmp 36) (.tmp 38) rfl w.heap.size _ k _ rfl _ _ rfl (by simp [go_sem]) (by omega) (by simp; omega) hy ((HR.out.drewN _).alloc _) ?_; intro v' w3 hR3 hS3)))
            | (have hy := hz; rw [← eH1] at hy
               have EH := Lib.hid eH1; clear eH eH1
               go_wp2_with (first | (at_builtin; refine wpList_app1 rfl (.tmp 36) (.tmp 38) rfl w.heap.size _ k _ rfl _ _ rfl (by simp [go_sem]) (by omega) (by simp; omega) hy ((HR.out.drewN _).alloc _) ?_; intro v' w3 hR3 hS3)))
          go_roundw
          case rel => exact ⟨k + 1, _, by omega, by go_num, rfl, hy, hR3.out, HS.out.trans (((since_drewN (World.Since.refl _ _) _).alloc hsz _).trans hS3.out)⟩
          case measure => simp [intOf]; omega
    · obtain rfl : k = n := by omega
      obtain ⟨p, cp, rfl, rfl, hg, ha⟩ := HR.out.done
      have HG := Lib.hid hg; have HAA := Lib.hid ha; clear hg ha
      go_wp2
      go_ret2
      exact ⟨p, cp, rfl, rfl, HG.out, HAA.out, HS.out⟩
theorem specHold_no (A : Option Addr) (n c q f : Nat) (w : World) (hn : ¬ n ≤ 256) (G : Nat → O) : Calls Try.prog 46 #[.slice A n c, .float .f32 q, .float .f32 f] w (PLB 0 G false w) := by
  have hfew : decide ((n : Int) ≤ 256) = false := decide_eq_false (by omega)
  go_enter Try.func46, Try.ntmps46
  go_wp2_with (first | (go_at_call 50; refine (specFew_any _ _ _ _ _ hfew).mono ?_; rintro e w' ⟨rfl, rfl⟩))
  go_ret2
  exact PLB.none_ (by (repeat (first | (with_reducible refine Fl.sinDrew ?_) | (with_reducible refine World.Since.drew ?_) | (with_reducible refine Fl.sinSet ?_ ?_; rotate_left) | (with_reducible refine Fl.sinAlloc ?_ ?_; rotate_left) | with_reducible exact World.Since.refl _ _ | with_reducible assumption | (with_reducible refine Fl.sinStep (by with_reducible assumption) ?_))); all_goals (first | omega | (simp; done) | (simp; omega) | (simp [go_sem]; done) | (simp [go_sem]; omega))) _
theorem implHold_no (A : Option Addr) (n c q f : Nat) (w : World) (hn : ¬ n ≤ 256) (G : Nat → O) : Calls Try.prog 47 #[.slice A n c, .float .f32 q, .float .f32 f] w (PLB 0 G false w) := by
  have hfew : decide ((n : Int) ≤ 256) = false := decide_eq_false (by omega)
  go_enter Try.func47, Try.ntmps47
  go_wp2_with (first | (go_at_call 53; refine (implSamples_b _ _ _ _ _ hfew).mono ?_; rintro e w' ⟨rfl, rfl⟩))
  go_ret2
  exact PLB.none_ (by (repeat (first | (with_reducible refine Fl.sinDrew ?_) | (with_reducible refine World.Since.drew ?_) | (with_reducible refine Fl.sinSet ?_ ?_; rotate_left) | (with_reducible refine Fl.sinAlloc ?_ ?_; rotate_left) | with_reducible exact World.Since.refl _ _ | with_reducible assumption | (with_reducible refine Fl.sinStep (by with_reducible assumption) ?_))); all_goals (first | omega | (simp; done) | (simp; omega) | (simp [go_sem]; done) | (simp [go_sem]; omega))) _
theorem cell_own {W : World} {a : Addr} {u v : Value} (h : W.cell? a = some u) : (W.setCell a v).cell? a = some v := by simp [go_sem, h]
/-- a box of one cell -/
def B1 (W : World) (g : Nat) (v : Value) (T : TypeId) : Prop := W.heap[g]? = some (.cells #[v] T (0, 0))
theorem B1.at_ {W : World} {g : Nat} {v : Value} {T : TypeId} (h : B1 W g v T) : W.cell? ⟨g, 0, none⟩ = some v := by unfold B1 at h; simp [World.cell?, h]
theorem B1.free {W : World} {g o : Nat} {v : Value} {T : TypeId} (h : B1 W g v T) : W.frozen? ⟨g, o, none⟩ = false := by unfold B1 at h; simp [World.frozen?, h]
theorem B1.lt {W : World} {g : Nat} {v : Value} {T : TypeId} (h : B1 W g v T) : g < W.heap.size := (Array.getElem?_eq_some_iff.1 h).1
theorem B1.set {W : World} {g : Nat} {u v : Value} {T : TypeId} (h : B1 W g u T) : B1 (W.setCell ⟨g, 0, none⟩ v) g v T := by unfold B1 at h ⊢; simp [World.setCell, Array.getElem?_modify, h]
theorem B1.of {W V : World} {g : Nat} {u : Value} {T : TypeId} (h : B1 W g u T) (e : V.heap[g]? = W.heap[g]?) : B1 V g u T := e.trans h
theorem B1.drewN {W : World} {g : Nat} {u : Value} {T : TypeId} (h : B1 W g u T) (n : Nat) : B1 (W.drewN n) g u T := h
theorem B1.new (W : World) (v : Value) (T : TypeId) : B1 (W.alloc (.cells #[v] T)) W.heap.size v T := Go.Deep.blk_alloc_new _ _
set_option maxHeartbeats 4000000 in
set_option maxRecDepth 100000 in
theorem holdClos_any (x h f gb fb : Nat) (X H F Z : O) (hZ : Hid (Z = if gtO (zsO X) (mu H F) then zsO X else mu H F)) (W : World) (hx : Hid (Fv .f32 x X)) (hh : Hid (Fv .f32 h H)) (hf : Hid (Fv .f32 f F)) (hb : Hid (B1 W gb (.float .f32 h) 23)) (hd : W.cell? ⟨fb, 0, none⟩ = some (.float .f32 f)) (hne : gb ≠ fb) :
    Calls Try.prog 94 #[.float .f32 x, .pointer (some ⟨gb, 0, none⟩), .pointer (some ⟨fb, 0, none⟩)] W fun e W' => ∃ r, e = .returned (.float .f32 r) ∧ Hid (Fv .f32 r Z) ∧ B1 W' gb (.float .f32 r) 23 ∧ On gb W W' := by
  have hc := hb.out.at_; have hz : W.frozen? ⟨gb, 0, none⟩ = false := hb.out.free
  have hs := sizeN_fv hx
  have hxl := hx.out.1
  go_enter Try.func94, Try.ntmps94
  go_wp2_with (first | (with_reducible_and_instances refine Lo.wpList_fo _ rfl _ _ _ _ _ rfl _ _ _ _ _ rfl rfl rfl (by assumption) (by assumption) ?_; intro rr nn hrr) | fail)
  refine (implSize_any _ _ hxl).mono ?_
  rintro e w' ⟨rfl, rfl⟩
  have hn : nanB (sizeN x) = X.isNone := by rw [nanB_ab, hs.out.2, sizeO_none]
  have hsl := hs.out.1
  have hz2 : Hid (Fv .f32 (if X.isNone then 0 else sizeN x) (zsO X)) := by
    unfold zsO
    cases e : X.isNone
    · exact hs
    · exact fv0
  have g1 := gt_fv hz2 hrr
  cases en : X.isNone
  all_goals
    rw [en] at g1 hz2 hn
    simp only [if_true, if_false, Bool.false_eq_true] at g1 hz2
    cases e1 : gtO (zsO X) (mu H F)
    all_goals
      rw [e1] at g1
      have hZ2 := hZ.out
      rw [e1] at hZ2
      simp only [if_true, if_false, Bool.false_eq_true] at hZ2
      subst hZ2
      go_wp2_with (first | (go_at_call 96; refine (patternOf_any _ _).mono ?_; rintro e w' ⟨rfl, rfl⟩) | (go_at_call 97; refine (isNaN_any _ _ hsl).mono ?_; rintro e w' ⟨rfl, rfl⟩; rw [hn]))
      go_ret
      first
        | exact ⟨_, rfl, hz2, ((hb.out.set).drewN _).set, (((On.refl _ _).set _ _).drewN _).set _ _⟩
        | exact ⟨_, rfl, hrr, (hb.out.drewN _).set, (((On.refl _ _).drewN _).set _ _)⟩
set_option maxHeartbeats 4000000 in
set_option maxRecDepth 100000 in
theorem implHold_ok (A : Option Addr) (n c : Nat) (xs : List Nat) (q f : Nat) (Q F : O) (w : World) (hA : Fs w w.heap.size A n xs) (hn : n ≤ 256) (hq : Hid (Fv .f32 q Q)) (hf : Hid (Fv .f32 f F)) :
    Calls Try.prog 47 #[.slice A n c, .float .f32 q, .float .f32 f] w (PLB n (fun k => holdH (fun k => ab .f32 (wd xs k)) F Q (k + 1)) true w) := by
  have hfew : decide ((n : Int) ≤ 256) = true := decide_eq_true (by omega)
  have HA := Lib.hid hA
  clear hA
  obtain ⟨W1, hW1⟩ : ∃ W, W = (w.alloc (.cells #[.float .f32 q] 23)).alloc (.cells #[.float .f32 f] 23) := ⟨_, rfl⟩
  have S1 : Hid (w.Since w.heap.size W1) := Lib.hid (by rw [hW1]; exact ((World.Since.refl _ _).alloc (Nat.le_refl _) _).alloc (by simp) _)
  have z1 : Hid (W1.heap.size = w.heap.size + 2) := Lib.hid (by rw [hW1]; simp)
  have C1 : Hid (B1 W1 w.heap.size (.float .f32 q) 23 ∧ B1 W1 (w.heap.size + 1) (.float .f32 f) 23) := Lib.hid (by rw [hW1]; exact ⟨(B1.new w _ _).of (blk_keep _ (by simp)), by have := B1.new (w.alloc (.cells #[.float .f32 q] 23)) (.float .f32 f) 23; simpa using this⟩)
  go_enter Try.func47, Try.ntmps47
  go_wp2_with (first | (go_at_call 53; refine (implSamples_b _ _ _ _ _ hfew).mono ?_; rintro e w' ⟨rfl, rfl⟩) | fail)
  rw [← hW1]
  have hz1 := z1.out
  refine (results_any A n c xs 94 #[.pointer (some ⟨w.heap.size, 0, none⟩), .pointer (some ⟨w.heap.size + 1, 0, none⟩)] w.heap.size (fun k W => (∃ h, B1 W w.heap.size (.float .f32 h) 23 ∧ Hid (Fv .f32 h (holdH (fun k => ab .f32 (wd xs k)) F Q k))) ∧ B1 W (w.heap.size + 1) (.float .f32 f) 23) (fun k => holdH (fun k => ab .f32 (wd xs k)) F Q (k + 1)) W1 (HA.out.since S1.out) (by omega) hn (fun _ _ => rfl) ?hI ?hst ⟨⟨q, C1.out.1, hq⟩, C1.out.2⟩).mono ?_
  case hI => exact fun k W W' ⟨⟨h, h1, h1'⟩, h6⟩ h2 h3 h4 => ⟨⟨h, h1.of (h4 _ (by omega)), h1'⟩, h6.of (h4 _ (by omega))⟩
  case hst =>
    rintro k q W hk rfl ⟨⟨h, h1, h1'⟩, h6⟩ hs
    exact (holdClos_any _ h f w.heap.size (w.heap.size + 1) _ _ _ _ (Lib.hid rfl) W (Lib.hid ⟨HA.out.2.1.at_ k, rfl⟩) h1' hf (Lib.hid h1) h6.at_ (by omega)).mono fun e W' ⟨r, e1, e2, e3, e4⟩ => ⟨r, e1, e2, ⟨⟨r, e3, e2⟩, h6.of (e4.2 _ h6.lt (by omega))⟩, e4⟩
  rintro e w2 ⟨ys, rfl, hg, ha, _, ho⟩
  rw [hz1] at hg
  have HG := Lib.hid hg; have HAA := Lib.hid ha; have HO := Lib.hid ho; clear hg ha ho
  go_wp2
  go_ret2
  exact ⟨⟨some ⟨w.heap.size + 2, 0, none⟩, n, ys⟩, n, rfl, rfl, HG.out.less (by omega), HAA.out, S1.out.trans (HO.out.since (Nat.le_refl _))⟩
end Go.Proofs.Ytcpcfgdncinpgaa

/- Meters: the power of differences, both sides. -/
set_option linter.unusedVariables false
set_option linter.unusedSimpArgs false
namespace Go.Proofs.Ytcpcfgdncinpgaa
open Fl Go.RowKit
/-- the dot of values with themselves -/
def dotY (X : Nat → O) : Nat → O
  | 0 => some 0
  | k + 1 => ad (dotY X k) (mu (X k) (X k))
theorem dotO_dotY {xs : List Nat} {X : Nat → O} : ∀ {n : Nat}, (∀ k, k < n → ab .f32 (wd xs k) = X k) → dotO xs xs n = dotY X n
  | 0, _ => rfl
  | n + 1, h => by
    show opO .add .f32 (dotO xs xs n) (opO .mul .f32 (ab .f32 (wd xs n)) (ab .f32 (wd xs n))) = ad (dotY X n) (mu (X n) (X n))
    rw [dotO_dotY (n := n) fun k hk => h k (by omega), h n (by omega)]
def difY (X : Nat → O) (lag k : Nat) : O := su (X k) (X (k + lag))
def lagY (X : Nat → O) (lag count : Nat) : O := dotY (difY X lag) count
set_option maxHeartbeats 4000000 in
set_option maxRecDepth 100000 in
theorem specLag_any (A : Option Addr) (n c : Nat) (xs : List Nat) (lag count : Nat) (w : World) (hA : Fs w w.heap.size A n xs) (hn : n ≤ 256) (hl : count + lag ≤ n) :
    Calls Try.prog 66 #[.slice A n c, .int .i64 lag, .int .i64 count] w fun e w' => ∃ r, e = .returned (.float .f32 r) ∧ Hid (Fv .f32 r (lagY (fun k => ab .f32 (wd xs k)) lag count)) ∧ w.Since w.heap.size w' := by
  have HA := Lib.hid hA
  clear hA
  go_enter Try.func66, Try.ntmps66
  go_wp2
  go_loopw [7, 8] (fun v i wr => ∃ k : Nat, k ≤ count ∧ i = .int .i64 k ∧ Rw w.heap.size wr v k (difY (fun k => ab .f32 (wd xs k)) lag) ∧ w.Since w.heap.size wr) (fun _ i _ => count - (intOf i).toNat)
  case atStart => exact ⟨0, Nat.zero_le _, rfl, Rw.start w _ (Nat.le_refl _) _, (World.Since.refl _ _).alloc (Nat.le_refl _) _⟩
  case round =>
    obtain ⟨k, hk, rfl, hr, hs⟩ := hrel
    have HR := Lib.hid hr; have HS := Lib.hid hs
    clear hr hs
    by_cases hlt : k < count
    · obtain ⟨g, off, rfl, hg, hc⟩ := HA.out.2.2 (by omega)
      have d1 : wr.cell? ⟨g, off + k, none⟩ = some (.float .f32 (wd xs k)) := (HS.out.cell (a := ⟨g, off + k, none⟩) hg).trans (hc k (by omega))
      have d2 : wr.cell? ⟨g, off + (k + lag), none⟩ = some (.float .f32 (wd xs (k + lag))) := (HS.out.cell (a := ⟨g, off + (k + lag), none⟩) hg).trans (hc (k + lag) (by omega))
      have x1 : Hid (Fv .f32 (wd xs k) (ab .f32 (wd xs k))) := Lib.hid ⟨HA.out.2.1.at_ k, rfl⟩
      have x2 : Hid (Fv .f32 (wd xs (k + lag)) (ab .f32 (wd xs (k + lag)))) := Lib.hid ⟨HA.out.2.1.at_ (k + lag), rfl⟩
      have hsz := HS.out.size
      clear hc
      go_wp2_with fail
      refine Lo.wp_looseF_tail [26] 12 _ rfl rfl (by kernel_rfl) (by kernel_rfl) (fun _ _ _ h => h) ?_
      simp only [Nat.reduceSub, List.take_succ_cons, List.take_zero, List.drop_succ_cons, List.drop_zero, Act.eval, Act.put, List.setIfInBounds_toArray, List.set_cons_succ, List.set_cons_zero, Array.getD_eq_getD_getElem?, List.getElem?_toArray, List.getElem?_cons_succ, List.getElem?_cons_zero, Option.getD_some]
      repeat (first
        | (refine Lo.wpL_move rfl _ (.inl rfl) (by decide) ?_; simp only [Act.put, List.setIfInBounds_toArray, List.set_cons_succ, List.set_cons_zero])
        | (refine Lo.wpL_move rfl _ (.inr rfl) (by decide) ?_; simp only [Act.put, List.setIfInBounds_toArray, List.set_cons_succ, List.set_cons_zero])
        | (refine Lo.wpL_fop rfl _ _ _ _ rfl rfl (by decide) _ _ _ _ _ rfl rfl (by assumption) (by assumption) ?_; intro rr hrr; simp only [Act.put, List.setIfInBounds_toArray, List.set_cons_succ, List.set_cons_zero])
        | (refine Lo.wpL_wide rfl _ _ _ rfl (by decide) _ _ rfl (by kernel_rfl) (by kernel_rfl) (by assumption) ?_; intro rr hrr; simp only [Act.put, List.setIfInBounds_toArray, List.set_cons_succ, List.set_cons_zero])
        | (refine Lo.wpL_quiet rfl (by decide) (fun K hK => ?_); go_big_quiet_op; (refine hK _ ?_; clear hK K)))
      refine Lo.wpL_nil ?_
      refine Lo.after_fl rfl (by assumption) ?_; intro q26 h26; simp only [Act.put, List.setIfInBounds_toArray, List.set_cons_succ, List.set_cons_zero]
      refine Lo.after_nil ?_; intro nq
      have hy : Hid (Fv .f32 q26 (difY (fun k => ab .f32 (wd xs k)) lag k)) := h26
      go_wp2_with (first | (at_builtin; refine wpList_app1 rfl (.tmp 15) (.tmp 27) rfl w.heap.size _ k _ rfl _ _ rfl (by simp [go_sem]) (by omega) (by simp; omega) hy ((HR.out.drewN _).alloc _) ?_; intro v' w3 hR3 hS3))
      go_roundw
      case rel => exact ⟨k + 1, by omega, by go_num, hR3.out, HS.out.trans (((since_drewN (World.Since.refl _ _) _).alloc hsz _).trans hS3.out)⟩
      case measure => simp [intOf]; omega
    · obtain rfl : k = count := by omega
      obtain ⟨⟨pA, pn, px⟩, cp, rfl, hp, hg, ha⟩ := HR.out.done
      simp only at hp hg; subst hp
      have HG := Lib.hid hg.read; have HAA := Lib.hid ha; clear hg ha
      go_wp2_with fail
      refine (specDot0_any pA pA pn cp cp px px _ _ HG.out HG.out (by omega)).mono ?_
      rintro e w' ⟨r, m, rfl, hv, rfl⟩
      rw [dotO_dotY HAA.out] at hv
      have HV := Lib.hid hv; clear hv
      go_wp2
      go_ret
      exact ⟨r, rfl, HV, since_drewN HS.out m⟩
theorem lag_in {count lag : Int} {n : Nat} (h1 : inB count 1 n = true) (h2 : inB lag 0 (n - count) = true) : ∃ c l : Nat, count = c ∧ lag = l ∧ 1 ≤ c ∧ c + l ≤ n := by
  simp only [inB, Bool.and_eq_true, decide_eq_true_eq] at h1 h2
  exact ⟨count.toNat, lag.toNat, by omega, by omega, by omega, by omega⟩
def okLag (n : Nat) (lag count : Int) : Bool := decide (n ≤ 256) && inB count 1 n && inB lag 0 (n - count)
set_option maxHeartbeats 4000000 in
set_option maxRecDepth 100000 in
theorem specLagP_any (A : Option Addr) (n c : Nat) (xs : List Nat) (lag count : Int) (w : World) (hA : Fs w w.heap.size A n xs) (hn : n ≤ 1048576) (Z : O)
    (hZ : Hid (Z = if okLag n lag count then lagY (fun k => ab .f32 (wd xs k)) lag.toNat count.toNat else some 0)) :
    Calls Try.prog 28 #[.slice A n c, .int .i64 lag, .int .i64 count] w (PVB Z (okLag n lag count) w) := by
  have HA := Lib.hid hA
  clear hA
  cases h0 : decide (n ≤ 256)
  · have hfew : decide ((n : Int) ≤ 256) = false := decide_eq_false (by have := of_decide_eq_false h0; omega)
    have e1 : okLag n lag count = false := by unfold okLag; rw [h0]; rfl
    rw [e1] at hZ ⊢
    obtain rfl := hZ.out
    clear hZ
    go_enter Try.func28, Try.ntmps28
    go_wp2_with (first | (go_at_call 50; refine (specFew_any _ _ _ _ _ hfew).mono ?_; rintro e w' ⟨rfl, rfl⟩))
    go_ret2
    exact ⟨0, rfl, fv0, World.Since.refl _ _⟩
  · have hfew : decide ((n : Int) ≤ 256) = true := decide_eq_true (by have := of_decide_eq_true h0; omega)
    cases h1 : inB count 1 n
    · have e1 : okLag n lag count = false := by unfold okLag; rw [h0, h1]; rfl
      rw [e1] at hZ ⊢
      obtain rfl := hZ.out
      clear hZ
      go_enter Try.func28, Try.ntmps28
      go_wp2_with (first | (go_at_call 50; refine (specFew_any _ _ _ _ _ hfew).mono ?_; rintro e w' ⟨rfl, rfl⟩) | (go_at_call 58; with_reducible refine (specHold_b count 1 n false _ h1).mono ?_; rintro e w' ⟨rfl, rfl⟩))
      go_ret2
      exact ⟨0, rfl, fv0, World.Since.refl _ _⟩
    · have hb : 1 ≤ count ∧ count ≤ n := by simpa [inB] using h1
      have hb1 := hb.1; have hb2 := hb.2
      have hn2 := of_decide_eq_true h0
      cases h2 : inB lag 0 (n - count)
      · have e1 : okLag n lag count = false := by unfold okLag; rw [h0, h1, h2]; rfl
        rw [e1] at hZ ⊢
        obtain rfl := hZ.out
        clear hZ
        go_enter Try.func28, Try.ntmps28
        go_wp2_with (first | (go_at_call 50; refine (specFew_any _ _ _ _ _ hfew).mono ?_; rintro e w' ⟨rfl, rfl⟩) | (go_at_call 58; with_reducible refine (specHold_b count 1 n true _ h1).mono ?_; rintro e w' ⟨rfl, rfl⟩) | (go_at_call 58; with_reducible refine (specHold_b lag 0 (n - count) false _ h2).mono ?_; rintro e w' ⟨rfl, rfl⟩))
        go_ret2
        exact ⟨0, rfl, fv0, World.Since.refl _ _⟩
      · have e1 : okLag n lag count = true := by unfold okLag; rw [h0, h1, h2]; rfl
        rw [e1] at hZ ⊢
        obtain ⟨cN, lN, rfl, rfl, hc1, hcl⟩ := lag_in h1 h2
        obtain rfl := hZ.out
        clear hZ
        simp only [if_true, Int.toNat_natCast]
        have HL := Lib.hid fun v s => specLag_any A n c xs lN cN v s hn2 hcl
        go_enter Try.func28, Try.ntmps28
        go_wp2_with (first | (go_at_call 50; refine (specFew_any _ _ _ _ _ hfew).mono ?_; rintro e w' ⟨rfl, rfl⟩) | (go_at_call 58; with_reducible refine (specHold_b cN 1 n true _ h1).mono ?_; rintro e w' ⟨rfl, rfl⟩) | (go_at_call 58; with_reducible refine (specHold_b lN 0 (n - cN) true _ h2).mono ?_; rintro e w' ⟨rfl, rfl⟩) | fail)
        refine (HL.out _ HA.out).mono ?_
        rintro e w' ⟨r, rfl, hv, hs⟩
        have HS := Lib.hid hs; clear hs
        go_wp2
        go_ret2
        exact ⟨r, rfl, hv, HS.out⟩
end Go.Proofs.Ytcpcfgdncinpgaa

/- Meters: the power of differences, the program. -/
set_option linter.unusedVariables false
set_option linter.unusedSimpArgs false
namespace Go.Proofs.Ytcpcfgdncinpgaa
open Fl Go.RowKit
theorem implPower_any (A : Option Addr) (n c : Nat) (xs : List Nat) (w : World) (B : Nat) (h : Fs w B A n xs) (hn : n ≤ 256) :
    Calls Try.prog 72 #[.slice A n c] w (RetF .f32 (dotO xs xs n) w) := by
  have HD := Lib.hid (fun v (s : Fs v B A n xs) => implDot_any A n c xs A n c xs v B s s (by omega) (by omega))
  rw [if_pos ⟨hn, rfl⟩, decide_eq_true (show n ≤ 256 ∧ n = n from ⟨hn, rfl⟩)] at HD
  have H := Lib.hid h
  clear h
  go_enter Try.func72, Try.ntmps72
  go_wp2_with fail
  refine (HD.out _ H.out).mono ?_
  rintro e w' ⟨r1, m1, rfl, hv, rfl⟩
  have V1 : Hid (Fv .f32 r1 (dotO xs xs n)) := Lib.hid hv
  clear hv
  go_wp2
  go_ret
  exact ⟨r1, m1, rfl, V1.out, rfl⟩
set_option maxHeartbeats 4000000 in
set_option maxRecDepth 100000 in
theorem implLag_any (A : Option Addr) (n c : Nat) (xs : List Nat) (lag count : Nat) (w : World) (hA : Fs w w.heap.size A n xs) (hn : n ≤ 256) (hl : count + lag ≤ n) :
    Calls Try.prog 68 #[.slice A n c, .int .i64 lag, .int .i64 count] w fun e w' => ∃ r, e = .returned (.float .f32 r) ∧ Hid (Fv .f32 r (lagY (fun k => ab .f32 (wd xs k)) lag count)) ∧ w.Since w.heap.size w' := by
  have HA := Lib.hid hA
  have hmk := fun W => run_make_row' (P := Try.prog) 22 23 (.float .f32 0) 4 Try.underlying22 Try.infoF rfl .i64 .i64 count (by omega) (by omega) W
  clear hA
  go_enter Try.func68, Try.ntmps68
  go_wp2
  go_loopw [13] (fun i wr => ∃ (k : Nat) (r : Nat → Nat), k ≤ count ∧ i = .int .i64 k ∧ GCells wr w.heap.size count (partial_ k r) ∧ (∀ j, j < k → Hid (Fv .f32 (r j) (difY (fun k => ab .f32 (wd xs k)) lag j))) ∧ w.Since w.heap.size wr) (fun i _ => count - (intOf i).toNat)
  case atStart =>
    have hr := (World.rowIs_made w (.float .f32 0) count 23)
    obtain ⟨cs, hb, _, hc⟩ := hr
    exact ⟨0, fun _ => 0, Nat.zero_le _, rfl, ⟨cs, hb, fun j hj => hc j hj⟩, fun j hj => by omega, (World.Since.refl _ _).alloc (Nat.le_refl _) _⟩
  case round =>
    obtain ⟨k, r, hk, rfl, hcs, hr, hs⟩ := hrel
    have HC := Lib.hid hcs; have HR := Lib.hid hr; have HS := Lib.hid hs
    clear hcs hr hs
    by_cases hlt : k < count
    · obtain ⟨g, off, rfl, hg, hc⟩ := HA.out.2.2 (by omega)
      have d1 : wr.cell? ⟨g, off + k, none⟩ = some (.float .f32 (wd xs k)) := (HS.out.cell (a := ⟨g, off + k, none⟩) hg).trans (hc k (by omega))
      have d2 : wr.cell? ⟨g, off + (k + lag), none⟩ = some (.float .f32 (wd xs (k + lag))) := (HS.out.cell (a := ⟨g, off + (k + lag), none⟩) hg).trans (hc (k + lag) (by omega))
      have x1 : Hid (Fv .f32 (wd xs k) (ab .f32 (wd xs k))) := Lib.hid ⟨HA.out.2.1.at_ k, rfl⟩
      have x2 : Hid (Fv .f32 (wd xs (k + lag)) (ab .f32 (wd xs (k + lag)))) := Lib.hid ⟨HA.out.2.1.at_ (k + lag), rfl⟩
      have hc2 : wr.cell? ⟨w.heap.size, k, none⟩ = some (partial_ k r k) := HC.out.cell hlt
      have hf2 : wr.frozen? ⟨w.heap.size, k, none⟩ = false := HC.out.free _
      clear hc
      go_wp2_with fail
      refine Lo.wp_loose_tail [28] 14 (by kernel_rfl) (by kernel_rfl) ?_
      simp only [List.take_succ_cons, List.take_zero, List.drop_succ_cons, List.drop_zero]
      repeat (first
        | (refine Lo.wpL_move rfl _ (.inl rfl) (by decide) ?_; simp only [Act.put, List.setIfInBounds_toArray, List.set_cons_succ, List.set_cons_zero])
        | (refine Lo.wpL_move rfl _ (.inr rfl) (by decide) ?_; simp only [Act.put, List.setIfInBounds_toArray, List.set_cons_succ, List.set_cons_zero])
        | (refine Lo.wpL_fop rfl _ _ _ _ rfl rfl (by decide) _ _ _ _ _ rfl rfl (by assumption) (by assumption) ?_; intro rr hrr; simp only [Act.put, List.setIfInBounds_toArray, List.set_cons_succ, List.set_cons_zero])
        | (refine Lo.wpL_wide rfl _ _ _ rfl (by decide) _ _ rfl (by kernel_rfl) (by kernel_rfl) (by assumption) ?_; intro rr hrr; simp only [Act.put, List.setIfInBounds_toArray, List.set_cons_succ, List.set_cons_zero])
        | (refine Lo.wpL_quiet rfl (by decide) (fun K hK => ?_); go_big_quiet_op; (refine hK _ ?_; clear hK K)))
      refine Lo.wpL_nil ?_
      refine Lo.after_fl rfl (by assumption) ?_; intro q28 h28; simp only [Act.put, List.setIfInBounds_toArray, List.set_cons_succ, List.set_cons_zero]
      refine Lo.after_nil ?_; intro nq
      have hy : Hid (Fv .f32 q28 (difY (fun k => ab .f32 (wd xs k)) lag k)) := h28
      go_wp2
      go_roundw
      case rel =>
        refine ⟨k + 1, fun j => if j = k then q28 else r j, by omega, by go_num, ((HC.out.drewN _).set k _).congr (fun j hj => ?_), fun j hj => ?_, (since_drewN HS.out _).setCell (Nat.le_refl _) _⟩
        · unfold partial_
          dsimp only
          by_cases e : j = k
          · rw [if_pos e, if_pos (by omega), if_pos e]
          · rw [if_neg e, if_neg e]
            by_cases e2 : j < k
            · rw [if_pos e2, if_pos (by omega)]
            · rw [if_neg e2, if_neg (by omega)]
        · show Hid (Fv .f32 (if j = k then q28 else r j) _)
          by_cases e : j = k
          · subst e; rw [if_pos rfl]; exact hy
          · rw [if_neg e]; exact HR.out j (by omega)
      case measure => simp [intOf]; omega
    · obtain rfl : k = count := by omega
      have hG : Fs wr wr.heap.size (some ⟨w.heap.size, 0, none⟩) k (lst k r) := by
        refine ⟨lst_len _ _, fun y hy => ?_, fun _ => ?_⟩
        · obtain ⟨i, hi, rfl⟩ := List.mem_map.1 hy
          exact (HR.out i (List.mem_range.1 hi)).out.1
        · refine ⟨_, 0, rfl, HC.out.lt, fun j hj => ?_⟩
          rw [Nat.zero_add, HC.out.cell hj]; unfold partial_ fv; rw [if_pos hj, lst_wd hj]
      have HG := Lib.hid hG; clear hG
      go_wp2_with fail
      refine (implPower_any _ k _ (lst k r) _ _ HG.out (by omega)).mono ?_
      rintro e w' ⟨r1, m, rfl, hv, rfl⟩
      rw [dotO_dotY (X := difY (fun k => ab .f32 (wd xs k)) lag) (fun j hj => by rw [lst_wd hj]; exact (HR.out j hj).out.2)] at hv
      have HV := Lib.hid hv; clear hv
      go_wp2
      go_ret
      exact ⟨r1, rfl, HV, since_drewN HS.out m⟩
theorem implPart_b (x : Int) (b : Bool) (w : World) (h : inB x 1 256 = b) :
    Calls Try.prog 60 #[.int .i64 x] w fun e w' => e = .returned (.bool b) ∧ w.Since w.heap.size w' := by
  go_enter Try.func60, Try.ntmps60
  go_wp2_with (go_at_call 67; refine (allow_any _ _ _ _).mono ?_; rintro e w1 ⟨rfl, hs⟩; rw [h])
  go_ret
  exact ⟨rfl, hs⟩
theorem okLag_impl (n : Nat) (lag count : Int) : okLag n lag count = (decide (n ≤ 256) && inB count 1 256 && inB lag 0 (n - count)) := by
  unfold okLag inB
  rw [Bool.eq_iff_iff]
  simp only [Bool.and_eq_true, decide_eq_true_eq]
  omega
set_option maxHeartbeats 4000000 in
set_option maxRecDepth 100000 in
theorem implLagP_any (A : Option Addr) (n c : Nat) (xs : List Nat) (lag count : Int) (w : World) (hA : Fs w w.heap.size A n xs) (hn : n ≤ 1048576) (Z : O)
    (hZ : Hid (Z = if okLag n lag count then lagY (fun k => ab .f32 (wd xs k)) lag.toNat count.toNat else some 0)) :
    Calls Try.prog 29 #[.slice A n c, .int .i64 lag, .int .i64 count] w (PVB Z (okLag n lag count) w) := by
  have HA := Lib.hid hA
  clear hA
  rw [okLag_impl] at hZ ⊢
  cases h0 : decide (n ≤ 256)
  · have hfew : decide ((n : Int) ≤ 256) = false := decide_eq_false (by have := of_decide_eq_false h0; omega)
    simp only [h0, Bool.false_and, Bool.false_eq_true, if_false] at hZ ⊢
    obtain rfl := hZ.out
    clear hZ
    go_enter Try.func29, Try.ntmps29
    go_wp2_with (first | (go_at_call 53; refine (implSamples_b _ _ _ _ _ hfew).mono ?_; rintro e w' ⟨rfl, rfl⟩))
    go_ret2
    exact ⟨0, rfl, fv0, World.Since.refl _ _⟩
  · have hfew : decide ((n : Int) ≤ 256) = true := decide_eq_true (by have := of_decide_eq_true h0; omega)
    have hn2 := of_decide_eq_true h0
    cases h1 : inB count 1 256
    · simp only [h0, h1, Bool.false_and, Bool.and_false, Bool.false_eq_true, if_false] at hZ ⊢
      obtain rfl := hZ.out
      clear hZ
      go_enter Try.func29, Try.ntmps29
      go_wp2_with (first | (go_at_call 53; refine (implSamples_b _ _ _ _ _ hfew).mono ?_; rintro e w' ⟨rfl, rfl⟩) | (go_at_call 60; refine (implPart_b _ _ _ h1).mono ?_; rintro e w1 ⟨rfl, hs⟩))
      go_ret2
      exact ⟨0, rfl, fv0, hs⟩
    · have hb : 1 ≤ count ∧ count ≤ 256 := by simpa [inB] using h1
      have hb1 := hb.1; have hb2 := hb.2
      cases h2 : inB lag 0 (n - count)
      · simp only [h0, h1, h2, Bool.and_false, Bool.false_eq_true, if_false] at hZ ⊢
        obtain rfl := hZ.out
        clear hZ
        go_enter Try.func29, Try.ntmps29
        go_wp2_with (first | (go_at_call 53; refine (implSamples_b _ _ _ _ _ hfew).mono ?_; rintro e w' ⟨rfl, rfl⟩) | fail)
        refine (implPart_b _ _ _ h1).mono ?_
        rintro e w1 ⟨rfl, hs⟩
        have HS := Lib.hid hs; clear hs
        go_wp2_with fail
        refine (allow_any _ _ _ _).mono ?_
        rintro e w2 ⟨rfl, hs⟩
        rw [h2]
        have HS2 := Lib.hid (since_step HS.out hs); clear hs
        go_wp2
        go_ret2
        exact ⟨0, rfl, fv0, HS2.out⟩
      · simp only [h0, h1, h2, Bool.and_self, if_true] at hZ ⊢
        obtain rfl := hZ.out
        clear hZ
        obtain ⟨cN, rfl⟩ : ∃ m : Nat, count = m := ⟨count.toNat, by omega⟩
        have hb' : 0 ≤ lag ∧ lag ≤ n - cN := by simpa [inB] using h2
        obtain ⟨lN, rfl⟩ : ∃ m : Nat, lag = m := ⟨lag.toNat, by omega⟩
        simp only [Int.toNat_natCast]
        have HL := Lib.hid fun v s => implLag_any A n c xs lN cN v s hn2 (by omega)
        go_enter Try.func29, Try.ntmps29
        go_wp2_with (first | (go_at_call 53; refine (implSamples_b _ _ _ _ _ hfew).mono ?_; rintro e w' ⟨rfl, rfl⟩) | fail)
        refine (implPart_b _ _ _ h1).mono ?_
        rintro e w1 ⟨rfl, hs⟩
        have HS := Lib.hid hs; clear hs
        go_wp2_with fail
        refine (allow_any _ _ _ _).mono ?_
        rintro e w2 ⟨rfl, hs⟩
        rw [h2]
        have HS2 := Lib.hid (since_step HS.out hs); clear hs
        go_wp2_with fail
        refine (HL.out _ (HA.out.now HS2.out)).mono ?_
        rintro e w' ⟨r, rfl, hv, hs⟩
        have HS3 := Lib.hid (since_step HS2.out hs); clear hs
        go_wp2
        go_ret2
        exact ⟨r, rfl, hv, HS3.out⟩
end Go.Proofs.Ytcpcfgdncinpgaa

/- Meters: two channels: how alike, and which is louder. -/
set_option linter.unusedVariables false
set_option linter.unusedSimpArgs false
namespace Go.Proofs.Ytcpcfgdncinpgaa
open Fl Go.RowKit
def okTwo (n m : Nat) : Bool := decide (n ≤ 256) && decide (0 < n) && decide (n = m)
theorem specTwo_b (A C : Option Addr) (n c m d : Nat) (b : Bool) (w : World) (h : okTwo n m = b) :
    Calls Try.prog 84 #[.slice A n c, .slice C m d] w fun e w' => e = .returned (.bool b) ∧ w = w' := by
  subst h
  cases h0 : decide (n ≤ 256)
  · have hfew : decide ((n : Int) ≤ 256) = false := decide_eq_false (by have := of_decide_eq_false h0; omega)
    go_enter Try.func84, Try.ntmps84
    go_wp2_with (first | (go_at_call 50; refine (specFew_any _ _ _ _ _ hfew).mono ?_; rintro e w' ⟨rfl, rfl⟩))
    go_ret
    exact ⟨ret_bool (by unfold okTwo; rw [h0]; rfl), rfl⟩
  · have hfew : decide ((n : Int) ≤ 256) = true := decide_eq_true (by have := of_decide_eq_true h0; omega)
    by_cases h1 : 0 < n
    all_goals
      go_enter Try.func84, Try.ntmps84
      go_wp2_with (first | (go_at_call 50; refine (specFew_any _ _ _ _ _ hfew).mono ?_; rintro e w' ⟨rfl, rfl⟩))
      go_ret
      exact ⟨ret_bool (by unfold okTwo; rw [h0, Bool.eq_iff_iff]; simp; omega), rfl⟩
theorem chanClos_any (C : Option Addr) (m d n gb : Nat) (b : Bool) (W : World) (h : decide (m = n) = b) (hc : W.cell? ⟨gb, 0, none⟩ = some (.int .i64 (n : Int))) :
    Calls Try.prog 119 #[.slice C m d, .pointer (some ⟨gb, 0, none⟩)] W fun e w' => e = .returned (.bool b) ∧ W = w' := by
  subst h
  go_enter Try.func119, Try.ntmps119
  go_wp2
  go_ret
  exact ⟨ret_bool (by rw [Bool.eq_iff_iff]; simp; try omega), rfl⟩
theorem allTwo_any (p gb : Nat) (A C : Option Addr) (n c m d : Nat) (b : Bool) (W : World) (h : decide (m = n) = b) (hb : W.cell? ⟨gb, 0, none⟩ = some (.int .i64 (n : Int))) (h0 : W.cell? ⟨p, 0, none⟩ = some (.slice A n c)) (h1 : W.cell? ⟨p, 1, none⟩ = some (.slice C m d)) :
    Calls Try.prog 120 #[.slice (some ⟨p, 0, none⟩) 2 2, .func (.func 119) #[] #[.pointer (some ⟨gb, 0, none⟩)]] W fun e w' => e = .returned (.bool b) ∧ W = w' := by
  go_enter Try.func120, Try.ntmps120
  go_wp2
  go_loopw [9] (fun i wr => ∃ k : Nat, k ≤ 2 ∧ i = .int .i64 k ∧ (k = 2 → b = true) ∧ W = wr) (fun i _ => 2 - (intOf i).toNat)
  case atStart => exact ⟨0, by omega, rfl, fun h => by omega, rfl⟩
  case round =>
    obtain ⟨k, hk, rfl, hz, rfl⟩ := hrel
    obtain rfl | rfl | rfl : k = 0 ∨ k = 1 ∨ k = 2 := by omega
    · go_wp2_with (go_at_call 119; refine (chanClos_any A n c n gb true _ (decide_eq_true rfl) hb).mono ?_; rintro e w2 ⟨rfl, rfl⟩)
      go_roundw
      case rel => exact ⟨1, by omega, rfl, fun h => by omega, trivial⟩
      case measure => simp [intOf]
    · cases b
      · go_wp2_with (go_at_call 119; refine (chanClos_any C m d n gb false _ h hb).mono ?_; rintro e w2 ⟨rfl, rfl⟩)
        go_ret
        exact ⟨rfl, rfl⟩
      · go_wp2_with (go_at_call 119; refine (chanClos_any C m d n gb true _ h hb).mono ?_; rintro e w2 ⟨rfl, rfl⟩)
        go_roundw
        case rel => exact ⟨2, by omega, rfl, fun h => trivial, trivial⟩
        case measure => simp [intOf]
    · have hb2 := hz rfl
      subst hb2
      go_wp2
      go_ret
      exact ⟨rfl, rfl⟩
set_option maxHeartbeats 4000000 in
set_option maxRecDepth 100000 in
theorem implTwo_b (p : Nat) (A C : Option Addr) (n c m d : Nat) (b : Bool) (W : World) (hp : p < W.heap.size) (h : okTwo n m = b) (h0 : W.cell? ⟨p, 0, none⟩ = some (.slice A n c)) (h1 : W.cell? ⟨p, 1, none⟩ = some (.slice C m d)) (hn : n ≤ 1048576) :
    Calls Try.prog 87 #[.slice (some ⟨p, 0, none⟩) 2 2] W fun e w' => e = .returned (.bool b) ∧ W.Since W.heap.size w' := by
  subst h
  have s1 : W.Since W.heap.size (W.alloc (.cells #[.int .i64 (n : Int)] 3)) := (World.Since.refl _ _).alloc (Nat.le_refl _) _
  cases h5 : inB n 1 256
  · go_enter Try.func87, Try.ntmps87
    go_wp2_with (go_at_call 60; refine (implPart_b _ _ _ h5).mono ?_; rintro e w1 ⟨rfl, hs⟩)
    go_ret
    exact ⟨ret_bool (by unfold okTwo; simp only [inB] at h5; rw [Bool.eq_iff_iff] at h5 ⊢; simp at h5 ⊢; omega), s1.trans (since_mono hs s1.size)⟩
  · go_enter Try.func87, Try.ntmps87
    go_wp2_with fail
    refine (implPart_b _ _ _ h5).mono ?_
    rintro e w1 ⟨rfl, hs⟩
    have c1 : w1.cell? ⟨W.heap.size, 0, none⟩ = some (.int .i64 (n : Int)) := (hs.cell (a := ⟨W.heap.size, 0, none⟩) (by simp)).trans (by simp [go_sem])
    have s2 := s1.trans (since_mono hs s1.size)
    have d0 := (s2.cell (a := ⟨p, 0, none⟩) hp).trans h0
    have d1 := (s2.cell (a := ⟨p, 1, none⟩) hp).trans h1
    have S2 := Lib.hid s2
    clear hs s1 s2
    go_wp2_with fail
    refine (allTwo_any p W.heap.size A C n c m d (decide (m = n)) _ rfl c1 d0 d1).mono ?_
    rintro e w' ⟨rfl, rfl⟩
    go_wp2
    go_ret
    exact ⟨ret_bool (by unfold okTwo; simp only [inB] at h5; rw [Bool.eq_iff_iff] at h5 ⊢; simp at h5 ⊢; omega), S2.out⟩
def likeO (xs ys : List Nat) (n : Nat) : O := qu (dotO xs ys n) (rootO (mu (dotO xs xs n) (dotO ys ys n)))
def balO (L R : O) : O := if eqO (ad R L) (some 0) then some 0 else qu (su R L) (ad R L)
theorem okTwo_yes {n m : Nat} (h : okTwo n m = true) : n ≤ 256 ∧ 0 < n ∧ n = m := by unfold okTwo at h; simpa [and_assoc] using h
set_option maxHeartbeats 4000000 in
set_option maxRecDepth 100000 in
theorem specLike_any (A : Option Addr) (n c : Nat) (xs : List Nat) (C : Option Addr) (m d : Nat) (ys : List Nat) (w : World) (hA : Fs w w.heap.size A n xs) (hn : n ≤ 1048576) (hC : Fs w w.heap.size C m ys) (hm : m ≤ 1048576) (Z : O)
    (hZ : Hid (Z = if okTwo n m then likeO xs ys n else some 0)) :
    Calls Try.prog 37 #[.slice A n c, .slice C m d] w (PVB Z (okTwo n m) w) := by
  have HA := Lib.hid hA; have HC := Lib.hid hC
  clear hA hC
  cases h0 : okTwo n m
  · rw [h0] at hZ
    obtain rfl := hZ.out
    clear hZ
    go_enter Try.func37, Try.ntmps37
    go_wp2_with (go_at_call 84; refine (specTwo_b _ _ _ _ _ _ _ _ h0).mono ?_; rintro e w1 ⟨rfl, rfl⟩)
    go_ret2
    exact ⟨0, rfl, fv0, World.Since.refl _ _⟩
  · rw [h0] at hZ
    simp only [if_true] at hZ
    obtain ⟨h1, h2, rfl⟩ := okTwo_yes h0
    have H0 := Lib.hid h0; clear h0
    go_enter Try.func37, Try.ntmps37
    go_wp2_with (first | (go_at_call 84; refine (specTwo_b _ _ _ _ _ _ _ _ H0.out).mono ?_; rintro e w1 ⟨rfl, rfl⟩) | fail)
    refine (specDot0_any A C n c d xs ys _ _ HA.out HC.out hn).mono ?_
    rintro e w1 ⟨r1, m1, rfl, hv, rfl⟩
    have V1 := Lib.hid hv; clear hv
    go_wp2_with fail
    refine (specDot0_any A A n c c xs xs _ _ (HA.out.drewN m1) (HA.out.drewN m1) hn).mono ?_
    rintro e w1 ⟨r2, m2, rfl, hv, rfl⟩
    have V2 := Lib.hid hv; clear hv
    go_wp2_with fail
    refine (specDot0_any C C n d d ys ys _ _ (HC.out.drewN (m1 + m2)) (HC.out.drewN (m1 + m2)) hn).mono ?_
    rintro e w1 ⟨r3, m3, rfl, hv, rfl⟩
    have V3 := Lib.hid hv; clear hv
    go_wp2_with (first | (with_reducible_and_instances refine Lo.wpList_fo _ rfl _ _ _ _ _ rfl _ _ _ _ _ rfl rfl rfl (by assumption) (by assumption) ?_; intro rr nn hrr) | fail)
    refine (specSqrt_any _ _ hrr.out.1).mono ?_
    rintro e w' ⟨r4, m4, rfl, hv, rfl⟩
    rw [hrr.out.2] at hv
    have V4 := Lib.hid hv; clear hv
    clear hrr
    go_wp2_with (first | (with_reducible_and_instances refine Lo.wpList_fo _ rfl _ _ _ _ _ rfl _ _ _ _ _ rfl rfl rfl (by assumption) (by assumption) ?_; intro rr nn hrr) | fail)
    go_ret2
    exact ⟨_, rfl, by rw [hZ.out]; exact hrr, by (repeat (first | (with_reducible refine Fl.sinDrew ?_) | (with_reducible refine World.Since.drew ?_) | (with_reducible refine Fl.sinSet ?_ ?_; rotate_left) | (with_reducible refine Fl.sinAlloc ?_ ?_; rotate_left) | with_reducible exact World.Since.refl _ _ | with_reducible assumption | (with_reducible refine Fl.sinStep (by with_reducible assumption) ?_))); all_goals (first | omega | (simp; done) | (simp; omega) | (simp [go_sem]; done) | (simp [go_sem]; omega))⟩
set_option maxHeartbeats 4000000 in
set_option maxRecDepth 100000 in
theorem implLike_any (A : Option Addr) (n c : Nat) (xs : List Nat) (C : Option Addr) (m d : Nat) (ys : List Nat) (w : World) (hA : Fs w w.heap.size A n xs) (hn : n ≤ 1048576) (hC : Fs w w.heap.size C m ys) (hm : m ≤ 1048576) (Z : O)
    (hZ : Hid (Z = if okTwo n m then likeO xs ys n else some 0)) :
    Calls Try.prog 38 #[.slice A n c, .slice C m d] w (PVB Z (okTwo n m) w) := by
  have HA := Lib.hid hA; have HC := Lib.hid hC
  clear hA hC
  obtain ⟨W1, hW1⟩ : ∃ W, W = w.alloc (.cells #[.slice A n c, .slice C m d] 22) := ⟨_, rfl⟩
  have S1 : Hid (w.Since w.heap.size W1) := Lib.hid (by rw [hW1]; exact (World.Since.refl _ _).alloc (Nat.le_refl _) _)
  have Z1 : Hid (W1.heap.size = w.heap.size + 1) := Lib.hid (by rw [hW1]; simp)
  have C1 : Hid (W1.cell? ⟨w.heap.size, 0, none⟩ = some (.slice A n c) ∧ W1.cell? ⟨w.heap.size, 1, none⟩ = some (.slice C m d)) := Lib.hid (by rw [hW1]; exact ⟨by simp [go_sem], by simp [go_sem]⟩)
  cases h0 : okTwo n m
  · rw [h0] at hZ
    obtain rfl := hZ.out
    clear hZ
    go_enter Try.func38, Try.ntmps38
    go_wp2_with fail
    rw [← hW1]
    refine (implTwo_b w.heap.size A C n c m d false W1 (by have := Z1.out; omega) h0 C1.out.1 C1.out.2 hn).mono ?_
    rintro e w2 ⟨rfl, hs⟩
    have S2 := Lib.hid (S1.out.trans (since_mono hs S1.out.size)); clear hs
    go_wp2
    go_ret2
    exact ⟨0, rfl, fv0, S2.out⟩
  · rw [h0] at hZ
    simp only [if_true] at hZ
    obtain ⟨h1, h2, rfl⟩ := okTwo_yes h0
    have H0 := Lib.hid h0; clear h0
    go_enter Try.func38, Try.ntmps38
    go_wp2_with fail
    rw [← hW1]
    refine (implTwo_b w.heap.size A C n c n d true W1 (by have := Z1.out; omega) H0.out C1.out.1 C1.out.2 hn).mono ?_
    rintro e w2 ⟨rfl, hs⟩
    have S2 := Lib.hid (S1.out.trans (since_mono hs S1.out.size)); clear hs
    have FA := Lib.hid (HA.out.now S2.out); have FC := Lib.hid (HC.out.now S2.out)
    have HD := Lib.hid (implDot_any A n c xs C n d ys w2 _ FA.out FC.out hn hn)
    rw [if_pos ⟨h1, rfl⟩, decide_eq_true (show n ≤ 256 ∧ n = n from ⟨h1, rfl⟩)] at HD
    go_wp2_with fail
    refine HD.out.mono ?_
    rintro e w1 ⟨r1, m1, rfl, hv, rfl⟩
    have V1 := Lib.hid hv; clear hv HD
    go_wp2_with fail
    refine (implPower_any A n c xs _ _ (FA.out.drewN m1) h1).mono ?_
    rintro e w1 ⟨r2, m2, rfl, hv, rfl⟩
    have V2 := Lib.hid hv; clear hv
    go_wp2_with fail
    refine (implPower_any C n d ys _ _ (FC.out.drewN (m1 + m2)) h1).mono ?_
    rintro e w1 ⟨r3, m3, rfl, hv, rfl⟩
    have V3 := Lib.hid hv; clear hv
    go_wp2_with (first | (with_reducible_and_instances refine Lo.wpList_fo _ rfl _ _ _ _ _ rfl _ _ _ _ _ rfl rfl rfl (by assumption) (by assumption) ?_; intro rr nn hrr) | fail)
    refine (implRoot_any _ _ hrr.out.1).mono ?_
    rintro e w' ⟨r4, m4, rfl, hv, rfl⟩
    rw [hrr.out.2] at hv
    have V4 := Lib.hid hv; clear hv
    clear hrr
    go_wp2_with (first | (with_reducible_and_instances refine Lo.wpList_fo _ rfl _ _ _ _ _ rfl _ _ _ _ _ rfl rfl rfl (by assumption) (by assumption) ?_; intro rr nn hrr) | fail)
    go_ret2
    exact ⟨_, rfl, by rw [hZ.out]; exact hrr, by (repeat (first | (with_reducible refine Fl.sinDrew ?_) | (with_reducible refine since_drewN ?_ _) | with_reducible exact S2.out))⟩
theorem okTwo_mean {n m : Nat} (h : okTwo n m = true) (xs : List Nat) : meanR xs n = meanO xs n ∧ meanB n = true := by
  obtain ⟨h1, h2, rfl⟩ := okTwo_yes h
  exact ⟨meanR_yes h1 h2, by unfold meanB; rw [decide_eq_true h1, decide_eq_true h2]; rfl⟩
set_option maxHeartbeats 4000000 in
set_option maxRecDepth 100000 in
theorem specBal_any (A : Option Addr) (n c : Nat) (xs : List Nat) (C : Option Addr) (m d : Nat) (ys : List Nat) (w : World) (hA : Fs w w.heap.size A n xs) (hn : n ≤ 1048576) (hC : Fs w w.heap.size C m ys) (hm : m ≤ 1048576) (Z : O)
    (hZ : Hid (Z = if okTwo n m then balO (meanO xs n) (meanO ys n) else some 0)) :
    Calls Try.prog 39 #[.slice A n c, .slice C m d] w (PVB Z (okTwo n m) w) := by
  have HA := Lib.hid hA; have HC := Lib.hid hC
  clear hA hC
  cases h0 : okTwo n m
  · rw [h0] at hZ
    obtain rfl := hZ.out
    clear hZ
    go_enter Try.func39, Try.ntmps39
    go_wp2_with (go_at_call 84; refine (specTwo_b _ _ _ _ _ _ _ _ h0).mono ?_; rintro e w1 ⟨rfl, rfl⟩)
    go_ret2
    exact ⟨0, rfl, fv0, World.Since.refl _ _⟩
  · rw [h0] at hZ
    simp only [if_true] at hZ
    have k1 := okTwo_mean h0 xs; have k2 := okTwo_mean h0 ys
    obtain ⟨h1, h2, rfl⟩ := okTwo_yes h0
    have H0 := Lib.hid h0; clear h0
    have HM1 := Lib.hid (specMean_any A n c xs w _ HA.out hn)
    have HM2 := Lib.hid fun k => specMean_any C n d ys (w.drewN k) _ (HC.out.drewN k) hn
    rw [k1.1, k1.2] at HM1
    rw [k2.1, k2.2] at HM2
    clear k1 k2
    go_enter Try.func39, Try.ntmps39
    go_wp2_with (first | (go_at_call 84; refine (specTwo_b _ _ _ _ _ _ _ _ H0.out).mono ?_; rintro e w1 ⟨rfl, rfl⟩) | fail)
    refine HM1.out.mono ?_
    rintro e w1 ⟨r1, m1, rfl, hv, rfl⟩
    have V1 := Lib.hid hv; clear hv
    go_wp2_with fail
    refine (HM2.out m1).mono ?_
    rintro e w1 ⟨r2, m2, rfl, hv, rfl⟩
    have V2 := Lib.hid hv; clear hv
    obtain ⟨L, hL⟩ : ∃ L, L = meanO xs n := ⟨_, rfl⟩
    obtain ⟨R, hR⟩ : ∃ R, R = meanO ys n := ⟨_, rfl⟩
    rw [← hL] at V1 hZ; rw [← hR] at V2 hZ
    clear hL hR HM1 HM2
    cases e1 : eqO (ad R L) (some 0)
    · have e2 : Z = qu (su R L) (ad R L) := by rw [hZ.out]; unfold balO; rw [e1]; rfl
      have E2 := Lib.hid e2
      clear e2 hZ
      have E1 : ∀ r, Hid (Fv .f32 r (opO .add .f32 R L)) → (FloatKind.f32.format.order r 0 == some .eq) = false := fun r hr => (eq_fv hr fv0).trans e1
      have EH := Lib.hid E1; clear E1 e1
      go_wp2_with (first | (with_reducible_and_instances refine Lo.wpList_fo _ rfl .add _ _ _ _ rfl _ _ _ _ _ rfl rfl rfl V2 V1 ?_; intro rr nn hrr; have hne := EH.out _ hrr) | (with_reducible_and_instances refine Lo.wpList_fo _ rfl .sub _ _ _ _ rfl _ _ _ _ _ rfl rfl rfl V2 V1 ?_; intro rs nn hrs) | (with_reducible_and_instances refine Lo.wpList_fo _ rfl .quo _ _ _ _ rfl _ _ _ _ _ rfl rfl rfl hrs (by assumption) ?_; intro rq nn hrq))
      go_ret2
      exact ⟨_, rfl, by rw [E2.out]; exact hrq, by (repeat (first | (with_reducible refine Fl.sinDrew ?_) | (with_reducible refine World.Since.drew ?_) | (with_reducible refine Fl.sinSet ?_ ?_; rotate_left) | (with_reducible refine Fl.sinAlloc ?_ ?_; rotate_left) | with_reducible exact World.Since.refl _ _ | with_reducible assumption | (with_reducible refine Fl.sinStep (by with_reducible assumption) ?_))); all_goals (first | omega | (simp; done) | (simp; omega) | (simp [go_sem]; done) | (simp [go_sem]; omega))⟩
    · have e2 : Z = some 0 := by rw [hZ.out]; unfold balO; rw [e1]; rfl
      subst e2
      clear hZ
      have E1 : ∀ r, Hid (Fv .f32 r (opO .add .f32 R L)) → (FloatKind.f32.format.order r 0 == some .eq) = true := fun r hr => (eq_fv hr fv0).trans e1
      have EH := Lib.hid E1; clear E1 e1
      go_wp2_with (first | (with_reducible_and_instances refine Lo.wpList_fo _ rfl .add _ _ _ _ rfl _ _ _ _ _ rfl rfl rfl V2 V1 ?_; intro rr nn hrr; have heq := EH.out _ hrr))
      go_ret2
      exact ⟨0, rfl, fv0, by (repeat (first | (with_reducible refine Fl.sinDrew ?_) | (with_reducible refine World.Since.drew ?_) | (with_reducible refine Fl.sinSet ?_ ?_; rotate_left) | (with_reducible refine Fl.sinAlloc ?_ ?_; rotate_left) | with_reducible exact World.Since.refl _ _ | with_reducible assumption | (with_reducible refine Fl.sinStep (by with_reducible assumption) ?_))); all_goals (first | omega | (simp; done) | (simp; omega) | (simp [go_sem]; done) | (simp [go_sem]; omega))⟩
set_option maxHeartbeats 4000000 in
set_option maxRecDepth 100000 in
theorem implBal_any (A : Option Addr) (n c : Nat) (xs : List Nat) (C : Option Addr) (m d : Nat) (ys : List Nat) (w : World) (hA : Fs w w.heap.size A n xs) (hn : n ≤ 1048576) (hC : Fs w w.heap.size C m ys) (hm : m ≤ 1048576) (Z : O)
    (hZ : Hid (Z = if okTwo n m then balO (meanO xs n) (meanO ys n) else some 0)) :
    Calls Try.prog 40 #[.slice A n c, .slice C m d] w (PVB Z (okTwo n m) w) := by
  have HA := Lib.hid hA; have HC := Lib.hid hC
  clear hA hC
  obtain ⟨W1, hW1⟩ : ∃ W, W = w.alloc (.cells #[.slice A n c, .slice C m d] 22) := ⟨_, rfl⟩
  have S1 : Hid (w.Since w.heap.size W1) := Lib.hid (by rw [hW1]; exact (World.Since.refl _ _).alloc (Nat.le_refl _) _)
  have Z1 : Hid (W1.heap.size = w.heap.size + 1) := Lib.hid (by rw [hW1]; simp)
  have C1 : Hid (W1.cell? ⟨w.heap.size, 0, none⟩ = some (.slice A n c) ∧ W1.cell? ⟨w.heap.size, 1, none⟩ = some (.slice C m d)) := Lib.hid (by rw [hW1]; exact ⟨by simp [go_sem], by simp [go_sem]⟩)
  cases h0 : okTwo n m
  · rw [h0] at hZ
    obtain rfl := hZ.out
    clear hZ
    go_enter Try.func40, Try.ntmps40
    go_wp2_with fail
    rw [← hW1]
    refine (implTwo_b w.heap.size A C n c m d false W1 (by have := Z1.out; omega) h0 C1.out.1 C1.out.2 hn).mono ?_
    rintro e w2 ⟨rfl, hs⟩
    have S2 := Lib.hid (S1.out.trans (since_mono hs S1.out.size)); clear hs
    go_wp2
    go_ret2
    exact ⟨0, rfl, fv0, S2.out⟩
  · rw [h0] at hZ
    simp only [if_true] at hZ
    have k1 := okTwo_mean h0 xs; have k2 := okTwo_mean h0 ys
    obtain ⟨h1, h2, rfl⟩ := okTwo_yes h0
    have H0 := Lib.hid h0; clear h0
    have HM1 := Lib.hid fun v (s : w.Since w.heap.size v) => implMean_any A n c xs v _ (HA.out.since s) hn
    have HM2 := Lib.hid fun v (s : w.Since w.heap.size v) => implMean_any C n d ys v _ (HC.out.since s) hn
    rw [k1.1, k1.2] at HM1
    rw [k2.1, k2.2] at HM2
    clear k1 k2
    go_enter Try.func40, Try.ntmps40
    go_wp2_with fail
    rw [← hW1]
    refine (implTwo_b w.heap.size A C n c n d true W1 (by have := Z1.out; omega) H0.out C1.out.1 C1.out.2 hn).mono ?_
    rintro e w2 ⟨rfl, hs⟩
    have S2 := Lib.hid (S1.out.trans (since_mono hs S1.out.size)); clear hs
    go_wp2_with fail
    refine (HM1.out _ S2.out).mono ?_
    rintro e w1 ⟨r1, m1, rfl, hv, rfl⟩
    have V1 := Lib.hid hv; clear hv
    go_wp2_with fail
    refine (HM2.out _ (since_drewN S2.out m1)).mono ?_
    rintro e w1 ⟨r2, m2, rfl, hv, rfl⟩
    have V2 := Lib.hid hv; clear hv
    obtain ⟨L, hL⟩ : ∃ L, L = meanO xs n := ⟨_, rfl⟩
    obtain ⟨R, hR⟩ : ∃ R, R = meanO ys n := ⟨_, rfl⟩
    rw [← hL] at V1 hZ; rw [← hR] at V2 hZ
    clear hL hR HM1 HM2
    cases e1 : eqO (ad R L) (some 0)
    · have e2 : Z = qu (su R L) (ad R L) := by rw [hZ.out]; unfold balO; rw [e1]; rfl
      have E2 := Lib.hid e2
      clear e2 hZ
      have E1 : ∀ r, Hid (Fv .f32 r (opO .add .f32 R L)) → (FloatKind.f32.format.order r 0 == some .eq) = false := fun r hr => (eq_fv hr fv0).trans e1
      have EH := Lib.hid E1; clear E1 e1
      go_wp2_with (first | (with_reducible_and_instances refine Lo.wpList_fo _ rfl .add _ _ _ _ rfl _ _ _ _ _ rfl rfl rfl V2 V1 ?_; intro rr nn hrr; have hne := EH.out _ hrr) | (with_reducible_and_instances refine Lo.wpList_fo _ rfl .sub _ _ _ _ rfl _ _ _ _ _ rfl rfl rfl V2 V1 ?_; intro rs nn hrs) | (with_reducible_and_instances refine Lo.wpList_fo _ rfl .quo _ _ _ _ rfl _ _ _ _ _ rfl rfl rfl hrs (by assumption) ?_; intro rq nn hrq))
      go_ret2
      exact ⟨_, rfl, by rw [E2.out]; exact hrq, by (repeat (first | (with_reducible refine Fl.sinDrew ?_) | (with_reducible refine since_drewN ?_ _) | with_reducible exact S2.out))⟩
    · have e2 : Z = some 0 := by rw [hZ.out]; unfold balO; rw [e1]; rfl
      subst e2
      clear hZ
      have E1 : ∀ r, Hid (Fv .f32 r (opO .add .f32 R L)) → (FloatKind.f32.format.order r 0 == some .eq) = true := fun r hr => (eq_fv hr fv0).trans e1
      have EH := Lib.hid E1; clear E1 e1
      go_wp2_with (first | (with_reducible_and_instances refine Lo.wpList_fo _ rfl .add _ _ _ _ rfl _ _ _ _ _ rfl rfl rfl V2 V1 ?_; intro rr nn hrr; have heq := EH.out _ hrr))
      go_ret2
      exact ⟨0, rfl, fv0, by (repeat (first | (with_reducible refine Fl.sinDrew ?_) | (with_reducible refine since_drewN ?_ _) | with_reducible exact S2.out))⟩
end Go.Proofs.Ytcpcfgdncinpgaa

/- Rows of values of one cell each, of any type, that a loop appends to. -/
set_option linter.unusedVariables false
set_option linter.unusedSimpArgs false
namespace Go.Proofs.Ytcpcfgdncinpgaa
open Fl Go.RowKit
/-- v is a row of the loop's own, from block lo on, whose k values are f -/
def Rv (T : TypeId) (lo : Nat) (w : World) (v : Value) (k : Nat) (f : Nat → Value) : Prop := ∃ os, w.ownsRow lo T 1 v k os ∧ ∀ j, j < k → os[j]? = some (f j)
theorem Rv.start (T : TypeId) (w : World) (lo : Nat) (h : lo ≤ w.heap.size) (f : Nat → Value) : Rv T lo (w.alloc (.cells #[] T)) (.slice (some ⟨w.heap.size, 0, none⟩) 0 0) 0 f :=
  ⟨[], ⟨rfl, .inr ⟨w.heap.size, 0, #[], rfl, h, Go.Deep.blk_alloc_new _ _, Nat.le_refl _, Nat.zero_le _, rfl, rfl⟩⟩, fun j hj => by omega⟩
theorem Rv.nil_ (T : TypeId) (w : World) (lo : Nat) (f : Nat → Value) : Rv T lo w (.slice none 0 0) 0 f := ⟨[], ⟨rfl, .inl ⟨rfl, rfl⟩⟩, fun j hj => by omega⟩
theorem Rv.keep {T : TypeId} {lo : Nat} {w w' : World} {v : Value} {k : Nat} {f : Nat → Value} (h : Rv T lo w v k f) (e : ∀ b, lo ≤ b → b < w.heap.size → w'.heap[b]? = w.heap[b]?) : Rv T lo w' v k f := by
  obtain ⟨os, ⟨h1, h2⟩, hs⟩ := h
  refine ⟨os, ⟨h1, ?_⟩, hs⟩
  rcases h2 with h2 | ⟨g, cap, cur, e1, h3, h4, r⟩
  · exact .inl h2
  · exact .inr ⟨g, cap, cur, e1, h3, (e g h3 (Array.getElem?_eq_some_iff.1 h4).1).trans h4, r⟩
theorem Rv.since {T : TypeId} {lo : Nat} {w w' : World} {v : Value} {k : Nat} {f : Nat → Value} (h : Rv T lo w v k f) (s : w.Since w.heap.size w') : Rv T lo w' v k f := h.keep fun b _ hb => s.block b hb
theorem Rv.drewN {T : TypeId} {lo : Nat} {w : World} {v : Value} {k : Nat} {f : Nat → Value} (h : Rv T lo w v k f) (n : Nat) : Rv T lo (w.drewN n) v k f := h
theorem Rv.alloc {T : TypeId} {lo : Nat} {w : World} {v : Value} {k : Nat} {f : Nat → Value} (h : Rv T lo w v k f) (o : Obj) : Rv T lo (w.alloc o) v k f := h.since ((World.Since.refl _ _).alloc (Nat.le_refl _) _)
/-- what it is in the end -/
theorem Rv.done {T : TypeId} {lo : Nat} {w : World} {v : Value} {k : Nat} {f : Nat → Value} (h : Rv T lo w v k f) :
    ∃ (A : Option Addr) (c : Nat), v = .slice A k c ∧ k ≤ c ∧ (0 < k → ∃ g cs, A = some ⟨g, 0, none⟩ ∧ lo ≤ g ∧ w.heap[g]? = some (.cells cs T (0, 0)) ∧ ∀ j, j < k → cs[j]? = some (f j)) := by
  obtain ⟨os, ⟨h1, h2⟩, hf⟩ := h
  rcases h2 with ⟨rfl, rfl⟩ | ⟨g, cap, cur, rfl, hg, hb, hnc, _, hsz, htk⟩
  · exact ⟨none, 0, rfl, Nat.le_refl _, fun h => by omega⟩
  · refine ⟨_, cap, rfl, hnc, fun _ => ⟨g, cur, rfl, hg, hb, fun j hj => ?_⟩⟩
    rw [← hf j hj, ← htk, List.getElem?_take_of_lt (by omega), Array.getElem?_toList]
theorem own_loV {T : TypeId} {w : World} {lo n s : Nat} {v : Value} {xs : List Value} (h : w.ownsRow lo T s v n xs) : ∀ b, v.ownBlock = some b → lo ≤ b := by
  intro b hb
  rcases h.2 with ⟨rfl, _⟩ | ⟨g, cap, cur, rfl, hg, _⟩
  · simp [Value.ownBlock] at hb
  · simp [Value.ownBlock] at hb; omega
theorem wpList_appV {ops : Array Oper} {rest : List Oper} {o : Oper} {a : Act} {Q : Exit → Act → World → Prop} {w : World} (hgd : o.guard = none) (s x : Operand) (S T : TypeId) (z : Value) (bytes : Nat)
    (ho : o.op = .call { callee := .builtin .append, args := #[s, x], argTypes := #[S, S] }) (hund : Try.prog.underlying S = some (.slice T)) (hinfo : (Try.prog.info? T).map (fun i => (i.zero, i.size, i.bytes)) = some (some z, 1, bytes)) (hz : z.cells.size = 1) (hb64 : bytes ≤ 64)
    (lo : Nat) (v : Value) (k : Nat) (f : Nat → Value) (hs : a.eval s = v) (b : Nat) (u : Value)
    (hx : a.eval x = .slice (some ⟨b, 0, none⟩) 1 1) (hc : w.cell? ⟨b, 0, none⟩ = some u) (h1 : u.oneCell' = true) (hk : k < 1048576) (hlo : lo ≤ w.heap.size) (hf : u = f k) (hR : Rv T lo w v k f)
    (h : ∀ v' w', Hid (Rv T lo w' v' (k + 1) f) → Hid (w.Since lo w') → wpList Try.prog ops Q rest (a.put o.dst v') w') : wpList Try.prog ops Q (o :: rest) a w := by
  obtain ⟨os, hown, hj⟩ := hR
  obtain ⟨i0, hi, hz0, hz1, hz2⟩ := info_parts hinfo
  have hlen : os.length = k := by simpa using hown.1
  refine wpList_append_own (P := Try.prog) w hgd s x S ho lo T i0 z 1 bytes hund hi hz0 hz1 hz2 hz (by omega) v k os hs hown ⟨b, 0, none⟩ 1 1 [u] hx rfl ?_ ?_ ?_ ?_ hlo ?_
  · intro j y hjj
    rcases j with _ | j
    · simp at hjj; subst hjj; simpa [Addr.add] using hc
    · simp at hjj
  · intro y hy; simp at hy; subst hy; exact h1
  · unfold maxLen; omega
  · have : (k + 1) * bytes ≤ 1048576 * 64 := Nat.mul_le_mul (by omega) hb64
    omega
  · intro v' w' hown' hg _
    refine h v' w' (Lib.hid ⟨os ++ [u], hown', fun j hjk => ?_⟩) (Lib.hid ⟨hg.os, hg.tape, hg.output, hg.size, fun i hi => ?_⟩)
    · by_cases e : j < k
      · rw [List.getElem?_append_left (by omega)]; exact hj j e
      · obtain rfl : j = k := by omega
        rw [List.getElem?_append_right (by omega), hlen, Nat.sub_self]; simpa using hf
    · refine hg.block i (by omega) fun e => ?_
      have := own_loV hown i e.symm
      omega
end Go.Proofs.Ytcpcfgdncinpgaa

/- Meters: powers of windows: the model. -/
set_option linter.unusedVariables false
set_option linter.unusedSimpArgs false
namespace Go.Proofs.Ytcpcfgdncinpgaa
open Fl Go.RowKit
theorem wd_part {xs : List Nat} {k t j : Nat} (hj : j < t) : wd ((xs.drop k).take t) j = wd xs (k + j) := by
  unfold wd
  simp only [List.getD_eq_getElem?_getD]
  rw [List.getElem?_take_of_lt hj, List.getElem?_drop]
theorem Fs.part {w : World} {B N k t : Nat} {g off : Nat} {xs : List Nat} (h : Fs w B (some ⟨g, off, none⟩) N xs) (hk : k + t ≤ N) : Fs w B (some ⟨g, off + k, none⟩) t ((xs.drop k).take t) := by
  obtain ⟨hl, hs, hc⟩ := h
  refine ⟨by rw [List.length_take, List.length_drop]; omega, fun x hx => hs x (List.mem_of_mem_drop (List.mem_of_mem_take hx)), fun ht => ?_⟩
  obtain ⟨g', off', e, hg, hcc⟩ := hc (by omega)
  cases e
  refine ⟨g, off + k, rfl, hg, fun j hj => ?_⟩
  have := hcc (k + j) (by omega)
  rw [← Nat.add_assoc] at this
  rw [this]
  unfold fv; rw [wd_part hj]
/-- how many windows there are -/
def winN (n size hop : Nat) : Nat := if size ≤ n then (n - size) / hop + 1 else 0
theorem win_iff {n size hop k : Nat} (hh : 1 ≤ hop) : k * hop + size ≤ n ↔ k < winN n size hop := by
  unfold winN
  by_cases h : size ≤ n
  · rw [if_pos h]
    have h1 := Nat.le_div_iff_mul_le (x := k) (y := n - size) (k := hop) (by omega)
    constructor
    · intro h2
      have := h1.2 (by omega)
      omega
    · intro h2
      have := h1.1 (by omega)
      omega
  · rw [if_neg h]
    constructor
    · intro h2; have := Nat.zero_le (k * hop); omega
    · intro h2; omega
theorem winN_le {n size hop : Nat} (hs : 1 ≤ size) : winN n size hop ≤ n := by
  unfold winN
  split
  · have := Nat.div_le_self (n - size) hop
    omega
  · omega
def powY (X : Nat → O) (size hop k : Nat) : O := qu (dotY (fun j => X (k * hop + j)) size) (some (fI size))
def okWin (n : Nat) (size hop : Int) : Bool := decide (n ≤ 256) && inB size 1 256 && inB hop 1 256
set_option maxHeartbeats 4000000 in
set_option maxRecDepth 100000 in
theorem specPows_any (A : Option Addr) (n c : Nat) (xs : List Nat) (size hop : Nat) (w : World) (hA : Fs w w.heap.size A n xs) (hn : n ≤ 256) (hnc : n ≤ c) (hs1 : 1 ≤ size) (hs2 : size ≤ 256) (hh1 : 1 ≤ hop) (hh2 : hop ≤ 256) :
    Calls Try.prog 70 #[.slice A n c, .int .i64 size, .int .i64 hop] w (PL (winN n size hop) (powY (fun k => ab .f32 (wd xs k)) size hop) w) := by
  have HA := Lib.hid hA
  have q2 := fI_fv (size : Nat)
  clear hA
  go_enter Try.func70, Try.ntmps70
  go_wp2
  go_loopw [7, 8] (fun v i wr => ∃ k p : Nat, k ≤ winN n size hop ∧ p ≤ n + hop ∧ Hid (p = k * hop) ∧ i = .int .i64 p ∧ Rw w.heap.size wr v k (powY (fun k => ab .f32 (wd xs k)) size hop) ∧ w.Since w.heap.size wr) (fun _ i _ => n + 1 - (intOf i).toNat)
  case atStart => exact ⟨0, 0, Nat.zero_le _, Nat.zero_le _, Lib.hid (by simp), rfl, Rw.start w _ (Nat.le_refl _) _, (World.Since.refl _ _).alloc (Nat.le_refl _) _⟩
  case round =>
    obtain ⟨k, p, hk, hpb, hp, rfl, hr, hs⟩ := hrel
    have HR := Lib.hid hr; have HS := Lib.hid hs
    clear hr hs
    by_cases hlt : p + size ≤ n
    · have hkw : k < winN n size hop := (win_iff hh1).1 (by rw [← hp.out]; exact hlt)
      obtain ⟨g, off, rfl, hg, hc⟩ := HA.out.2.2 (by omega)
      clear hc
      have hsz := HS.out.size
      have hle : (p : Int) + size ≤ n := by omega
      go_wp2_with fail
      have HP := Lib.hid (Fs.part (HA.out.since HS.out) hlt)
      refine (specDot0_any _ _ size (c - p) (c - p) _ _ _ _ HP.out HP.out (by omega)).mono ?_
      rintro e w' ⟨r1, m1, rfl, hv, rfl⟩
      rw [dotO_dotY (X := fun j => ab .f32 (wd xs (k * hop + j))) (fun j hj => by rw [wd_part hj, hp.out])] at hv
      have V1 := Lib.hid hv; clear hv
      have eY : Hid (powY (fun k => ab .f32 (wd xs k)) size hop k = opO .quo .f32 (dotY (fun j => ab .f32 (wd xs (k * hop + j))) size) (some (fI size))) := Lib.hid rfl
      go_wp2_with (first | (with_reducible_and_instances refine Lo.wpList_fo _ rfl .quo _ _ _ _ rfl _ _ _ _ _ rfl rfl rfl V1 q2 ?_; intro rr nn hrr; rw [← eY.out] at hrr) | (at_builtin; refine wpList_app1 rfl (.tmp 26) (.tmp 33) rfl w.heap.size _ k _ rfl _ _ rfl (by simp [go_sem]) (by have := winN_le (n := n) (hop := hop) hs1; omega) (by simp; omega) hrr ((HR.out.drewN _).alloc _) ?_; intro v' w3 hR3 hS3))
      go_roundw
      case rel => exact ⟨k + 1, p + hop, by omega, by omega, Lib.hid (by rw [hp.out, Nat.add_mul, Nat.one_mul]), by go_num, hR3.out, HS.out.trans (((since_drewN (World.Since.refl _ _) _).alloc hsz _).trans hS3.out)⟩
      case measure => simp [intOf]; omega
    · obtain rfl : k = winN n size hop := by
        by_cases h : k < winN n size hop
        · exact absurd ((win_iff hh1).2 h) (by rw [← hp.out]; exact hlt)
        · omega
      obtain ⟨⟨pA, pn, px⟩, cp, rfl, hpn, hg, ha⟩ := HR.out.done
      simp only at hpn hg; subst hpn
      have HG := Lib.hid hg; have HAA := Lib.hid ha; clear hg ha hk
      have hgt : ¬ ((p : Int) + size ≤ n) := by omega
      go_wp2
      go_ret
      exact ⟨⟨pA, _, px⟩, cp, rfl, rfl, HG.out, HAA.out, HS.out⟩
theorem okWin_yes {n : Nat} {size hop : Int} (h : okWin n size hop = true) : n ≤ 256 ∧ ∃ s p : Nat, size = s ∧ hop = p ∧ 1 ≤ s ∧ s ≤ 256 ∧ 1 ≤ p ∧ p ≤ 256 := by
  unfold okWin inB at h
  simp only [Bool.and_eq_true, decide_eq_true_eq] at h
  exact ⟨by omega, size.toNat, hop.toNat, by omega, by omega, by omega, by omega, by omega, by omega⟩
theorem specWins_b (A : Option Addr) (n c : Nat) (size hop : Int) (b : Bool) (w : World) (h : okWin n size hop = b) :
    Calls Try.prog 69 #[.slice A n c, .int .i64 size, .int .i64 hop] w fun e w' => e = .returned (.bool b) ∧ w = w' := by
  subst h
  unfold okWin
  cases h0 : decide (n ≤ 256)
  · have hfew : decide ((n : Int) ≤ 256) = false := decide_eq_false (by have := of_decide_eq_false h0; omega)
    go_enter Try.func69, Try.ntmps69
    go_wp2_with (first | (go_at_call 50; refine (specFew_any _ _ _ _ _ hfew).mono ?_; rintro e w' ⟨rfl, rfl⟩))
    go_ret
    exact ⟨rfl, rfl⟩
  · have hfew : decide ((n : Int) ≤ 256) = true := decide_eq_true (by have := of_decide_eq_true h0; omega)
    cases h1 : inB size 1 256
    · go_enter Try.func69, Try.ntmps69
      go_wp2_with (first | (go_at_call 50; refine (specFew_any _ _ _ _ _ hfew).mono ?_; rintro e w' ⟨rfl, rfl⟩) | (go_at_call 58; with_reducible refine (specHold_b size 1 256 false _ h1).mono ?_; rintro e w' ⟨rfl, rfl⟩))
      go_ret
      exact ⟨rfl, rfl⟩
    · cases h2 : inB hop 1 256
      all_goals
        go_enter Try.func69, Try.ntmps69
        go_wp2_with (first | (go_at_call 50; refine (specFew_any _ _ _ _ _ hfew).mono ?_; rintro e w' ⟨rfl, rfl⟩) | fail)
        refine (specHold_b size 1 256 true _ h1).mono ?_
        rintro e w' ⟨rfl, rfl⟩
        go_wp2_with fail
        refine (specHold_b hop 1 256 _ _ h2).mono ?_
        rintro e w' ⟨rfl, rfl⟩
        go_wp2
        go_ret
        exact ⟨rfl, rfl⟩
set_option maxHeartbeats 4000000 in
set_option maxRecDepth 100000 in
theorem specWinP_ok (A : Option Addr) (n c : Nat) (xs : List Nat) (size hop : Nat) (w : World) (hA : Fs w w.heap.size A n xs) (hnc : n ≤ c) (h : okWin n size hop = true) :
    Calls Try.prog 30 #[.slice A n c, .int .i64 size, .int .i64 hop] w (PLB (winN n size hop) (powY (fun k => ab .f32 (wd xs k)) size hop) true w) := by
  obtain ⟨hn, s, p, e1, e2, h1, h2, h3, h4⟩ := okWin_yes h
  obtain rfl : size = s := by omega
  obtain rfl : hop = p := by omega
  have HP := Lib.hid (specPows_any A n c xs size hop w hA hn hnc h1 h2 h3 h4)
  go_enter Try.func30, Try.ntmps30
  go_wp2_with (first | (go_at_call 69; refine (specWins_b _ _ _ _ _ _ _ h).mono ?_; rintro e w' ⟨rfl, rfl⟩) | fail)
  refine HP.out.mono ?_
  rintro e w' ⟨⟨pA, pn, px⟩, cp, rfl, hpn, hg, ha, hs⟩
  simp only at hpn hg; subst hpn
  have HG := Lib.hid hg; have HAA := Lib.hid ha; have HS := Lib.hid hs; clear hg ha hs HP
  go_wp2
  go_ret2
  exact ⟨⟨pA, _, px⟩, cp, rfl, rfl, HG.out, HAA.out, HS.out⟩
theorem specWinP_no (A : Option Addr) (n c : Nat) (size hop : Int) (w : World) (h : okWin n size hop = false) (G : Nat → O) :
    Calls Try.prog 30 #[.slice A n c, .int .i64 size, .int .i64 hop] w (PLB 0 G false w) := by
  go_enter Try.func30, Try.ntmps30
  go_wp2_with (first | (go_at_call 69; refine (specWins_b _ _ _ _ _ _ _ h).mono ?_; rintro e w' ⟨rfl, rfl⟩) | fail)
  go_ret2
  exact PLB.none_ (World.Since.refl _ _) _
end Go.Proofs.Ytcpcfgdncinpgaa

/- Meters: powers of windows: the program. -/
set_option linter.unusedVariables false
set_option linter.unusedSimpArgs false
namespace Go.Proofs.Ytcpcfgdncinpgaa
open Fl Go.RowKit
theorem Try.infoSl : (Try.prog.info? 22).map (fun i => (i.zero, i.size, i.bytes)) = some (some (.slice none 0 0), 1, 24) := by kernel_rfl
/-- the window j of a list that lies at A -/
def fwin (A : Option Addr) (size hop j : Nat) : Value := .slice (A.map fun a => ⟨a.block, a.off + j * hop, none⟩) size size
set_option maxHeartbeats 4000000 in
set_option maxRecDepth 100000 in
theorem implWins_any (A : Option Addr) (n c : Nat) (xs : List Nat) (size hop : Nat) (w : World) (hA : Fs w w.heap.size A n xs) (hn : n ≤ 256) (hnc : n ≤ c) (hs1 : 1 ≤ size) (hs2 : size ≤ 256) (hh1 : 1 ≤ hop) (hh2 : hop ≤ 256) :
    Calls Try.prog 74 #[.slice A n c, .int .i64 size, .int .i64 hop] w fun e w' => ∃ v, e = .returned v ∧ Rv 22 w.heap.size w' v (winN n size hop) (fwin A size hop) ∧ w.Since w.heap.size w' := by
  have HA := Lib.hid hA
  clear hA
  go_enter Try.func74, Try.ntmps74
  go_wp2
  go_loopw [7, 8] (fun v i wr => ∃ k p : Nat, k ≤ winN n size hop ∧ p ≤ n + hop ∧ Hid (p = k * hop) ∧ i = .int .i64 p ∧ Rv 22 w.heap.size wr v k (fwin A size hop) ∧ w.Since w.heap.size wr) (fun _ i _ => n + 1 - (intOf i).toNat)
  case atStart => exact ⟨0, 0, Nat.zero_le _, Nat.zero_le _, Lib.hid (by simp), rfl, Rv.nil_ _ _ _ _, World.Since.refl _ _⟩
  case round =>
    obtain ⟨k, p, hk, hpb, hp, rfl, hr, hs⟩ := hrel
    have HR := Lib.hid hr; have HS := Lib.hid hs
    clear hr hs
    by_cases hlt : p + size ≤ n
    · have hkw : k < winN n size hop := (win_iff hh1).1 (by rw [← hp.out]; exact hlt)
      obtain ⟨g, off, rfl, hg, hc⟩ := HA.out.2.2 (by omega)
      clear hc
      have hsz := HS.out.size
      have hle : (p : Int) + size ≤ n := by omega
      have hf : Hid (fwin (some ⟨g, off, none⟩) size hop k = .slice (some ⟨g, off + p, none⟩) size size) := Lib.hid (by unfold fwin; rw [← hp.out]; rfl)
      go_wp2_with (first | (at_builtin; refine wpList_appV rfl (.tmp 18) (.tmp 28) 83 22 (.slice none 0 0) 24 rfl Try.underlying83 Try.infoSl rfl (by decide) w.heap.size _ k _ rfl _ (.slice (some ⟨g, off + p, none⟩) size size) rfl (by simp [go_sem]) rfl (by have := winN_le (n := n) (hop := hop) hs1; omega) (by simp; omega) hf.out.symm (HR.out.alloc _) ?_; intro v' w3 hR3 hS3))
      go_roundw
      case rel => exact ⟨k + 1, p + hop, by omega, by omega, Lib.hid (by rw [hp.out, Nat.add_mul, Nat.one_mul]), by go_num, hR3.out, HS.out.trans (((World.Since.refl _ _).alloc hsz _).trans hS3.out)⟩
      case measure => simp [intOf]; omega
    · obtain rfl : k = winN n size hop := by
        by_cases h : k < winN n size hop
        · exact absurd ((win_iff hh1).2 h) (by rw [← hp.out]; exact hlt)
        · omega
      have hgt : ¬ ((p : Int) + size ≤ n) := by omega
      clear hk
      go_wp2
      go_ret
      exact ⟨_, rfl, HR.out, HS.out⟩
theorem dotO_ex (xs ys : List Nat) (hx : Small xs) (hy : Small ys) : ∀ n, ∃ q, Fv .f32 q (dotO xs ys n)
  | 0 => ⟨0, fv32z⟩
  | n + 1 => by
    obtain ⟨q, hq⟩ := dotO_ex xs ys hx hy n
    obtain ⟨r, hr⟩ := Lo.fv_ex (op := .mul) rfl .f32 _ _ _ _ ⟨hx.at_ n, rfl⟩ ⟨hy.at_ n, rfl⟩
    exact Lo.fv_ex (op := .add) rfl .f32 _ _ _ _ hq hr
theorem power_hc (A : Option Addr) (n c : Nat) (xs : List Nat) (w : World) (B : Nat) (h : Fs w B A n xs) (hn : n ≤ 256) (m : Nat) :
    Calls Try.prog 72 #[.slice A n c] (w.drewN m) fun e' w' => ∃ r k, e' = .returned (.float .f32 r) ∧ Fv .f32 r (dotO xs xs n) ∧ w' = w.drewN k :=
  (implPower_any A n c xs (w.drewN m) B (h.drewN m) hn).mono fun e w' ⟨r, n, h1, h2, h3⟩ => ⟨r, m + n, h1, h2, h3.trans (by simp [World.drewN, Nat.add_assoc])⟩
set_option maxHeartbeats 8000000 in
set_option maxRecDepth 100000 in
theorem winClos_any (A : Option Addr) (size : Nat) (xs : List Nat) (gb : Nat) (W : World) (B : Nat) (h : Fs W B A size xs) (hn : size ≤ 256) (hc : W.cell? ⟨gb, 0, none⟩ = some (.int .i64 (size : Int))) :
    Calls Try.prog 71 #[.slice A size size, .pointer (some ⟨gb, 0, none⟩)] W fun e W' => ∃ r, e = .returned (.float .f32 r) ∧ Hid (Fv .f32 r (qu (dotO xs xs size) (some (fI size)))) ∧ ∃ m, W' = W.drewN m := by
  have H := Lib.hid h
  have q2 := fI_fv (size : Nat)
  have hex := Lib.hid (dotO_ex xs xs h.2.1 h.2.1 size)
  clear h
  go_enter Try.func71, Try.ntmps71
  go_wp2_with fail
  refine Lo.wp_loose_all [5,8,3] (by kernel_rfl) (by kernel_rfl) ?_
  repeat (first
    | (refine Lo.wpL_callF rfl 72 [.tmp 4] [.slice A size size] _ rfl (by decide) (callsEnter 72 Try.f72 _ (by kernel_rfl) (by kernel_rfl) rfl) .f32 _ (Lo.keeps [4] _ rfl (by decide)) (power_hc _ _ _ _ _ _ H.out hn) hex.out ?_; intro rr hrr; simp only [Act.put, List.setIfInBounds_toArray, List.set_cons_succ, List.set_cons_zero])
    | (refine Lo.wpL_move rfl _ (.inl rfl) (by decide) ?_; simp only [Act.put, List.setIfInBounds_toArray, List.set_cons_succ, List.set_cons_zero])
    | (refine Lo.wpL_move rfl _ (.inr rfl) (by decide) ?_; simp only [Act.put, List.setIfInBounds_toArray, List.set_cons_succ, List.set_cons_zero])
    | (refine Lo.wpL_fop rfl _ _ _ _ rfl rfl (by decide) _ _ _ _ _ rfl rfl (by assumption) (by assumption) ?_; intro rr hrr; simp only [Act.put, List.setIfInBounds_toArray, List.set_cons_succ, List.set_cons_zero])
    | (refine Lo.wpL_wide rfl _ _ _ rfl (by decide) _ _ rfl (by kernel_rfl) (by kernel_rfl) (by assumption) ?_; intro rr hrr; simp only [Act.put, List.setIfInBounds_toArray, List.set_cons_succ, List.set_cons_zero])
    | (refine Lo.wpL_quiet rfl (by decide) (fun K hK => ?_); go_big_quiet_op; (refine hK _ ?_; clear hK K)))
  refine Lo.wpL_nil ?_
  refine Lo.after_fl rfl (by assumption) ?_; intro q5 h5; simp only [Act.put, List.setIfInBounds_toArray, List.set_cons_succ, List.set_cons_zero]
  refine Lo.after_fl rfl (by assumption) ?_; intro q8 h8; simp only [Act.put, List.setIfInBounds_toArray, List.set_cons_succ, List.set_cons_zero]
  refine Lo.after_fl rfl (by assumption) ?_; intro q3 h3; simp only [Act.put, List.setIfInBounds_toArray, List.set_cons_succ, List.set_cons_zero]
  refine Lo.after_nil ?_; intro nq
  go_wp2
  go_ret
  exact ⟨q3, rfl, h3, nq, rfl⟩
set_option maxHeartbeats 4000000 in
set_option maxRecDepth 100000 in
theorem resultsW_any (V : Option Addr) (m c : Nat) (f : Nat → Value) (F : FuncId) (caps : Array Value) (Y : Nat → Option Nat) (w : World) (hn : m ≤ 256)
    (hV : 0 < m → ∃ g cs, V = some ⟨g, 0, none⟩ ∧ g < w.heap.size ∧ w.heap[g]? = some (.cells cs 22 (0, 0)) ∧ ∀ j, j < m → cs[j]? = some (f j))
    (hent : ∀ args w, (callFunc F args).run Try.prog w = .ok (.enter F args) w)
    (hstep : ∀ k W, k < m → w.Since w.heap.size W → Calls Try.prog F (#[f k] ++ caps) W fun e W' => ∃ r, e = .returned (.float .f32 r) ∧ Hid (Fv .f32 r (Y k)) ∧ W.Since W.heap.size W') :
    Calls Try.prog 73 #[.slice V m c, .func (.func F) #[] caps] w (PL m Y w) := by
  have HV := Lib.hid hV
  have hmk := fun W => run_make_row' (P := Try.prog) 22 23 (.float .f32 0) 4 Try.underlying22 Try.infoF rfl .i64 .i64 m (by omega) (by omega) W
  have HST := Lib.hid hstep
  clear hV hstep
  go_enter Try.func73, Try.ntmps73
  go_wp2
  go_loopw [13] (fun i wr => ∃ (k : Nat) (r : Nat → Nat), k ≤ m ∧ i = .int .i64 k ∧ GCells wr w.heap.size m (partial_ k r) ∧ (∀ j, j < k → Hid (Fv .f32 (r j) (Y j))) ∧ w.Since w.heap.size wr) (fun i _ => m - (intOf i).toNat)
  case atStart =>
    have hr := (World.rowIs_made w (.float .f32 0) m 23)
    obtain ⟨cs, hb, _, hc⟩ := hr
    exact ⟨0, fun _ => 0, Nat.zero_le _, rfl, ⟨cs, hb, fun j hj => hc j hj⟩, fun j hj => by omega, (World.Since.refl _ _).alloc (Nat.le_refl _) _⟩
  case round =>
    obtain ⟨k, r, hk, rfl, hcs, hr, hs⟩ := hrel
    have HC := Lib.hid hcs; have HR := Lib.hid hr; have HS := Lib.hid hs
    have hsz : w.heap.size < wr.heap.size := hcs.lt
    clear hcs hr hs
    by_cases hlt : k < m
    · obtain ⟨g, cs, rfl, hg, hb, hc⟩ := HV.out (by omega)
      have hcell : wr.cell? ⟨g, k, none⟩ = some (f k) := (HS.out.cell (a := ⟨g, k, none⟩) hg).trans (by simp only [World.cell?, hb]; simpa using hc k hlt)
      clear hc hb
      go_wp2_with fail
      refine (HST.out k wr hlt HS.out).mono ?_
      rintro e w2 ⟨r1, rfl, hr1, hs1⟩
      have HC2 : Hid (GCells w2 w.heap.size m (partial_ k r)) := Lib.hid (by
        obtain ⟨cs2, h1, h2⟩ := HC.out
        exact ⟨cs2, (hs1.block _ hsz).trans h1, h2⟩)
      have hc2 : w2.cell? ⟨w.heap.size, k, none⟩ = some (partial_ k r k) := HC2.out.cell hlt
      have hf2 : w2.frozen? ⟨w.heap.size, k, none⟩ = false := HC2.out.free _
      have HR1 := Lib.hid hr1; have HS1 := Lib.hid (HS.out.trans (since_mono hs1 HS.out.size))
      clear hr1 hs1
      go_wp2
      go_roundw
      case rel =>
        refine ⟨k + 1, fun j => if j = k then r1 else r j, by omega, by go_num, (HC2.out.set k _).congr (fun j hj => ?_), fun j hj => ?_, HS1.out.setCell (Nat.le_refl _) _⟩
        · unfold partial_
          dsimp only
          by_cases e : j = k
          · rw [if_pos e, if_pos (by omega), if_pos e]
          · rw [if_neg e, if_neg e]
            by_cases e2 : j < k
            · rw [if_pos e2, if_pos (by omega)]
            · rw [if_neg e2, if_neg (by omega)]
        · show Hid (Fv .f32 (if j = k then r1 else r j) (Y j))
          by_cases e : j = k
          · subst e; rw [if_pos rfl]; exact HR1.out
          · rw [if_neg e]; exact HR.out j (by omega)
      case measure => simp [intOf]; omega
    · obtain rfl : k = m := by omega
      go_wp2
      go_ret
      refine ⟨⟨some ⟨w.heap.size, 0, none⟩, k, lst k r⟩, k, rfl, rfl, ⟨lst_len _ _, fun y hy => ?_, fun _ => ?_⟩, fun i hi => by rw [lst_wd hi]; exact (HR.out i hi).out.2, HS.out⟩
      · obtain ⟨i, hi, rfl⟩ := List.mem_map.1 hy
        exact (HR.out i (List.mem_range.1 hi)).out.1
      · obtain ⟨cs, hb, hc⟩ := HC.out
        refine ⟨_, cs, rfl, Nat.le_refl _, hb, fun j hj => ?_⟩
        rw [hc j hj]; unfold partial_ fv; rw [if_pos hj, lst_wd hj]
end Go.Proofs.Ytcpcfgdncinpgaa

/- Meters: WindowPowers, the program. -/
set_option linter.unusedVariables false
set_option linter.unusedSimpArgs false
namespace Go.Proofs.Ytcpcfgdncinpgaa
open Fl Go.RowKit
theorem Fs.fwin {w : World} {B n size hop k : Nat} {A : Option Addr} {xs : List Nat} (h : Fs w B A n xs) (hk : k * hop + size ≤ n) (hs : 1 ≤ size) : ∃ A', fwin A size hop k = .slice A' size size ∧ Fs w B A' size ((xs.drop (k * hop)).take size) := by
  obtain ⟨g, off, rfl, _, _⟩ := h.2.2 (by omega)
  exact ⟨_, rfl, Fs.part h hk⟩
set_option maxHeartbeats 8000000 in
set_option maxRecDepth 100000 in
theorem implWinP_ok (A : Option Addr) (n c : Nat) (xs : List Nat) (size hop : Nat) (w : World) (hA : Fs w w.heap.size A n xs) (hnc : n ≤ c) (h : okWin n size hop = true) :
    Calls Try.prog 31 #[.slice A n c, .int .i64 size, .int .i64 hop] w (PLB (winN n size hop) (powY (fun k => ab .f32 (wd xs k)) size hop) true w) := by
  have HA := Lib.hid hA
  obtain ⟨hn, s, p, e1, e2, h1, h2, h3, h4⟩ := okWin_yes h
  obtain rfl : size = s := by omega
  obtain rfl : hop = p := by omega
  clear e1 e2 h hA
  have hfew : decide ((n : Int) ≤ 256) = true := decide_eq_true (by omega)
  have p1 : inB size 1 256 = true := by unfold inB; simp; omega
  have p2 : inB hop 1 256 = true := by unfold inB; simp; omega
  obtain ⟨W1, hW1⟩ : ∃ W, W = w.alloc (.cells #[.int .i64 (size : Int)] 2) := ⟨_, rfl⟩
  have S1 : Hid (w.Since w.heap.size W1) := Lib.hid (by rw [hW1]; exact (World.Since.refl _ _).alloc (Nat.le_refl _) _)
  have z1 : Hid (W1.heap.size = w.heap.size + 1) := Lib.hid (by rw [hW1]; simp)
  have C1 : Hid (W1.cell? ⟨w.heap.size, 0, none⟩ = some (.int .i64 (size : Int))) := Lib.hid (by rw [hW1]; simp [go_sem])
  go_enter Try.func31, Try.ntmps31
  go_wp2_with (first | (go_at_call 53; refine (implSamples_b _ _ _ _ _ hfew).mono ?_; rintro e w' ⟨rfl, rfl⟩) | fail)
  rw [← hW1]
  refine (implPart_b _ _ _ p1).mono ?_
  rintro e w2 ⟨rfl, hs⟩
  have S2 := Lib.hid hs; clear hs
  go_wp2_with fail
  refine (implPart_b _ _ _ p2).mono ?_
  rintro e w3 ⟨rfl, hs⟩
  have S3 := Lib.hid (since_step S2.out hs); clear hs S2
  have S3' := Lib.hid (S1.out.trans (since_mono S3.out S1.out.size))
  have c3 : w3.cell? ⟨w.heap.size, 0, none⟩ = some (.int .i64 (size : Int)) := (S3.out.cell (a := ⟨w.heap.size, 0, none⟩) (by have := z1.out; show w.heap.size < _; omega)).trans C1.out
  have HW := Lib.hid (implWins_any A n c xs size hop w3 (HA.out.now S3'.out) hn hnc h1 h2 h3 h4)
  go_wp2_with fail
  refine HW.out.mono ?_
  rintro e w4 ⟨v, rfl, hv, hs⟩
  obtain ⟨V, cV, rfl, hcV, hcells⟩ := hv.done
  have z3 := S3'.out.size
  have z13 : w.heap.size < w3.heap.size := by have := z1.out; have := S3.out.size; omega
  have S4 := Lib.hid (S3'.out.trans (since_mono hs z3))
  have c4 : Hid (w4.cell? ⟨w.heap.size, 0, none⟩ = some (.int .i64 (size : Int))) := Lib.hid ((hs.cell (a := ⟨w.heap.size, 0, none⟩) z13).trans c3)
  have z4 := hs.size
  have HCE : Hid (0 < winN n size hop → ∃ g cs, V = some ⟨g, 0, none⟩ ∧ g < w4.heap.size ∧ w4.heap[g]? = some (.cells cs 22 (0, 0)) ∧ ∀ j, j < winN n size hop → cs[j]? = some (fwin A size hop j)) := Lib.hid fun h => by
    obtain ⟨g, cs, e1, _, e3, e4⟩ := hcells h
    exact ⟨g, cs, e1, (Array.getElem?_eq_some_iff.1 e3).1, e3, e4⟩
  have h16 := winN_le (n := n) (hop := hop) h1
  clear hv hs hcells HW
  have HRW := Lib.hid (resultsW_any V (winN n size hop) cV (fwin A size hop) 71 #[.pointer (some ⟨w.heap.size, 0, none⟩)] (powY (fun k => ab .f32 (wd xs k)) size hop) w4 (by omega) HCE.out (fun _ _ => rfl) (fun k W hk hs => by
    obtain ⟨A', e1, hF⟩ := Fs.fwin (HA.out.since (S4.out.trans (since_mono hs S4.out.size))) ((win_iff h3).2 hk) h1
    rw [e1]
    refine (winClos_any A' size _ w.heap.size W _ hF h2 ((hs.cell (a := ⟨w.heap.size, 0, none⟩) (by show w.heap.size < _; omega)).trans c4.out)).mono ?_
    rintro e W' ⟨r, rfl, hr, m, rfl⟩
    rw [dotO_dotY (X := fun j => ab .f32 (wd xs (k * hop + j))) (fun j hj => by rw [wd_part hj])] at hr
    exact ⟨r, rfl, hr, since_drewN (World.Since.refl _ _) m⟩))
  go_wp2_with fail
  refine HRW.out.mono ?_
  rintro e w5 ⟨⟨pA, pn, px⟩, cp, rfl, hpn, hg, ha, hs⟩
  simp only at hpn hg; subst hpn
  have HG := Lib.hid (hg.less S4.out.size); have HAA := Lib.hid ha; have S5 := Lib.hid (S4.out.trans (since_mono hs S4.out.size)); clear hg ha hs HRW
  go_wp2
  go_ret2
  exact ⟨⟨pA, _, px⟩, cp, rfl, rfl, HG.out, HAA.out, S5.out⟩
end Go.Proofs.Ytcpcfgdncinpgaa

/- slices.Clone, slices.IndexFunc, slices.DeleteFunc of floats. -/
set_option linter.unusedVariables false
set_option linter.unusedSimpArgs false
namespace Go.Proofs.Ytcpcfgdncinpgaa
open Fl Go.RowKit
set_option maxHeartbeats 4000000 in
set_option maxRecDepth 100000 in
theorem clone2_any (A : Option Addr) (n c : Nat) (xs : List Nat) (w : World) (hA : Fs w w.heap.size A n xs) (hn : n ≤ 256) :
    Calls Try.prog 108 #[.slice A n c] w fun e w' => ∃ (A' : Option Addr) (c' : Nat) (ys : List Nat), e = .returned (.slice A' n c') ∧ n ≤ c' ∧ ((A' = none → n = 0 ∧ c' = 0) ∧ ∀ a, A' = some a → ∃ g, a = ⟨g, 0, none⟩) ∧ Gs 23 w' w.heap.size A' n ys ∧ (∀ j, j < n → ab .f32 (wd ys j) = ab .f32 (wd xs j)) ∧ w.Since w.heap.size w' := by
  have hq := fun W => Lib.run_eql_slice_nil W 22 23 A n c 0 0 Try.underlying22
  have HA := Lib.hid hA; clear hA
  cases A with
  | none =>
    obtain rfl : n = 0 := by
      rcases Nat.eq_zero_or_pos n with h | h
      · exact h
      · obtain ⟨g, off, e, _⟩ := HA.out.2.2 h; cases e
    go_enter Try.func108, Try.ntmps108
    go_wp2
    go_ret
    exact ⟨none, 0, [], rfl, Nat.le_refl _, ⟨fun _ => by simp, fun a h => by cases h⟩, Gs.nil_, fun j hj => by omega, World.Since.refl _ _⟩
  | some ad =>
    go_enter Try.func108, Try.ntmps108
    go_wp2_with (at_builtin; refine wpList_appN rfl (.tmp 5) (.tmp 6) rfl w.heap.size _ 0 (fun j => ab .f32 (wd xs j)) rfl _ _ _ xs _ rfl (by simp) (Lib.hid (HA.out.since ((World.Since.refl _ _).alloc (Nat.le_refl _) _))) (fun j hj => by rw [Nat.zero_add]) (by omega) (by simp) (Rw.start w _ (Nat.le_refl _) _) ?_; intro v1 wa hRa hSa; have Ha := Lib.hid (((World.Since.refl w.heap.size w).alloc (Nat.le_refl _) _).trans hSa.out); clear hSa; obtain ⟨pA, cq, px, rfl, hcq, hno, hso, hgp, hap⟩ := hRa.out.end_; have HNS := Lib.hid hso; have HNO := Lib.hid hno; have GP := Lib.hid hgp; have AP := Lib.hid hap; have HCQ := Lib.hid hcq; clear hgp hap hRa hno hso hcq)
    go_ret
    exact ⟨pA, cq, px, rfl, by have := HCQ.out; omega, ⟨fun h => by have := HNO.out h; omega, fun a h => by obtain ⟨g, e, _⟩ := HNS.out a h; exact ⟨g, e⟩⟩, by first | exact GP.out | (have := GP.out; rwa [Nat.zero_add] at this), fun j hj => AP.out j (by first | exact hj | (show j < 0 + n; omega)), Ha.out⟩
set_option maxHeartbeats 4000000 in
set_option maxRecDepth 100000 in
/-- the first place at which a closure says yes -/
theorem indexF_any (A : Option Addr) (n c : Nat) (xs : List Nat) (F : FuncId) (caps : Array Value) (p : Nat → Bool) (w : World) (B : Nat) (h : Fs w B A n xs) (hn : n ≤ 1048576)
    (hent : ∀ args w, (callFunc F args).run Try.prog w = .ok (.enter F args) w)
    (hstep : ∀ k, k < n → Calls Try.prog F (#[.float .f32 (wd xs k)] ++ caps) w fun e w' => e = .returned (.bool (p k)) ∧ w = w') :
    Calls Try.prog 104 #[.slice A n c, .func (.func F) #[] caps] w fun e w' => ((e = .returned (.int .i64 (-1)) ∧ ∀ j, j < n → p j = false) ∨ ∃ k : Nat, k < n ∧ e = .returned (.int .i64 k) ∧ p k = true ∧ ∀ j, j < k → p j = false) ∧ w = w' := by
  have H := Lib.hid h; have HST := Lib.hid hstep
  clear h hstep
  go_enter Try.func104, Try.ntmps104
  go_wp2
  go_loopw [8] (fun i wr => ∃ k : Nat, k ≤ n ∧ i = .int .i64 k ∧ (∀ j, j < k → p j = false) ∧ w = wr) (fun i _ => n - (intOf i).toNat)
  case atStart => exact ⟨0, Nat.zero_le _, rfl, fun j hj => by omega, rfl⟩
  case round =>
    obtain ⟨k, hk, rfl, hz, rfl⟩ := hrel
    have HZ := Lib.hid hz; clear hz
    by_cases hlt : k < n
    · obtain ⟨g, off, rfl, hg, hc⟩ := H.out.2.2 (by omega)
      have hcell : w.cell? ⟨g, off + k, none⟩ = some (.float .f32 (wd xs k)) := hc k hlt
      clear hc
      have HSK := Lib.hid (HST.out k hlt)
      cases hp : p k
      · rw [hp] at HSK
        have HP := Lib.hid hp; clear hp
        go_wp2_with fail
        refine HSK.out.mono ?_
        rintro e w' ⟨rfl, rfl⟩
        go_wp2
        go_roundw
        case rel =>
          refine ⟨k + 1, by omega, by go_num, fun j hj => ?_, trivial⟩
          by_cases e : j = k
          · subst e; exact HP.out
          · exact HZ.out j (by omega)
        case measure => simp [intOf]; omega
      · rw [hp] at HSK
        have HP := Lib.hid hp; clear hp
        go_wp2_with fail
        refine HSK.out.mono ?_
        rintro e w' ⟨rfl, rfl⟩
        go_wp2
        go_ret
        exact ⟨.inr ⟨k, hlt, rfl, HP.out, HZ.out⟩, rfl⟩
    · obtain rfl : k = n := by omega
      go_wp2
      go_ret
      exact ⟨.inl ⟨rfl, HZ.out⟩, rfl⟩
/-- the words that are kept of the first ones -/
def keptN (keep : Nat → Bool) (ys : List Nat) : Nat → List Nat
  | 0 => []
  | k + 1 => if keep k then keptN keep ys k ++ [wd ys k] else keptN keep ys k
theorem kept_len (keep : Nat → Bool) (ys : List Nat) : ∀ k, (keptN keep ys k).length ≤ k
  | 0 => Nat.le_refl _
  | k + 1 => by
    have := kept_len keep ys k
    unfold keptN
    split
    · simp; omega
    · omega
theorem kept_all {keep : Nat → Bool} {ys : List Nat} : ∀ {k : Nat}, (∀ j, j < k → keep j = true) → keptN keep ys k = (List.range k).map (wd ys)
  | 0, _ => rfl
  | k + 1, h => by
    unfold keptN
    rw [if_pos (h k (by omega)), kept_all fun j hj => h j (by omega), List.range_succ, List.map_append]; rfl
theorem kept_small {keep : Nat → Bool} {ys : List Nat} (h : Small ys) : ∀ k, Small (keptN keep ys k)
  | 0 => fun x hx => by cases hx
  | k + 1 => by
    unfold keptN
    split
    · exact (kept_small h k).snoc (h.at_ k)
    · exact kept_small h k
theorem wd_range {ys : List Nat} {k t : Nat} (h : t < k) : wd ((List.range k).map (wd ys)) t = wd ys t := by
  unfold wd; simp [List.getD_eq_getElem?_getD, h]
theorem GCells.setN {g : Nat} {f : Nat → Value} {m : Nat} : ∀ (vs : List Value) (o : Nat) (w : World), GCells w g m f → m ≤ o → GCells (w.setCells g o vs) g m f
  | [], _, _, h, _ => h
  | v :: r, o, w, h, ho => GCells.setN r (o + 1) _ ((h.set o v).congr fun j hj => by show (if j = o then v else f j) = f j; rw [if_neg (by omega)]) (by omega)
theorem On.setN {g : Nat} {a : World} : ∀ (vs : List Value) (o : Nat) (b : World), On g a b → On g a (b.setCells g o vs)
  | [], _, _, h => h
  | v :: r, o, b, h => On.setN r (o + 1) _ (h.set o v)
theorem GCells.less {w : World} {g n m : Nat} {f : Nat → Value} (h : GCells w g n f) (hm : m ≤ n) : GCells w g m f := by
  obtain ⟨cs, h1, h2⟩ := h
  exact ⟨cs, h1, fun j hj => h2 j (by omega)⟩
theorem GCells.toGs {w : World} {g n lo : Nat} {ys : List Nat} (h : GCells w g n (fv ys)) (hl : ys.length = n) (hs : Small ys) (hg : lo ≤ g) : Gs 23 w lo (some ⟨g, 0, none⟩) n ys :=
  ⟨hl, hs, fun _ => by obtain ⟨cs, h1, h2⟩ := h; exact ⟨g, cs, rfl, hg, h1, h2⟩⟩
set_option maxHeartbeats 8000000 in
set_option maxRecDepth 100000 in
theorem deleteF_any (g n c : Nat) (ys : List Nat) (F : FuncId) (caps : Array Value) (keep : Nat → Bool) (w : World) (hG : GCells w g n (fv ys)) (hl : ys.length = n) (hsm : Small ys) (hnc : n ≤ c) (hn : n ≤ 256)
    (hent : ∀ args w, (callFunc F args).run Try.prog w = .ok (.enter F args) w)
    (hstep : ∀ k W, k < n → On g w W → Calls Try.prog F (#[.float .f32 (wd ys k)] ++ caps) W fun e w' => e = .returned (.bool (!keep k)) ∧ W = w') :
    Calls Try.prog 107 #[.slice (some ⟨g, 0, none⟩) n c, .func (.func F) #[] caps] w fun e w' => e = .returned (.slice (some ⟨g, 0, none⟩) (keptN keep ys n).length c) ∧ Gs 23 w' g (some ⟨g, 0, none⟩) (keptN keep ys n).length (keptN keep ys n) ∧ On g w w' := by
  have HG := Lib.hid hG
  have hF : Fs w w.heap.size (some ⟨g, 0, none⟩) n ys := (hG.toGs hl hsm (Nat.le_refl _)).read
  have HI := Lib.hid (indexF_any (some ⟨g, 0, none⟩) n c ys F caps (fun k => !keep k) w _ hF (by omega) hent (fun k hk => hstep k w hk (On.refl _ _)))
  have HST := Lib.hid hstep
  have HSM := Lib.hid hsm
  clear hG hF hstep hsm
  go_enter Try.func107, Try.ntmps107
  go_wp2_with fail
  refine HI.out.mono ?_
  rintro e w' ⟨h, rfl⟩
  clear HI
  rcases h with ⟨rfl, hall⟩ | ⟨k0, hk0, rfl, hdel, hfirst⟩
  · have e1 : keptN keep ys n = ys := by
      rw [kept_all fun j hj => by have := hall j hj; simpa using this]
      apply List.ext_getElem
      · simp [hl]
      · intro i h1 h2; simp [wd, List.getD_eq_getElem?_getD, h2]
    have E1 := Lib.hid e1; clear e1 hall
    go_wp2
    go_ret
    rw [E1.out, hl]
    exact ⟨rfl, HG.out.toGs hl HSM.out (Nat.le_refl _), On.refl _ _⟩
  · have hne1 : ((k0 : Int) == -1) = false := beq_eq_false_iff_ne.2 (by omega)
    have K0 : Hid (keptN keep ys (k0 + 1) = (List.range k0).map (wd ys)) := Lib.hid (by
      unfold keptN
      rw [if_neg (by simpa using hdel), kept_all fun j hj => by have := hfirst j hj; simpa using this])
    clear hdel hfirst
    go_wp2_with fail
    go_loopw [5, 6, 7] (fun iv jv _ wr => ∃ (j i : Nat) (r : Nat → Nat), j ≤ n ∧ i + 1 ≤ j ∧ iv = .int .i64 i ∧ jv = .int .i64 j ∧ Hid (i = (keptN keep ys j).length) ∧ GCells wr g n (fun t => .float .f32 (r t)) ∧ (∀ t, t < i → r t = wd (keptN keep ys j) t) ∧ (∀ t, j ≤ t → t < n → r t = wd ys t) ∧ On g w wr) (fun _ jv _ _ => n - (intOf jv).toNat)
    case atStart => exact ⟨k0 + 1, k0, wd ys, by omega, by omega, rfl, by go_num, Lib.hid (by rw [K0.out]; simp), HG.out, fun t ht => by rw [K0.out, wd_range ht], fun t _ _ => rfl, On.refl _ _⟩
    case round =>
      obtain ⟨j, i, r, hj, hij, rfl, rfl, hi, hg, hlo, hhi, hon⟩ := hrel
      have HGC := Lib.hid hg; have HL := Lib.hid hlo; have HH := Lib.hid hhi; have HO := Lib.hid hon
      clear hg hlo hhi hon K0
      by_cases hlt : j < n
      · have cj : wr.cell? ⟨g, j, none⟩ = some (.float .f32 (wd ys j)) := (HGC.out.cell hlt).trans (by rw [HH.out j (Nat.le_refl _) hlt])
        have ci : wr.cell? ⟨g, i, none⟩ = some (.float .f32 (r i)) := HGC.out.cell (by omega)
        have fi : wr.frozen? ⟨g, i, none⟩ = false := HGC.out.free _
        have HSJ := Lib.hid (HST.out j wr hlt HO.out)
        cases hk : keep j
        · rw [hk] at HSJ
          have eK : Hid (keptN keep ys (j + 1) = keptN keep ys j) := Lib.hid (by rw [keptN, hk]; rfl)
          clear hk
          go_wp2_with fail
          refine HSJ.out.mono ?_
          rintro e w' ⟨rfl, rfl⟩
          go_wp2
          go_roundw
          case rel => exact ⟨j + 1, i, r, by omega, by omega, rfl, by go_num, Lib.hid (by rw [eK.out]; exact hi.out), HGC.out, fun t ht => by rw [eK.out]; exact HL.out t ht, fun t h1 h2 => HH.out t (by omega) h2, HO.out⟩
          case measure => simp [intOf]; omega
        · rw [hk] at HSJ
          have eK : Hid (keptN keep ys (j + 1) = keptN keep ys j ++ [wd ys j]) := Lib.hid (by rw [keptN, hk]; rfl)
          clear hk
          go_wp2_with fail
          refine HSJ.out.mono ?_
          rintro e w' ⟨rfl, rfl⟩
          go_wp2
          go_roundw
          case rel =>
            refine ⟨j + 1, i + 1, fun t => if t = i then wd ys j else r t, by omega, by omega, by go_num, by go_num, Lib.hid (by rw [eK.out, List.length_append, ← hi.out]; rfl), (HGC.out.set i _).congr (fun t ht => ?_), fun t ht => ?_, fun t h1 h2 => ?_, HO.out.set _ _⟩
            · dsimp only; split <;> rfl
            · show (if t = i then wd ys j else r t) = _
              rw [eK.out, wd_snoc hi.out.symm]
              by_cases e : t = i
              · subst e; rw [if_pos rfl, if_neg (by omega), if_pos rfl]
              · rw [if_neg e, if_pos (by omega)]; exact HL.out t (by omega)
            · show (if t = i then wd ys j else r t) = _
              rw [if_neg (by omega)]; exact HH.out t (by omega) h2
          case measure => simp [intOf]; omega
      · obtain rfl : j = n := by omega
        have hcl : ∀ ty, (Builtin.clear_ #[ 22 ] ty #[.slice (some ⟨g, i, none⟩) (j - i) (c - i)]).run Try.prog wr = .ok (.tuple #[]) (wr.setCells g i (List.replicate (j - i) (.float .f32 0))) :=
          fun ty => Lib.run_clear_slice wr _ _ ty _ Try.underlying22 (fun _ => rfl) rfl rfl g i _ _ (by omega) (fun t ht => by rw [HGC.out.cell (by omega)]; rfl) (fun t ht => HGC.out.free _)
        have HC := Lib.hid (GCells.setN (List.replicate (j - i) (.float .f32 0)) i wr (HGC.out.less (m := i) (by omega)) (Nat.le_refl _))
        have HO2 := Lib.hid (On.setN (List.replicate (j - i) (.float .f32 0)) i wr HO.out)
        go_wp2
        go_ret
        rw [← hi.out]
        refine ⟨rfl, (HC.out.congr fun t ht => ?_).toGs hi.out.symm (kept_small HSM.out _) (Nat.le_refl _), HO2.out⟩
        unfold fv; rw [HL.out t ht]
end Go.Proofs.Ytcpcfgdncinpgaa

/- Meters: loudness: numbers that are at least a floor, and means. -/
set_option linter.unusedVariables false
set_option linter.unusedSimpArgs false
namespace Go.Proofs.Ytcpcfgdncinpgaa
open Fl Go.RowKit
def absL (xs : List Nat) : List O := xs.map (ab .f32)
def keptO (T : O) (Y : List O) : List O := Y.filter fun y => geO y T
def sumL (Y : List O) : O := Y.foldl (fun s y => ad s y) (some 0)
def keepT (xs : List Nat) (T : O) (k : Nat) : Bool := geO (ab .f32 (wd xs k)) T
theorem take_snoc {xs : List Nat} {k : Nat} (h : k < xs.length) : xs.take (k + 1) = xs.take k ++ [wd xs k] := by
  rw [List.take_succ_eq_append_getElem h]
  unfold wd; simp [List.getD_eq_getElem?_getD, h]
theorem kept_abs (xs : List Nat) (T : O) : ∀ k, k ≤ xs.length → absL (keptN (keepT xs T) xs k) = keptO T (absL (xs.take k))
  | 0, _ => rfl
  | k + 1, h => by
    have ih := kept_abs xs T k (by omega)
    rw [take_snoc (by omega)]
    unfold keptN
    unfold absL keptO at ih ⊢
    rw [List.map_append, List.filter_append, ← ih]
    unfold keepT
    cases e : geO (ab .f32 (wd xs k)) T
    · simp [e]
    · simp [e]
theorem kept_absn {xs : List Nat} {n : Nat} (h : xs.length = n) (T : O) : absL (keptN (keepT xs T) xs n) = keptO T (absL xs) := by
  rw [kept_abs xs T n (by omega), List.take_of_length_le (by omega)]
theorem sumO_sumL {xs : List Nat} : ∀ k, k ≤ xs.length → sumO xs k = sumL (absL (xs.take k))
  | 0, _ => rfl
  | k + 1, h => by
    rw [take_snoc (by omega)]
    unfold absL sumL
    rw [List.map_append, List.foldl_append]
    show opO .add .f32 (sumO xs k) (ab .f32 (wd xs k)) = _
    rw [sumO_sumL k (by omega)]; rfl
theorem sumO_sumLn {xs : List Nat} {n : Nat} (h : xs.length = n) : sumO xs n = sumL (absL xs) := by rw [sumO_sumL n (by omega), List.take_of_length_le (by omega)]
theorem absL_are {p : Ls} {n : Nat} {Y : Nat → O} (h : p.xs.length = n) (hn : p.n = n) (ha : Are p Y) : absL p.xs = (List.range n).map Y := by
  apply List.ext_getElem
  · simp [absL, h]
  · intro i h1 h2
    simp only [absL, List.getElem_map, List.getElem_range]
    have := ha i (by simp [absL] at h1; omega)
    unfold wd at this
    rw [List.getD_eq_getElem?_getD, List.getElem?_eq_getElem (by simp [absL] at h1; exact h1)] at this
    exact this
theorem geO_fv {p q : Nat} {P Q : O} (hp : Hid (Fv .f32 p P)) (hq : Hid (Fv .f32 q Q)) : (FloatKind.f32.format.order p q == some .gt || FloatKind.f32.format.order p q == some .eq) = geO P Q := by rw [gt_fv hp hq, eq_fv hp hq]; rfl
/-- numbers that are kept, in memory of the call's own -/
def PKept (T : O) (xs : List Nat) (w : World) (e : Ending) (w' : World) : Prop :=
  ∃ (p : Ls) (c : Nat), e = .returned (.slice p.A p.n c) ∧ Gs 23 w' w.heap.size p.A p.n p.xs ∧ absL p.xs = keptO T (absL xs) ∧ w.Since w.heap.size w'
set_option maxHeartbeats 4000000 in
set_option maxRecDepth 100000 in
theorem specAbove_any (A : Option Addr) (n c : Nat) (xs : List Nat) (t : Nat) (T : O) (w : World) (hA : Fs w w.heap.size A n xs) (hn : n ≤ 256) (ht : Hid (Fv .f32 t T)) :
    Calls Try.prog 75 #[.slice A n c, .float .f32 t] w (PKept T xs w) := by
  have HA := Lib.hid hA
  clear hA
  go_enter Try.func75, Try.ntmps75
  go_wp2
  go_loopw [5, 6] (fun v i wr => ∃ k m : Nat, k ≤ n ∧ i = .int .i64 k ∧ Hid (m = (keptN (keepT xs T) xs k).length) ∧ Rw w.heap.size wr v m (fun j => ab .f32 (wd (keptN (keepT xs T) xs k) j)) ∧ w.Since w.heap.size wr) (fun _ i _ => n - (intOf i).toNat)
  case atStart => exact ⟨0, 0, Nat.zero_le _, rfl, Lib.hid rfl, Rw.start w _ (Nat.le_refl _) _, (World.Since.refl _ _).alloc (Nat.le_refl _) _⟩
  case round =>
    obtain ⟨k, m, hk, rfl, hm, hr, hs⟩ := hrel
    have HR := Lib.hid hr; have HS := Lib.hid hs
    clear hr hs
    by_cases hlt : k < n
    · obtain ⟨g, off, rfl, hg, hc⟩ := HA.out.2.2 (by omega)
      have hcell : wr.cell? ⟨g, off + k, none⟩ = some (.float .f32 (wd xs k)) := (HS.out.cell (a := ⟨g, off + k, none⟩) hg).trans (hc k hlt)
      have hx : Hid (Fv .f32 (wd xs k) (ab .f32 (wd xs k))) := Lib.hid ⟨HA.out.2.1.at_ k, rfl⟩
      have hsz := HS.out.size
      clear hc
      have g1 := geO_fv hx ht
      have hml := kept_len (keepT xs T) xs k
      rw [← hm.out] at hml
      cases e1 : geO (ab .f32 (wd xs k)) T
      · rw [e1] at g1
        have eK : Hid (keptN (keepT xs T) xs (k + 1) = keptN (keepT xs T) xs k) := Lib.hid (by rw [keptN, if_neg (by unfold keepT; rw [e1]; decide)])
        clear e1
        go_wp2
        go_roundw
        case rel => exact ⟨k + 1, m, by omega, by go_num, Lib.hid (by rw [eK.out]; exact hm.out), by rw [eK.out]; exact HR.out, HS.out⟩
        case measure => simp [intOf]; omega
      · rw [e1] at g1
        have eK : Hid (keptN (keepT xs T) xs (k + 1) = keptN (keepT xs T) xs k ++ [wd xs k]) := Lib.hid (by rw [keptN, if_pos (by unfold keepT; exact e1)])
        clear e1
        have hR2 : Hid (Rw w.heap.size wr _ m (fun j => ab .f32 (wd (keptN (keepT xs T) xs (k + 1)) j))) := Lib.hid (by
          obtain ⟨os, h1, h2, h3⟩ := HR.out
          exact ⟨os, h1, h2, fun j hj => by rw [h3 j hj]; show ab .f32 (wd (keptN (keepT xs T) xs k) j) = ab .f32 (wd (keptN (keepT xs T) xs (k + 1)) j); rw [eK.out, wd_snoc hm.out.symm, if_pos hj]⟩)
        have hy : Hid (Fv .f32 (wd xs k) (ab .f32 (wd (keptN (keepT xs T) xs (k + 1)) m))) := Lib.hid (by rw [eK.out, wd_snoc hm.out.symm, if_neg (by omega), if_pos rfl]; exact hx.out)
        go_wp2_with (first | (at_builtin; refine wpList_app1 rfl (.tmp 20) (.tmp 25) rfl w.heap.size _ m (fun j => ab .f32 (wd (keptN (keepT xs T) xs (k + 1)) j)) rfl _ _ rfl (by simp [go_sem]) (by omega) (by simp; omega) hy (hR2.out.alloc _) ?_; intro v' w3 hR3 hS3))
        go_roundw
        case rel => exact ⟨k + 1, m + 1, by omega, by go_num, Lib.hid (by rw [eK.out, List.length_append, ← hm.out]; rfl), hR3.out, HS.out.trans (((World.Since.refl _ _).alloc hsz _).trans hS3.out)⟩
        case measure => simp [intOf]; omega
    · obtain rfl : k = n := by omega
      obtain ⟨⟨pA, pn, px⟩, cp, rfl, hpn, hg, ha⟩ := HR.out.done
      simp only at hpn hg; subst hpn
      have HG := Lib.hid hg; have HAA := Lib.hid ha; clear hg ha
      go_wp2
      go_ret
      refine ⟨⟨pA, pn, px⟩, cp, rfl, HG.out, ?_, HS.out⟩
      rw [← kept_absn HA.out.1 T]
      apply List.ext_getElem
      · simp [absL, HG.out.1, ← hm.out]
      · intro i h1 h2
        have h3 : i < pn := by simpa [absL, HG.out.1] using h1
        have h4 : ab .f32 (px.getD i 0) = ab .f32 ((keptN (keepT xs T) xs k).getD i 0) := HAA.out i h3
        simp only [absL, List.getElem_map]
        have h5 : i < px.length := by have := HG.out.1; omega
        have h6 : i < (keptN (keepT xs T) xs k).length := by rw [← hm.out]; exact h3
        rw [List.getD_eq_getElem?_getD, List.getD_eq_getElem?_getD, List.getElem?_eq_getElem h5, List.getElem?_eq_getElem h6] at h4
        exact h4
theorem leastClos_any (x t gb : Nat) (X T : O) (b : Bool) (W : World) (hx : Hid (Fv .f32 x X)) (ht : Hid (Fv .f32 t T)) (hc : W.cell? ⟨gb, 0, none⟩ = some (.float .f32 t)) (hb : geO X T = b) :
    Calls Try.prog 109 #[.float .f32 x, .pointer (some ⟨gb, 0, none⟩)] W fun e w' => e = .returned (.bool (!b)) ∧ W = w' := by
  have g1 := geO_fv hx ht
  rw [hb] at g1
  cases b
  all_goals
    go_enter Try.func109, Try.ntmps109
    go_wp2
    go_ret
    exact ⟨rfl, rfl⟩
theorem delete0_any (A : Option Addr) (c : Nat) (F : FuncId) (caps : Array Value) (w : World) (hent : ∀ args w, (callFunc F args).run Try.prog w = .ok (.enter F args) w) :
    Calls Try.prog 107 #[.slice A 0 c, .func (.func F) #[] caps] w fun e w' => e = .returned (.slice A 0 c) ∧ w = w' := by
  have HI := Lib.hid (indexF_any A 0 c [] F caps (fun _ => true) w 0 ⟨rfl, (fun x hx => by cases hx), fun h => by omega⟩ (by omega) hent (fun k hk => by omega))
  go_enter Try.func107, Try.ntmps107
  go_wp2_with fail
  refine HI.out.mono ?_
  rintro e w' ⟨h, rfl⟩
  rcases h with ⟨rfl, _⟩ | ⟨k0, hk0, _⟩
  · go_wp2
    go_ret
    exact ⟨rfl, rfl⟩
  · omega
theorem Gs.zero_ {T : TypeId} {w : World} {lo : Nat} {A : Option Addr} : Gs T w lo A 0 [] := ⟨rfl, (fun x hx => by cases hx), fun h => by omega⟩
set_option maxHeartbeats 4000000 in
set_option maxRecDepth 100000 in
theorem implLeast_any (A : Option Addr) (n c : Nat) (xs : List Nat) (t : Nat) (T : O) (w : World) (hA : Fs w w.heap.size A n xs) (hn : n ≤ 256) (ht : Hid (Fv .f32 t T)) :
    Calls Try.prog 77 #[.slice A n c, .float .f32 t] w (PKept T xs w) := by
  have HA := Lib.hid hA
  clear hA
  obtain ⟨W1, hW1⟩ : ∃ W, W = w.alloc (.cells #[.float .f32 t] 23) := ⟨_, rfl⟩
  have S1 : Hid (w.Since w.heap.size W1) := Lib.hid (by rw [hW1]; exact (World.Since.refl _ _).alloc (Nat.le_refl _) _)
  have z1 : Hid (W1.heap.size = w.heap.size + 1) := Lib.hid (by rw [hW1]; simp)
  have C1 : Hid (W1.cell? ⟨w.heap.size, 0, none⟩ = some (.float .f32 t)) := Lib.hid (by rw [hW1]; simp [go_sem])
  go_enter Try.func77, Try.ntmps77
  go_wp2_with fail
  rw [← hW1]
  refine (clone2_any A n c xs W1 (HA.out.now S1.out) hn).mono ?_
  rintro e w2 ⟨A', c', ys, rfl, hc', hns, hg, hy, hs⟩
  have z2 := S1.out.size
  have S2 := Lib.hid (S1.out.trans (since_mono hs z2))
  have C2 : Hid (w2.cell? ⟨w.heap.size, 0, none⟩ = some (.float .f32 t)) := Lib.hid ((hs.cell (a := ⟨w.heap.size, 0, none⟩) (by have := z1.out; show w.heap.size < _; omega)).trans C1.out)
  have hab : absL ys = absL xs := by
    apply List.ext_getElem
    · simp [absL, hg.1, HA.out.1]
    · intro i h1 h2
      have h3 : i < n := by simpa [absL, hg.1] using h1
      have h4 := hy i h3
      unfold wd at h4
      have h5 : i < ys.length := by have := hg.1; omega
      have h6 : i < xs.length := by have := HA.out.1; omega
      rw [List.getD_eq_getElem?_getD, List.getD_eq_getElem?_getD, List.getElem?_eq_getElem h5, List.getElem?_eq_getElem h6] at h4
      simpa [absL] using h4
  have HAB := Lib.hid hab
  clear hab hy hs
  by_cases h0 : 0 < n
  · obtain ⟨g, cs, rfl, hgl, hb, hcs⟩ := hg.2.2 h0
    have hgc : GCells w2 g n (fv ys) := ⟨cs, hb, hcs⟩
    have z3 : w.heap.size < g := by have := z1.out; omega
    have HD := Lib.hid (deleteF_any g n c' ys 109 #[.pointer (some ⟨w.heap.size, 0, none⟩)] (keepT ys T) w2 hgc hg.1 hg.2.1 hc' hn (fun _ _ => rfl) (fun k W hk ho => leastClos_any _ t w.heap.size _ T _ W (Lib.hid ⟨hg.2.1.at_ k, rfl⟩) ht ((on_cells ho (by have := hgc.lt; omega) (by omega)).1 0 |>.trans C2.out) rfl))
    have HGL := Lib.hid hg.1
    clear hgc hb hcs hg hns
    go_wp2_with fail
    refine HD.out.mono ?_
    rintro e w3 ⟨rfl, hg3, ho3⟩
    have HG3 := Lib.hid (hg3.less (l := w.heap.size) (by omega)); have HO3 := Lib.hid (S2.out.trans (ho3.since (lo := w.heap.size) (by omega))); clear hg3 ho3 HD
    go_wp2
    go_ret
    exact ⟨⟨some ⟨g, 0, none⟩, _, keptN (keepT ys T) ys n⟩, c', rfl, HG3.out, by rw [← HAB.out]; exact kept_absn HGL.out T, HO3.out⟩
  · obtain rfl : n = 0 := by omega
    have hy0 : ys = [] := List.eq_nil_of_length_eq_zero hg.1
    subst hy0
    have HD := Lib.hid (delete0_any A' c' 109 #[.pointer (some ⟨w.heap.size, 0, none⟩)] w2 (fun _ _ => rfl))
    clear hg hns
    go_wp2_with fail
    refine HD.out.mono ?_
    rintro e w3 ⟨rfl, rfl⟩
    go_wp2
    go_ret
    exact ⟨⟨A', 0, []⟩, c', rfl, Gs.zero_, by rw [← HAB.out]; rfl, S2.out⟩
theorem implMeanOf_ok (A : Option Addr) (n c : Nat) (xs : List Nat) (w : World) (B : Nat) (h : Fs w B A n xs) (hn : n ≤ 256) (h0 : 0 < n) :
    Calls Try.prog 78 #[.slice A n c] w (RetFB .f32 (qu (sumL (absL xs)) (some (fI (n : Nat)))) true w) := by
  have HD := Lib.hid (implSum_any A n c xs w B h (by omega))
  rw [if_pos hn, decide_eq_true hn, sumO_sumLn h.1] at HD
  have h1 : ((n : Int) == 0) = false := by simp; omega
  have q2 := fI_fv (n : Nat)
  go_enter Try.func78, Try.ntmps78
  go_wp2_with fail
  refine HD.out.mono ?_
  rintro e w' ⟨r1, m1, rfl, hv, rfl⟩
  have V1 := Lib.hid hv
  clear hv
  go_wp2_with (with_reducible_and_instances refine Lo.wpList_fo _ rfl _ _ _ _ _ rfl _ _ _ _ _ rfl rfl rfl (by assumption) (by assumption) ?_; intro rr nn hrr)
  go_ret2
  exact ⟨_, _, rfl, hrr.out, rfl⟩
theorem implMeanOf_no (A : Option Addr) (c : Nat) (xs : List Nat) (w : World) (B : Nat) (h : Fs w B A 0 xs) :
    Calls Try.prog 78 #[.slice A 0 c] w (RetFB .f32 (some 0) false w) := by
  have HD := Lib.hid (implSum_any A 0 c xs w B h (by omega))
  rw [if_pos (by omega), decide_eq_true (by omega)] at HD
  go_enter Try.func78, Try.ntmps78
  go_wp2_with fail
  refine HD.out.mono ?_
  rintro e w' ⟨r1, m1, rfl, hv, rfl⟩
  clear hv
  go_wp2
  go_ret2
  exact ⟨0, m1, rfl, fv32z, rfl⟩
end Go.Proofs.Ytcpcfgdncinpgaa

/- Meters: crossings. -/
set_option linter.unusedVariables false
set_option linter.unusedSimpArgs false
namespace Go.Proofs.Ytcpcfgdncinpgaa
open Fl Go.RowKit
def sideO (x : O) : Nat := if ltO x (some 0) then 1 else if geO x (some 0) then 2 else 0
def crossB (a b : O) : Bool := (geO a (some 0) && ltO b (some 0)) || (ltO a (some 0) && geO b (some 0))
def crN (X : Nat → O) : Nat → Nat
  | 0 => 0
  | k + 1 => if crossB (X k) (X (k + 1)) then crN X k + 1 else crN X k
theorem crN_le (X : Nat → O) : ∀ k, crN X k ≤ k
  | 0 => Nat.le_refl _
  | k + 1 => by have := crN_le X k; unfold crN; split <;> omega
theorem side_cases (x : O) : (sideO x = 1 ∧ ltO x (some 0) = true ∧ geO x (some 0) = false) ∨ (sideO x = 2 ∧ ltO x (some 0) = false ∧ geO x (some 0) = true) ∨ (sideO x = 0 ∧ ltO x (some 0) = false ∧ geO x (some 0) = false) := by
  unfold sideO geO gtO eqO ltO
  cases ordO .f32 x (some 0) with
  | none => simp
  | some c => cases c <;> simp
theorem side_le (x : O) : sideO x ≤ 2 := by unfold sideO; split; omega; split <;> omega
theorem cross_side (a b : O) : crossB a b = (!(sideO a == sideO b) && !(sideO a == 0 || sideO b == 0)) := by
  unfold crossB
  rcases side_cases a with ⟨h1, h2, h3⟩ | ⟨h1, h2, h3⟩ | ⟨h1, h2, h3⟩ <;> rcases side_cases b with ⟨k1, k2, k3⟩ | ⟨k1, k2, k3⟩ | ⟨k1, k2, k3⟩ <;> rw [h1, h2, h3, k1, k2, k3] <;> rfl
set_option maxHeartbeats 8000000 in
set_option maxRecDepth 100000 in
theorem specCross_ok (A : Option Addr) (n c : Nat) (xs : List Nat) (w : World) (hA : Fs w w.heap.size A n xs) (hn : n ≤ 256) :
    Calls Try.prog 26 #[.slice A n c] w (PIB (crN (fun k => ab .f32 (wd xs k)) (n - 1) : Nat) true w) := by
  have hfew : decide ((n : Int) ≤ 256) = true := decide_eq_true (by omega)
  have HA := Lib.hid hA
  clear hA
  go_enter Try.func26, Try.ntmps26
  go_wp2_with (first | (go_at_call 50; refine (specFew_any _ _ _ _ _ hfew).mono ?_; rintro e w' ⟨rfl, rfl⟩))
  go_loopw [4, 5] (fun m i wr => ∃ k q : Nat, k ≤ n - 1 ∧ i = .int .i64 (k + 1 : Nat) ∧ m = .int .i64 q ∧ Hid (q = crN (fun k => ab .f32 (wd xs k)) k) ∧ w = wr) (fun _ i _ => n - (intOf i).toNat)
  case atStart => exact ⟨0, 0, Nat.zero_le _, rfl, rfl, Lib.hid rfl, rfl⟩
  case round =>
    obtain ⟨k, q, hk, rfl, rfl, hq, rfl⟩ := hrel
    have hqb : q ≤ k := by rw [hq.out]; exact crN_le _ _
    by_cases hlt : k + 1 < n
    · obtain ⟨g, off, rfl, hg, hc⟩ := HA.out.2.2 (by omega)
      have d1 : w.cell? ⟨g, off + k, none⟩ = some (.float .f32 (wd xs k)) := hc k (by omega)
      have d2 : w.cell? ⟨g, off + (k + 1), none⟩ = some (.float .f32 (wd xs (k + 1))) := hc (k + 1) (by omega)
      have x1 : Hid (Fv .f32 (wd xs k) (ab .f32 (wd xs k))) := Lib.hid ⟨HA.out.2.1.at_ k, rfl⟩
      have x2 : Hid (Fv .f32 (wd xs (k + 1)) (ab .f32 (wd xs (k + 1)))) := Lib.hid ⟨HA.out.2.1.at_ (k + 1), rfl⟩
      have g1 := lt_fv x1 fv0; have g2 := geO_fv x1 fv0; have g3 := lt_fv x2 fv0; have g4 := geO_fv x2 fv0
      have eC : Hid (crN (fun k => ab .f32 (wd xs k)) (k + 1) = if crossB (ab .f32 (wd xs k)) (ab .f32 (wd xs (k + 1))) then crN (fun k => ab .f32 (wd xs k)) k + 1 else crN (fun k => ab .f32 (wd xs k)) k) := Lib.hid rfl
      clear hc
      rcases side_cases (ab .f32 (wd xs k)) with ⟨_, h2, h3⟩ | ⟨_, h2, h3⟩ | ⟨_, h2, h3⟩ <;> rcases side_cases (ab .f32 (wd xs (k + 1))) with ⟨_, k2, k3⟩ | ⟨_, k2, k3⟩ | ⟨_, k2, k3⟩
      all_goals
        rw [h2] at g1; rw [h3] at g2; rw [k2] at g3; rw [k3] at g4
        have eC2 := eC.out
        rw [show crossB (ab .f32 (wd xs k)) (ab .f32 (wd xs (k + 1))) = _ from rfl] at eC2
        unfold crossB at eC2
        rw [h2, h3, k2, k3] at eC2
        simp only [Bool.and_true, Bool.and_false, Bool.true_and, Bool.false_and, Bool.or_false, Bool.or_true, Bool.or_self, Bool.and_self, if_true, if_false, Bool.false_eq_true] at eC2
        have EC := Lib.hid eC2
        clear eC eC2 h2 h3 k2 k3
        go_wp2
        go_roundw
        case rel =>
          first
            | exact ⟨k + 1, q + 1, by omega, by go_num, by go_num, Lib.hid (by rw [EC.out, ← hq.out]), trivial⟩
            | exact ⟨k + 1, q, by omega, by go_num, rfl, Lib.hid (by rw [EC.out]; exact hq.out), trivial⟩
        case measure => simp [intOf]; omega
    · obtain rfl : k = n - 1 := by omega
      have hge : ¬ ((n - 1 + 1 : Nat) : Int) < n := by omega
      go_wp2
      go_ret2
      exact ⟨by rw [hq.out]; rfl, World.Since.refl _ _⟩
theorem Try.infoSd : (Try.prog.info? 74).map (fun i => (i.zero, i.size, i.bytes)) = some (some (.slice none 0 0), 1, 24) := by kernel_rfl
set_option maxHeartbeats 4000000 in
set_option maxRecDepth 100000 in
theorem implWinsS_any (A : Option Addr) (n c : Nat) (size hop : Nat) (w : World) (hA : 0 < n → ∃ g off, A = some ⟨g, off, none⟩ ∧ g < w.heap.size) (hn : n ≤ 256) (hnc : n ≤ c) (hs1 : 1 ≤ size) (hs2 : size ≤ 256) (hh1 : 1 ≤ hop) (hh2 : hop ≤ 256) :
    Calls Try.prog 62 #[.slice A n c, .int .i64 size, .int .i64 hop] w fun e w' => ∃ v, e = .returned v ∧ Rv 74 w.heap.size w' v (winN n size hop) (fwin A size hop) ∧ w.Since w.heap.size w' := by
  have HA := Lib.hid hA
  clear hA
  go_enter Try.func62, Try.ntmps62
  go_wp2
  go_loopw [7, 8] (fun v i wr => ∃ k p : Nat, k ≤ winN n size hop ∧ p ≤ n + hop ∧ Hid (p = k * hop) ∧ i = .int .i64 p ∧ Rv 74 w.heap.size wr v k (fwin A size hop) ∧ w.Since w.heap.size wr) (fun _ i _ => n + 1 - (intOf i).toNat)
  case atStart => exact ⟨0, 0, Nat.zero_le _, Nat.zero_le _, Lib.hid (by simp), rfl, Rv.nil_ _ _ _ _, World.Since.refl _ _⟩
  case round =>
    obtain ⟨k, p, hk, hpb, hp, rfl, hr, hs⟩ := hrel
    have HR := Lib.hid hr; have HS := Lib.hid hs
    clear hr hs
    by_cases hlt : p + size ≤ n
    · have hkw : k < winN n size hop := (win_iff hh1).1 (by rw [← hp.out]; exact hlt)
      obtain ⟨g, off, rfl, hg⟩ := HA.out (by omega)
      have hsz := HS.out.size
      have hle : (p : Int) + size ≤ n := by omega
      have hf : Hid (fwin (some ⟨g, off, none⟩) size hop k = .slice (some ⟨g, off + p, none⟩) size size) := Lib.hid (by unfold fwin; rw [← hp.out]; rfl)
      go_wp2_with (first | (at_builtin; refine wpList_appV rfl (.tmp 18) (.tmp 28) 71 74 (.slice none 0 0) 24 rfl Try.underlying71 Try.infoSd rfl (by decide) w.heap.size _ k _ rfl _ (.slice (some ⟨g, off + p, none⟩) size size) rfl (by simp [go_sem]) rfl (by have := winN_le (n := n) (hop := hop) hs1; omega) (by simp; omega) hf.out.symm (HR.out.alloc _) ?_; intro v' w3 hR3 hS3))
      go_roundw
      case rel => exact ⟨k + 1, p + hop, by omega, by omega, Lib.hid (by rw [hp.out, Nat.add_mul, Nat.one_mul]), by go_num, hR3.out, HS.out.trans (((World.Since.refl _ _).alloc hsz _).trans hS3.out)⟩
      case measure => simp [intOf]; omega
    · obtain rfl : k = winN n size hop := by
        by_cases h : k < winN n size hop
        · exact absurd ((win_iff hh1).2 h) (by rw [← hp.out]; exact hlt)
        · omega
      have hgt : ¬ ((p : Int) + size ≤ n) := by omega
      clear hk
      go_wp2
      go_ret
      exact ⟨_, rfl, HR.out, HS.out⟩
theorem specCross_no (A : Option Addr) (n c : Nat) (w : World) (hn : ¬ n ≤ 256) : Calls Try.prog 26 #[.slice A n c] w (PIB 0 false w) := by
  have hfew : decide ((n : Int) ≤ 256) = false := decide_eq_false (by omega)
  go_enter Try.func26, Try.ntmps26
  go_wp2_with (first | (go_at_call 50; refine (specFew_any _ _ _ _ _ hfew).mono ?_; rintro e w' ⟨rfl, rfl⟩))
  go_ret2
  exact ⟨rfl, World.Since.refl _ _⟩
theorem implCross_no (A : Option Addr) (n c : Nat) (w : World) (hn : ¬ n ≤ 256) : Calls Try.prog 27 #[.slice A n c] w (PIB 0 false w) := by
  have hfew : decide ((n : Int) ≤ 256) = false := decide_eq_false (by omega)
  go_enter Try.func27, Try.ntmps27
  go_wp2_with (first | (go_at_call 53; refine (implSamples_b _ _ _ _ _ hfew).mono ?_; rintro e w' ⟨rfl, rfl⟩))
  go_ret2
  exact ⟨rfl, World.Since.refl _ _⟩
theorem sideOf_any (x : Nat) (X : O) (s : Nat) (w : World) (hx : Hid (Fv .f32 x X)) (hs : sideO X = s) :
    Calls Try.prog 64 #[.float .f32 x] w fun e w' => e = .returned (.int .i64 (s : Int)) ∧ w = w' := by
  have g1 := lt_fv hx fv0; have g2 := geO_fv hx fv0
  subst hs
  rcases side_cases X with ⟨h1, h2, h3⟩ | ⟨h1, h2, h3⟩ | ⟨h1, h2, h3⟩
  all_goals
    rw [h1]
    rw [h2] at g1; rw [h3] at g2
    go_enter Try.func64, Try.ntmps64
    go_wp2
    go_ret
    exact ⟨rfl, rfl⟩
/-- cells of any type in one block, from its beginning on -/
def VCells (T : TypeId) (w : World) (g : Nat) (n : Nat) (f : Nat → Value) : Prop := ∃ cs, w.heap[g]? = some (.cells cs T (0, 0)) ∧ ∀ j, j < n → cs[j]? = some (f j)
theorem VCells.cell {T : TypeId} {w : World} {g n : Nat} {f : Nat → Value} (h : VCells T w g n f) {j : Nat} (hj : j < n) : w.cell? ⟨g, j, none⟩ = some (f j) := by
  obtain ⟨cs, hb, hc⟩ := h
  simp only [World.cell?, hb]; simpa using hc j hj
theorem VCells.free {T : TypeId} {w : World} {g n : Nat} {f : Nat → Value} (h : VCells T w g n f) (j : Nat) : w.frozen? ⟨g, j, none⟩ = false := by
  obtain ⟨cs, hb, _⟩ := h
  simp [World.frozen?, hb]
theorem VCells.lt {T : TypeId} {w : World} {g n : Nat} {f : Nat → Value} (h : VCells T w g n f) : g < w.heap.size := by
  obtain ⟨cs, hb, _⟩ := h
  exact (Array.getElem?_eq_some_iff.1 hb).1
theorem VCells.of {T : TypeId} {w v : World} {g n : Nat} {f : Nat → Value} (h : VCells T w g n f) (e : v.heap[g]? = w.heap[g]?) : VCells T v g n f := by
  obtain ⟨cs, hb, hc⟩ := h
  exact ⟨cs, e.trans hb, hc⟩
theorem VCells.congr {T : TypeId} {w : World} {g n : Nat} {f f' : Nat → Value} (h : VCells T w g n f) (e : ∀ j, j < n → f j = f' j) : VCells T w g n f' := by
  obtain ⟨cs, hb, hc⟩ := h
  exact ⟨cs, hb, fun j hj => by rw [hc j hj, e j hj]⟩
theorem VCells.set {T : TypeId} {w : World} {g n : Nat} {f : Nat → Value} (h : VCells T w g n f) (k : Nat) (v : Value) : VCells T (w.setCell ⟨g, k, none⟩ v) g n (fun j => if j = k then v else f j) := by
  obtain ⟨cs, hb, hc⟩ := h
  refine ⟨cs.setIfInBounds k v, by simp [World.setCell, Array.getElem?_modify, hb], fun j hj => ?_⟩
  rw [Array.getElem?_setIfInBounds]
  have hl : j < cs.size := (Array.getElem?_eq_some_iff.1 (hc j hj)).1
  by_cases e : k = j
  · subst e; rw [if_pos rfl, if_pos hl]; show some v = some (if k = k then v else f k); rw [if_pos rfl]
  · rw [if_neg e, hc j hj]; show some (f j) = some (if j = k then v else f j); rw [if_neg fun (h : j = k) => e h.symm]
theorem Try.infoSide : (Try.prog.info? 73).map (fun i => (i.zero, i.size, i.bytes)) = some (some (.int .i64 0), 1, 8) := by kernel_rfl
def sideV (X : Nat → O) (k j : Nat) : Value := .int .i64 (if j < k then (sideO (X j) : Int) else 0)
set_option maxHeartbeats 4000000 in
set_option maxRecDepth 100000 in
theorem implSides_any (A : Option Addr) (n c : Nat) (xs : List Nat) (w : World) (hA : Fs w w.heap.size A n xs) (hn : n ≤ 256) :
    Calls Try.prog 63 #[.slice A n c, .func (.func 64) #[] #[]] w fun e w' => e = .returned (.slice (some ⟨w.heap.size, 0, none⟩) n n) ∧ VCells 73 w' w.heap.size n (sideV (fun k => ab .f32 (wd xs k)) n) ∧ w.Since w.heap.size w' := by
  have HA := Lib.hid hA
  have hmk := fun W => run_make_row' (P := Try.prog) 74 73 (.int .i64 0) 8 Try.underlying74 Try.infoSide rfl .i64 .i64 n (by omega) (by omega) W
  clear hA
  go_enter Try.func63, Try.ntmps63
  go_wp2
  go_loopw [13] (fun i wr => ∃ k : Nat, k ≤ n ∧ i = .int .i64 k ∧ VCells 73 wr w.heap.size n (sideV (fun k => ab .f32 (wd xs k)) k) ∧ w.Since w.heap.size wr) (fun i _ => n - (intOf i).toNat)
  case atStart =>
    obtain ⟨cs, hb, _, hc⟩ := (World.rowIs_made w (.int .i64 0) n 73)
    exact ⟨0, Nat.zero_le _, rfl, ⟨cs, hb, fun j hj => by rw [hc j hj]; rfl⟩, (World.Since.refl _ _).alloc (Nat.le_refl _) _⟩
  case round =>
    obtain ⟨k, hk, rfl, hcs, hs⟩ := hrel
    have HC := Lib.hid hcs; have HS := Lib.hid hs
    clear hcs hs
    by_cases hlt : k < n
    · obtain ⟨g, off, rfl, hg, hc⟩ := HA.out.2.2 (by omega)
      have hcell : wr.cell? ⟨g, off + k, none⟩ = some (.float .f32 (wd xs k)) := (HS.out.cell (a := ⟨g, off + k, none⟩) hg).trans (hc k hlt)
      have hx : Hid (Fv .f32 (wd xs k) (ab .f32 (wd xs k))) := Lib.hid ⟨HA.out.2.1.at_ k, rfl⟩
      have hc2 : wr.cell? ⟨w.heap.size, k, none⟩ = some (sideV (fun k => ab .f32 (wd xs k)) k k) := HC.out.cell hlt
      have hf2 : wr.frozen? ⟨w.heap.size, k, none⟩ = false := HC.out.free _
      clear hc
      go_wp2_with (first | (go_at_call 64; refine (sideOf_any _ _ _ _ hx rfl).mono ?_; rintro e w2 ⟨rfl, rfl⟩))
      go_roundw
      case rel =>
        refine ⟨k + 1, by omega, by go_num, (HC.out.set k _).congr (fun j hj => ?_), HS.out.setCell (Nat.le_refl _) _⟩
        unfold sideV
        by_cases e : j = k
        · subst e; rw [if_pos rfl, if_pos (by omega)]
        · rw [if_neg e]
          by_cases e2 : j < k
          · rw [if_pos e2, if_pos (by omega)]
          · rw [if_neg e2, if_neg (by omega)]
      case measure => simp [intOf]; omega
    · obtain rfl : k = n := by omega
      go_wp2
      go_ret
      exact ⟨rfl, HC.out, HS.out⟩
set_option maxHeartbeats 4000000 in
set_option maxRecDepth 100000 in
theorem hasNone_any (g off : Nat) (a b : Nat) (r : Bool) (w : World) (h0 : w.cell? ⟨g, off, none⟩ = some (.int .i64 (a : Int))) (h1 : w.cell? ⟨g, off + 1, none⟩ = some (.int .i64 (b : Int))) (ha : a ≤ 2) (hb : b ≤ 2) (hr : (a == 0 || b == 0) = r) :
    Calls Try.prog 65 #[.slice (some ⟨g, off, none⟩) 2 2, .int .i64 0] w fun e w' => e = .returned (.bool r) ∧ w = w' := by
  obtain ⟨d, hd⟩ : ∃ d : Int, Hid (d = if a = 0 then 0 else if b = 0 then 1 else -1) := ⟨_, Lib.hid rfl⟩
  have HI : Hid (Calls Try.prog 106 #[.slice (some ⟨g, off, none⟩) 2 2, .int .i64 0] w fun e w' => e = .returned (.int .i64 d) ∧ w = w') := Lib.hid (by
    go_enter Try.func106, Try.ntmps106
    go_wp2
    go_loopw [8] (fun i wr => ∃ k : Nat, k ≤ 2 ∧ i = .int .i64 k ∧ (1 ≤ k → a ≠ 0) ∧ (2 ≤ k → b ≠ 0) ∧ w = wr) (fun i _ => 2 - (intOf i).toNat)
    case atStart => exact ⟨0, by omega, rfl, fun h => by omega, fun h => by omega, rfl⟩
    case round =>
      obtain ⟨k, hk, rfl, z1, z2, rfl⟩ := hrel
      obtain rfl | rfl | rfl : k = 0 ∨ k = 1 ∨ k = 2 := by omega
      · by_cases e : a = 0
        · obtain rfl : d = 0 := by rw [hd.out, if_pos e]
          subst e
          go_wp2
          go_ret
          exact ⟨rfl, rfl⟩
        · have hne : ((0 : Int) == (a : Int)) = false := by simp; omega
          go_wp2
          go_roundw
          case rel => exact ⟨1, by omega, rfl, fun _ => e, fun h => by omega, trivial⟩
          case measure => simp [intOf]
      · have e1 := z1 (by omega)
        by_cases e : b = 0
        · obtain rfl : d = 1 := by rw [hd.out, if_neg e1, if_pos e]
          subst e
          go_wp2
          go_ret
          exact ⟨rfl, rfl⟩
        · have hne : ((0 : Int) == (b : Int)) = false := by simp; omega
          go_wp2
          go_roundw
          case rel => exact ⟨2, by omega, rfl, fun _ => e1, fun _ => e, trivial⟩
          case measure => simp [intOf]
      · have e1 := z1 (by omega); have e2 := z2 (by omega)
        obtain rfl : d = -1 := by rw [hd.out, if_neg e1, if_neg e2]
        go_wp2
        go_ret
        exact ⟨rfl, rfl⟩)
  go_enter Try.func65, Try.ntmps65
  go_wp2_with fail
  refine HI.out.mono ?_
  rintro e w' ⟨rfl, rfl⟩
  clear HI
  subst hr
  by_cases e1 : a = 0
  · obtain rfl : d = 0 := by rw [hd.out, if_pos e1]
    subst e1
    go_wp2
    go_ret
    exact ⟨rfl, rfl⟩
  · by_cases e2 : b = 0
    · obtain rfl : d = 1 := by rw [hd.out, if_neg e1, if_pos e2]
      subst e2
      go_wp2
      go_ret
      exact ⟨ret_bool (by simp), rfl⟩
    · obtain rfl : d = -1 := by rw [hd.out, if_neg e1, if_neg e2]
      go_wp2
      go_ret
      exact ⟨ret_bool (by simp [e1, e2]), rfl⟩
set_option maxHeartbeats 8000000 in
set_option maxRecDepth 100000 in
theorem implCross_ok (A : Option Addr) (n c : Nat) (xs : List Nat) (w : World) (hA : Fs w w.heap.size A n xs) (hn : n ≤ 256) :
    Calls Try.prog 27 #[.slice A n c] w (PIB (crN (fun k => ab .f32 (wd xs k)) (n - 1) : Nat) true w) := by
  have hfew : decide ((n : Int) ≤ 256) = true := decide_eq_true (by omega)
  have HS1 := Lib.hid (implSides_any A n c xs w hA hn)
  clear hA
  have ewin : winN n 2 1 = n - 1 := by unfold winN; rw [Nat.div_one]; split <;> omega
  go_enter Try.func27, Try.ntmps27
  go_wp2_with (first | (go_at_call 53; refine (implSamples_b _ _ _ _ _ hfew).mono ?_; rintro e w' ⟨rfl, rfl⟩) | fail)
  refine HS1.out.mono ?_
  rintro e w1 ⟨rfl, hv, hs⟩
  have HV := Lib.hid hv; have S1 := Lib.hid hs
  have hlt1 := hv.lt
  clear hv hs HS1
  have HW := Lib.hid (implWinsS_any (some ⟨w.heap.size, 0, none⟩) n n 2 1 w1 (fun _ => ⟨_, _, rfl, hlt1⟩) hn (Nat.le_refl _) (by omega) (by omega) (by omega) (by omega))
  rw [ewin] at HW
  go_wp2_with fail
  refine HW.out.mono ?_
  rintro e w2 ⟨v, rfl, hr, hs⟩
  obtain ⟨V, cV, rfl, hcV, hcells⟩ := hr.done
  have S2 := Lib.hid (S1.out.trans (since_mono hs S1.out.size))
  have HV2 : Hid (VCells 73 w2 w.heap.size n (sideV (fun k => ab .f32 (wd xs k)) n)) := Lib.hid (HV.out.of (hs.block _ hlt1))
  have HC := Lib.hid hcells
  clear hr hs hcells HW ewin HV
  go_wp2_with fail
  go_loopw [4, 6, 14] (fun m _ i wr => ∃ k q : Nat, k ≤ n - 1 ∧ i = .int .i64 (k : Nat) ∧ m = .int .i64 q ∧ Hid (q = crN (fun k => ab .f32 (wd xs k)) k) ∧ w2.Since w2.heap.size wr) (fun _ _ i _ => n - (intOf i).toNat)
  case atStart => exact ⟨0, 0, Nat.zero_le _, rfl, rfl, Lib.hid rfl, World.Since.refl _ _⟩
  case round =>
    obtain ⟨k, q, hk, rfl, rfl, hq, hsr⟩ := hrel
    have HSR := Lib.hid hsr; clear hsr
    have hqb : q ≤ k := by rw [hq.out]; exact crN_le _ _
    by_cases hlt : k < n - 1
    · obtain ⟨gV, cs, rfl, hgV, hb, hcj⟩ := HC.out (by omega)
      have hcell : wr.cell? ⟨gV, k, none⟩ = some (.slice (some ⟨w.heap.size, k, none⟩) 2 2) := by
        refine (HSR.out.cell (a := ⟨gV, k, none⟩) (Array.getElem?_eq_some_iff.1 hb).1).trans ?_
        simp only [World.cell?, hb]
        have := hcj k hlt
        unfold fwin at this
        simpa using this
      have hsz2 := HV2.out.lt
      have d1 : wr.cell? ⟨w.heap.size, k, none⟩ = some (.int .i64 (sideO (ab .f32 (wd xs k)) : Int)) := (HSR.out.cell (a := ⟨w.heap.size, _, none⟩) hsz2).trans <| (HV2.out.cell (by omega)).trans (by unfold sideV; rw [if_pos (by omega)])
      have d2 : wr.cell? ⟨w.heap.size, k + 1, none⟩ = some (.int .i64 (sideO (ab .f32 (wd xs (k + 1))) : Int)) := (HSR.out.cell (a := ⟨w.heap.size, _, none⟩) hsz2).trans <| (HV2.out.cell (by omega)).trans (by unfold sideV; rw [if_pos (by omega)])
      have eC : Hid (crN (fun k => ab .f32 (wd xs k)) (k + 1) = if crossB (ab .f32 (wd xs k)) (ab .f32 (wd xs (k + 1))) then crN (fun k => ab .f32 (wd xs k)) k + 1 else crN (fun k => ab .f32 (wd xs k)) k) := Lib.hid rfl
      rw [cross_side] at eC
      have l1 := side_le (ab .f32 (wd xs k)); have l2 := side_le (ab .f32 (wd xs (k + 1)))
      clear hb hcj
      generalize sideO (ab .f32 (wd xs k)) = a at *
      generalize sideO (ab .f32 (wd xs (k + 1))) = b at *
      have HN := Lib.hid (fun r hr q => (hasNone_any w.heap.size k a b r (wr.drewN q) d1 d2 l1 l2 hr).mono fun _ _ ⟨h1, h2⟩ => (⟨h1, h2.symm⟩ : _ ∧ _))
      by_cases e : a = b
      · subst e
        have EC : Hid (crN (fun k => ab .f32 (wd xs k)) (k + 1) = crN (fun k => ab .f32 (wd xs k)) k) := Lib.hid (by rw [eC.out]; simp)
        clear eC
        go_wp2_with fail
        go_quiet (first | (go_at_call 65; refine Calls.quiet_of_same (HN.out _ rfl _)))
        go_wp2
        go_roundw
        case rel => exact ⟨k + 1, q, by omega, by go_num, rfl, Lib.hid (by rw [EC.out]; exact hq.out), since_drewN HSR.out _⟩
        case measure => simp [intOf]; omega
      · have hbe : ((a : Int) == (b : Int)) = false := by simp; omega
        have hbn : ((a : Int) != (b : Int)) = true := by simp; omega
        have hbi : ¬ (a : Int) = (b : Int) := by omega
        cases er : (a == 0 || b == 0)
        · have EC : Hid (crN (fun k => ab .f32 (wd xs k)) (k + 1) = crN (fun k => ab .f32 (wd xs k)) k + 1) := Lib.hid (by rw [eC.out, er]; simp [e])
          have HR := Lib.hid (HN.out false er)
          clear eC HN er
          go_wp2_with fail
          go_quiet (first | (go_at_call 65; refine Calls.quiet_of_same (HR.out _)))
          go_wp2
          go_roundw
          case rel => exact ⟨k + 1, q + 1, by omega, by go_num, by go_num, Lib.hid (by rw [EC.out, ← hq.out]), since_drewN HSR.out _⟩
          case measure => simp [intOf]; omega
        · have EC : Hid (crN (fun k => ab .f32 (wd xs k)) (k + 1) = crN (fun k => ab .f32 (wd xs k)) k) := Lib.hid (by rw [eC.out, er]; simp)
          have HR := Lib.hid (HN.out true er)
          clear eC HN er
          go_wp2_with fail
          go_quiet (first | (go_at_call 65; refine Calls.quiet_of_same (HR.out _)))
          go_wp2
          go_roundw
          case rel => exact ⟨k + 1, q, by omega, by go_num, rfl, Lib.hid (by rw [EC.out]; exact hq.out), since_drewN HSR.out _⟩
          case measure => simp [intOf]; omega
    · obtain rfl : k = n - 1 := by omega
      go_wp2
      go_ret2
      exact ⟨by rw [hq.out]; rfl, S2.out.trans (since_mono HSR.out S2.out.size)⟩
end Go.Proofs.Ytcpcfgdncinpgaa

/- Meters: spreads: the model. -/
set_option linter.unusedVariables false
set_option linter.unusedSimpArgs false
namespace Go.Proofs.Ytcpcfgdncinpgaa
open Fl Go.RowKit
def partW (x : O) (p : Nat) : O := opO .mul .f64 (opO .quo .f64 (opO .add .f64 (wide x) (some 4607182418800017408)) (some 4611686018427387904)) (some (fd (p : Nat)))
def partO (x : O) (p : Nat) : Option Int := match partW x p with
  | some m => floatToIntVal .f64 m .i64
  | none => none
def inP (x : O) : Bool := geO x (some 3212836864) && ltO x (some 1065353216)
def cntS (xs : List Nat) (p : Nat) : Nat → Nat → Nat
  | 0, _ => 0
  | k + 1, j => if inP (ab .f32 (wd xs k)) = true ∧ partO (ab .f32 (wd xs k)) p = some (j : Int) then cntS xs p k j + 1 else cntS xs p k j
theorem cntS_le (xs : List Nat) (p : Nat) : ∀ k j, cntS xs p k j ≤ k
  | 0, _ => Nat.le_refl _
  | k + 1, j => by have := cntS_le xs p k j; unfold cntS; split <;> omega
theorem partO_of {b p : Nat} (hb : b < 4294967296) (h : inP (ab .f32 b) = true) (hp : 1 ≤ p) (hp2 : p ≤ 64) : ∃ m q : Nat, partW (ab .f32 b) p = some m ∧ floatToIntVal .f64 m .i64 = some (q : Int) ∧ q < p ∧ ∀ j : Nat, partO (ab .f32 b) p = some (j : Int) ↔ j = q := by
  unfold inP at h
  rw [Bool.and_eq_true] at h
  obtain ⟨s, h', m, q, h3, h4, h5, h6, h7⟩ := part_of hb h.1 h.2 hp hp2
  have e : partW (ab .f32 b) p = some m := by
    unfold partW
    rw [show (some 4607182418800017408 : O) = some cO from rfl, show (some 4611686018427387904 : O) = some cT from rfl, h3, h4, h5]
  refine ⟨m, q, e, h6, h7, fun j => ?_⟩
  unfold partO
  rw [e]
  dsimp only
  rw [h6]
  constructor
  · intro h; injection h with h; omega
  · rintro rfl; rfl
theorem fvc64 {b : Nat} (h : b < 18446744073709551616) (h2 : b % 9223372036854775808 ≤ 9218868437227405312) : Hid (Fv .f64 b (some b)) := Lib.hid ⟨by rw [w64]; exact h, by rw [ab64, if_neg (by omega)]⟩
theorem Try.infoInt : (Try.prog.info? 2).map (fun i => (i.zero, i.size, i.bytes)) = some (some (.int .i64 0), 1, 8) := by kernel_rfl
def okSpread (n : Nat) (p : Int) : Bool := decide (n ≤ 256) && inB p 1 64
theorem fd_fv (p : Nat) (hp : p ≤ 64) : Hid (Fv .f64 (floatOfInt .f64 (p : Nat)) (some (fd (p : Nat)))) := Lib.hid (fv_write .f64 (d := .number (decide ((p : Int) < 0)) (p : Int).natAbs 0) rfl)
theorem fv_is {k : FloatKind} {r m : Nat} {X : O} (h : Hid (Fv k r X)) (e : X = some m) : r = m := by
  subst e
  exact (ab_some h.out.2).symm
set_option maxHeartbeats 8000000 in
set_option maxRecDepth 100000 in
theorem specSpread_ok (A : Option Addr) (n c : Nat) (xs : List Nat) (p : Nat) (w : World) (hA : Fs w w.heap.size A n xs) (hn : n ≤ 256) (hp : 1 ≤ p) (hp2 : p ≤ 64) :
    Calls Try.prog 41 #[.slice A n c, .int .i64 p] w (PJB p ((List.range p).map fun j => (cntS xs p n j : Int)) true w) := by
  have hfew : decide ((n : Int) ≤ 256) = true := decide_eq_true (by omega)
  have hin : inB p 1 64 = true := by unfold inB; simp; omega
  have HA := Lib.hid hA
  have hmk := fun W => run_make_row' (P := Try.prog) 49 2 (.int .i64 0) 8 Try.underlying49 Try.infoInt rfl .i64 .i64 p (by omega) (by omega) W
  have fO := fvc64 (b := 4607182418800017408) (by decide) (by decide)
  have fT := fvc64 (b := 4611686018427387904) (by decide) (by decide)
  have fP := fd_fv p hp2
  have fm1 : Hid (Fv .f32 3212836864 (some 3212836864)) := fvm1
  have f1 : Hid (Fv .f32 1065353216 (some 1065353216)) := fv1
  clear hA
  go_enter Try.func41, Try.ntmps41
  go_wp2_with (first | (go_at_call 50; refine (specFew_any _ _ _ _ _ hfew).mono ?_; rintro e w' ⟨rfl, rfl⟩) | (go_at_call 58; with_reducible refine (specHold_b p 1 64 true _ hin).mono ?_; rintro e w' ⟨rfl, rfl⟩))
  go_loopw [7, 8] (fun i _ wr => ∃ k : Nat, k ≤ n ∧ i = .int .i64 k ∧ VCells 2 wr w.heap.size p (fun j => .int .i64 (cntS xs p k j : Nat)) ∧ w.Since w.heap.size wr) (fun i _ _ => n - (intOf i).toNat)
  case atStart =>
    obtain ⟨cs, hb, _, hc⟩ := (World.rowIs_made w (.int .i64 0) p 2)
    exact ⟨0, Nat.zero_le _, rfl, ⟨cs, hb, fun j hj => by rw [hc j hj]; rfl⟩, (World.Since.refl _ _).alloc (Nat.le_refl _) _⟩
  case round =>
    obtain ⟨k, hk, rfl, hcs, hs⟩ := hrel
    have HC := Lib.hid hcs; have HS := Lib.hid hs
    clear hcs hs
    by_cases hlt : k < n
    · obtain ⟨g, off, rfl, hg, hc⟩ := HA.out.2.2 (by omega)
      have hcell : wr.cell? ⟨g, off + k, none⟩ = some (.float .f32 (wd xs k)) := (HS.out.cell (a := ⟨g, off + k, none⟩) hg).trans (hc k hlt)
      have hx : Hid (Fv .f32 (wd xs k) (ab .f32 (wd xs k))) := Lib.hid ⟨HA.out.2.1.at_ k, rfl⟩
      have hxl := HA.out.2.1.at_ k
      have g1 := geO_fv hx fm1; have g2 := lt_fv hx f1
      clear hc
      have eC : Hid (∀ j, cntS xs p (k + 1) j = if inP (ab .f32 (wd xs k)) = true ∧ partO (ab .f32 (wd xs k)) p = some (j : Int) then cntS xs p k j + 1 else cntS xs p k j) := Lib.hid fun j => rfl
      cases e1 : geO (ab .f32 (wd xs k)) (some 3212836864) <;> cases e2 : ltO (ab .f32 (wd xs k)) (some 1065353216)
      case true.true =>
        rw [e1] at g1; rw [e2] at g2
        have hi : inP (ab .f32 (wd xs k)) = true := by unfold inP; rw [e1, e2]; rfl
        obtain ⟨m, q, h1, h2, h3, h4⟩ := partO_of hxl hi hp hp2
        have EM : Hid (opO .mul .f64 (opO .quo .f64 (opO .add .f64 (wide (ab .f32 (wd xs k))) (some 4607182418800017408)) (some 4611686018427387904)) (some (fd (p : Nat))) = some m) := Lib.hid h1
        have eN : Hid (∀ j, cntS xs p (k + 1) j = if j = q then cntS xs p k j + 1 else cntS xs p k j) := Lib.hid fun j => by
          rw [eC.out j]
          by_cases hj : j = q
          · rw [if_pos ⟨hi, (h4 j).2 hj⟩, if_pos hj]
          · rw [if_neg fun h => hj ((h4 j).1 h.2), if_neg hj]
        have hcv := fun (W : World) => run_convert_float_int (P := Try.prog) (w := W) 28 2 .f64 .i64 m q (by kernel_rfl) Try.underlying2 h2
        have d1 : wr.cell? ⟨w.heap.size, q, none⟩ = some (.int .i64 (cntS xs p k q : Nat)) := HC.out.cell h3
        have d2 : wr.frozen? ⟨w.heap.size, q, none⟩ = false := HC.out.free _
        have hcb := cntS_le xs p k q
        clear e1 e2 hi h1 h2 h4 eC
        go_wp2_with (first | (with_reducible_and_instances refine Lo.wpList_fo _ rfl .mul _ _ _ _ rfl _ _ _ _ _ rfl rfl rfl (by assumption) (by assumption) ?_; intro rm nm hrm; obtain rfl : rm = m := fv_is hrm EM.out) | (with_reducible_and_instances refine Lo.wpList_fo _ rfl _ _ _ _ _ rfl _ _ _ _ _ rfl rfl rfl (by assumption) (by assumption) ?_; intro rr nn hrr) | (with_reducible_and_instances refine Lo.wpList_wi _ rfl _ _ _ rfl _ _ rfl (by kernel_rfl) (by kernel_rfl) (by assumption) ?_; intro rr nn hrr))
        go_roundw
        case rel =>
          refine ⟨k + 1, by omega, by go_num, ((VCells.of (h := HC.out) rfl).set q _).congr (fun j hj => ?_), ?_⟩
          · rw [eN.out j]
            by_cases e : j = q
            · subst e; rw [if_pos rfl, if_pos rfl]; go_num
            · rw [if_neg e, if_neg e]
          · exact (since_drewN HS.out _).setCell (Nat.le_refl _) _
        case measure => simp [intOf]; omega
      all_goals
        rw [e1] at g1; rw [e2] at g2
        have hi : inP (ab .f32 (wd xs k)) = false := by unfold inP; rw [e1, e2]; rfl
        have eN : Hid (∀ j, cntS xs p (k + 1) j = cntS xs p k j) := Lib.hid fun j => by
          rw [eC.out j, if_neg (by rw [hi]; simp)]
        clear e1 e2 hi eC
        go_wp2
        go_roundw
        case rel => exact ⟨k + 1, by omega, by go_num, HC.out.congr (fun j hj => by rw [eN.out j]), HS.out⟩
        case measure => simp [intOf]; omega
    · obtain rfl : k = n := by omega
      go_wp2
      go_ret2
      refine ⟨⟨some ⟨w.heap.size, 0, none⟩, p, (List.range p).map fun j => (cntS xs p k j : Int)⟩, p, rfl, rfl, ⟨by simp, fun _ => ?_⟩, rfl, HS.out⟩
      obtain ⟨cs, hb, hc⟩ := HC.out
      exact ⟨w.heap.size, cs, rfl, Nat.le_refl _, hb, fun j hj => by rw [hc j hj]; unfold iv wi; simp [List.getD_eq_getElem?_getD, hj]⟩
end Go.Proofs.Ytcpcfgdncinpgaa

/- Meters: spreads: the program (a map of counts). -/
set_option linter.unusedVariables false
set_option linter.unusedSimpArgs false
namespace Go.Proofs.Ytcpcfgdncinpgaa
open Fl Go.RowKit Go.WideShapes
/-- block b is a map of counts -/
def CntM (W : World) (b k : Nat) (cnt : Nat → Nat) : Prop :=
  ∃ D : DataW Unit, W.ownsMap Try.prog 2 (plainElem Try.prog 2) b k D ∧ Go.Maps.IsMap D ∧ ∀ j : Nat, j < 64 → D.atKey (.int .i64 (j : Int)) (.lit (.int .i64 0)) = .lit (.int .i64 ((cnt j : Nat) : Int))
theorem CntM.start (W : World) : CntM (W.alloc (.map #[] 0)) W.heap.size 0 (fun _ => 0) := ⟨.map [], World.ownsMap_made _ _ _ _, Go.Maps.isMap_empty, fun j _ => rfl⟩
theorem CntM.lt {W : World} {b k : Nat} {cnt : Nat → Nat} (h : CntM W b k cnt) : b < W.heap.size := by obtain ⟨D, h1, _⟩ := h; exact h1.lt
theorem CntM.of {W V : World} {b k : Nat} {cnt : Nat → Nat} (h : CntM W b k cnt) (e : V.heap[b]? = W.heap[b]?) : CntM V b k cnt := by
  obtain ⟨D, ⟨es, cl, h1, h2⟩, h3⟩ := h
  exact ⟨D, ⟨es, cl, e.trans h1, h2⟩, h3⟩
theorem wf64 {a : Int} (h : 0 ≤ a) (h2 : a < 9223372036854775808) : (Lit.int .i64 a).wf = true := by
  simp only [Lit.wf, IntKind.min, IntKind.max, IntKind.signed, IntKind.bits, Bool.and_eq_true, decide_eq_true_eq, if_true]
  omega
theorem law64 : Go.Maps.Keyed Try.prog 2 := Go.Maps.int_keyed Try.underlying2
theorem key64 {a : Int} (h : 0 ≤ a) (h2 : a < 9223372036854775808) : keyOf Try.prog 2 (.int .i64 a) = some (.int .i64 a) := Go.Maps.keyOf_int_mk Try.underlying2 (wf64 h h2)
theorem zero64 (w : World) : (zeroValue 2).run Try.prog w = .ok (.int .i64 0) w := by kernel_rfl
theorem CntM.look {W : World} {b k j : Nat} {cnt : Nat → Nat} (h : CntM W b k cnt) (hj : j < 64) : (Instr.lookup 89 (.map (some b)) (.int .i64 (j : Int)) false).run Try.prog W = .ok (.int .i64 ((cnt j : Nat) : Int)) W := by
  obtain ⟨D, h1, h2, h3⟩ := h
  obtain ⟨c, hr, hat, _⟩ := h1.lookup_int law64 Try.underlying89 Try.underlying2 (zero64 W) (key64 (a := (j : Int)) (by omega) (by omega))
  rw [h3 j hj] at hat
  simp only [DataW.lit.injEq, Lit.int.injEq, true_and] at hat
  rw [hr, ← hat]
theorem implPartOf_any (b p m q : Nat) (w : World) (hb : b < 4294967296) (hp2 : p ≤ 64) (EM : Hid (opO .mul .f64 (opO .quo .f64 (opO .add .f64 (wide (ab .f32 b)) (some 4607182418800017408)) (some 4611686018427387904)) (some (fd (p : Nat))) = some m)) (h2 : floatToIntVal .f64 m .i64 = some (q : Int)) :
    Calls Try.prog 92 #[.float .f32 b, .int .i64 p] w fun e w' => e = .returned (.int .i64 (q : Int)) ∧ ∃ n, w' = w.drewN n := by
  have fO := fvc64 (b := 4607182418800017408) (by decide) (by decide)
  have fT := fvc64 (b := 4611686018427387904) (by decide) (by decide)
  have fP := fd_fv p hp2
  have hx : Hid (Fv .f32 b (ab .f32 b)) := Lib.hid ⟨hb, rfl⟩
  have hcv := fun (W : World) => run_convert_float_int (P := Try.prog) (w := W) 28 2 .f64 .i64 m q (by kernel_rfl) Try.underlying2 h2
  go_enter Try.func92, Try.ntmps92
  go_wp2_with (first | (with_reducible_and_instances refine Lo.wpList_fo _ rfl .mul _ _ _ _ rfl _ _ _ _ _ rfl rfl rfl (by assumption) (by assumption) ?_; intro rm nm hrm; obtain rfl : rm = m := fv_is hrm EM.out) | (with_reducible_and_instances refine Lo.wpList_fo _ rfl _ _ _ _ _ rfl _ _ _ _ _ rfl rfl rfl (by assumption) (by assumption) ?_; intro rr nn hrr) | (with_reducible_and_instances refine Lo.wpList_wi _ rfl _ _ _ rfl _ _ rfl (by kernel_rfl) (by kernel_rfl) (by assumption) ?_; intro rr nn hrr))
  go_ret
  exact ⟨rfl, _, rfl⟩
theorem CntM.put {W : World} {b k q : Nat} {cnt : Nat → Nat} (h : CntM W b k cnt) (hq : q < 64) (hk : k < 1000) (c : Nat) (hc : c < 1000) (v : Int) (hv : v = (c : Int)) :
    ∃ w', (Instr.mapUpdate 89 (.map (some b)) (.int .i64 (q : Int)) (.int .i64 v)).run Try.prog W = .ok () w' ∧ CntM w' b (k + 1) (fun j => if j = q then c else cnt j) ∧ W.grownBy w' (some b) := by
  subst hv
  obtain ⟨D, h1, h2, h3⟩ := h
  obtain ⟨w', r1, r2, r3⟩ := h1.update law64 Try.underlying89 (by unfold maxLen; omega) (key64 (a := (q : Int)) (by omega) (by omega)) (plainElem_int Try.underlying2 (wf64 (a := (c : Int)) (by omega) (by omega)))
  refine ⟨w', r1, ⟨_, r2, h2.put _ _, fun j hj => ?_⟩, r3⟩
  by_cases e : j = q
  · subst e
    show _ = DataW.lit (Lit.int .i64 (((if j = j then c else cnt j : Nat)) : Int))
    rw [if_pos rfl]
    exact Go.Maps.atKey_put_same h2 (law64.key (key64 (a := (j : Int)) (by omega) (by omega))) _ _
  · show _ = DataW.lit (Lit.int .i64 (((if j = q then c else cnt j : Nat)) : Int))
    rw [if_neg e, Go.Maps.atKey_put_other (by intro h; simp only [Lit.int.injEq, true_and] at h; omega)]
    exact h3 j hj
set_option maxHeartbeats 8000000 in
set_option maxRecDepth 100000 in
theorem implSpread_ok (A : Option Addr) (n c : Nat) (xs : List Nat) (p : Nat) (w : World) (hA : Fs w w.heap.size A n xs) (hn : n ≤ 256) (hp : 1 ≤ p) (hp2 : p ≤ 64) :
    Calls Try.prog 42 #[.slice A n c, .int .i64 p] w (PJB p ((List.range p).map fun j => (cntS xs p n j : Int)) true w) := by
  have hfew : decide ((n : Int) ≤ 256) = true := decide_eq_true (by omega)
  have hin : inB p 1 64 = true := by unfold inB; simp; omega
  have HA := Lib.hid hA
  have hmk := fun W => run_make_row' (P := Try.prog) 49 2 (.int .i64 0) 8 Try.underlying49 Try.infoInt rfl .i64 .i64 p (by omega) (by omega) W
  have hmm := @run_makeMap Try.prog
  have fm1 : Hid (Fv .f32 3212836864 (some 3212836864)) := fvm1
  have f1 : Hid (Fv .f32 1065353216 (some 1065353216)) := fv1
  clear hA
  go_enter Try.func42, Try.ntmps42
  go_wp2_with (first | (go_at_call 53; refine (implSamples_b _ _ _ _ _ hfew).mono ?_; rintro e w' ⟨rfl, rfl⟩) | fail)
  refine (allow_any _ _ _ _).mono ?_
  rintro e w1 ⟨rfl, hs⟩
  rw [hin]
  have S1 := Lib.hid hs; clear hs
  go_wp2_with fail
  have hM0 := CntM.start w1
  generalize hW2 : World.alloc w1 (.map #[] 0) = w2 at *
  have s2 : w1.Since w1.heap.size w2 := by rw [← hW2]; exact (World.Since.refl _ _).alloc (Nat.le_refl _) _
  have z2 : w1.heap.size < w2.heap.size := hM0.lt
  obtain ⟨bm, hbm⟩ : ∃ q, q = w1.heap.size := ⟨_, rfl⟩
  have S2 := Lib.hid (since_step S1.out s2)
  have hlo : w.heap.size ≤ bm := by rw [hbm]; exact S1.out.size
  rw [← hbm] at hM0 z2 ⊢
  have HM0 := Lib.hid hM0
  clear hW2 s2 hM0 hbm S1
  go_loopw [8, 23] (fun _ i wr => ∃ k : Nat, k ≤ n ∧ i = .int .i64 k ∧ CntM wr bm k (fun j => cntS xs p k j) ∧ w.Since w.heap.size wr) (fun _ i _ => n - (intOf i).toNat)
  case atStart => exact ⟨0, Nat.zero_le _, rfl, HM0.out, S2.out⟩
  case round =>
    obtain ⟨k, hk, rfl, hcm, hs⟩ := hrel
    have HC := Lib.hid hcm; have HS := Lib.hid hs
    clear hcm hs
    by_cases hlt : k < n
    · obtain ⟨g, off, rfl, hg, hc⟩ := HA.out.2.2 (by omega)
      have hcell : wr.cell? ⟨g, off + k, none⟩ = some (.float .f32 (wd xs k)) := (HS.out.cell (a := ⟨g, off + k, none⟩) hg).trans (hc k hlt)
      have hx : Hid (Fv .f32 (wd xs k) (ab .f32 (wd xs k))) := Lib.hid ⟨HA.out.2.1.at_ k, rfl⟩
      have hxl := HA.out.2.1.at_ k
      have g1 := geO_fv hx fm1; have g2 := lt_fv hx f1
      clear hc
      have eC : Hid (∀ j, cntS xs p (k + 1) j = if inP (ab .f32 (wd xs k)) = true ∧ partO (ab .f32 (wd xs k)) p = some (j : Int) then cntS xs p k j + 1 else cntS xs p k j) := Lib.hid fun j => rfl
      cases e1 : geO (ab .f32 (wd xs k)) (some 3212836864) <;> cases e2 : ltO (ab .f32 (wd xs k)) (some 1065353216)
      case true.true =>
        rw [e1] at g1; rw [e2] at g2
        have hi : inP (ab .f32 (wd xs k)) = true := by unfold inP; rw [e1, e2]; rfl
        obtain ⟨m, q, h1, h2, h3, h4⟩ := partO_of hxl hi hp hp2
        have EM : Hid (opO .mul .f64 (opO .quo .f64 (opO .add .f64 (wide (ab .f32 (wd xs k))) (some 4607182418800017408)) (some 4611686018427387904)) (some (fd (p : Nat))) = some m) := Lib.hid h1
        have eN : Hid (∀ j, cntS xs p (k + 1) j = if j = q then cntS xs p k q + 1 else cntS xs p k j) := Lib.hid fun j => by
          rw [eC.out j]
          by_cases hj : j = q
          · subst hj; rw [if_pos ⟨hi, (h4 j).2 rfl⟩, if_pos rfl]
          · rw [if_neg fun h => hj ((h4 j).1 h.2), if_neg hj]
        have hcb := cntS_le xs p k q
        have HP := Lib.hid (implPartOf_any (wd xs k) p m q wr hxl hp2 EM h2)
        clear e1 e2 hi h1 h2 h4 eC EM
        go_wp2_with fail
        refine HP.out.mono ?_
        rintro e w3 ⟨rfl, dr, rfl⟩
        clear HP
        have HC3 : CntM (wr.drewN dr) bm k (fun j => cntS xs p k j) := HC.out
        have hlk := HC3.look (j := q) (by omega)
        obtain ⟨w5, hup, hc5, hg5⟩ := HC3.put (q := q) (by omega) (by omega) (cntS xs p k q + 1) (by omega) ((cntS xs p k q : Nat) + 1 : Int) (by omega)
        have HC5 := Lib.hid hc5; have HG5 := Lib.hid hg5
        clear hc5 hg5 HC3
        go_wp2
        go_roundw
        case rel =>
          refine ⟨k + 1, by omega, by go_num, ?_, ?_⟩
          · have h9 := HC5.out
            have e9 : (fun j => cntS xs p (k + 1) j) = (fun j => if j = q then cntS xs p k q + 1 else cntS xs p k j) := funext eN.out
            rw [e9]; exact h9
          · exact (since_drewN HS.out dr).grown HG5.out HS.out.size (fun b hb => by injection hb with hb; omega)
        case measure => simp [intOf]; omega
      all_goals
        rw [e1] at g1; rw [e2] at g2
        have hi : inP (ab .f32 (wd xs k)) = false := by unfold inP; rw [e1, e2]; rfl
        have eN : Hid ((fun j => cntS xs p (k + 1) j) = fun j => cntS xs p k j) := Lib.hid (funext fun j => by
          rw [eC.out j, if_neg (by rw [hi]; simp)])
        clear e1 e2 hi eC
        go_wp2
        go_roundw
        case rel =>
          refine ⟨k + 1, by omega, by go_num, ?_, HS.out⟩
          rw [eN.out]
          obtain ⟨D, ⟨es, cl, m1, m2, m3, m4⟩, m5⟩ := HC.out
          exact ⟨D, ⟨es, cl, m1, m2, by omega, m4⟩, m5⟩
        case measure => simp [intOf]; omega
    · obtain rfl : k = n := by omega
      obtain ⟨V, hV⟩ : ∃ V, V = wr := ⟨_, rfl⟩
      subst hV
      go_wp2
      go_loopw [10, 43] (fun _ i wi => ∃ j : Nat, j ≤ p ∧ i = .int .i64 j ∧ VCells 2 wi V.heap.size p (fun t => .int .i64 (if t < j then (cntS xs p k t : Int) else 0)) ∧ CntM wi bm k (fun j => cntS xs p k j) ∧ w.Since w.heap.size wi) (fun _ i _ => p - (intOf i).toNat)
      case atStart =>
        obtain ⟨cs, hb, _, hc⟩ := (World.rowIs_made V (.int .i64 0) p 2)
        exact ⟨0, Nat.zero_le _, rfl, ⟨cs, hb, fun j hj => by rw [hc j hj]; rfl⟩, HC.out.of (blk_keep _ HC.out.lt), HS.out.alloc HS.out.size _⟩
      case round =>
        obtain ⟨j, hj, rfl, hv, hcm, hs2⟩ := hrel
        have HV := Lib.hid hv; have HCM := Lib.hid hcm; have HS2 := Lib.hid hs2
        clear hv hcm hs2
        by_cases hjl : j < p
        · have hlk := HCM.out.look (j := j) (by omega)
          have d1 : wr.cell? ⟨V.heap.size, j, none⟩ = some (.int .i64 (if j < j then (cntS xs p k j : Int) else 0)) := HV.out.cell hjl
          have d2 : wr.frozen? ⟨V.heap.size, j, none⟩ = false := HV.out.free _
          have hbw := HC.out.lt
          have hsz := HS.out.size
          go_wp2
          go_roundw
          case rel =>
            refine ⟨j + 1, by omega, by go_num, (HV.out.set j _).congr (fun t ht => ?_), HCM.out.of (Go.Deep.blk_setCell_other _ _ _ _ (show bm ≠ V.heap.size by omega)), HS2.out.setCell (by omega) _⟩
            by_cases e : t = j
            · subst e; rw [if_pos rfl, if_pos (by omega)]
            · rw [if_neg e]
              by_cases e2 : t < j
              · rw [if_pos e2, if_pos (by omega)]
              · rw [if_neg e2, if_neg (by omega)]
          case measure => simp [intOf]; omega
        · obtain rfl : j = p := by omega
          have hsz := HS.out.size
          go_wp2
          go_ret2
          refine ⟨⟨some ⟨V.heap.size, 0, none⟩, j, (List.range j).map fun t => (cntS xs j k t : Int)⟩, j, rfl, rfl, ⟨by simp, fun _ => ?_⟩, rfl, HS2.out⟩
          obtain ⟨cs, hb, hc⟩ := HV.out
          exact ⟨V.heap.size, cs, rfl, hsz, hb, fun t ht => by rw [hc t ht]; unfold iv wi; simp [List.getD_eq_getElem?_getD, ht]⟩
theorem specSpread_no (A : Option Addr) (n c : Nat) (p : Int) (w : World) (h : okSpread n p = false) : Calls Try.prog 41 #[.slice A n c, .int .i64 p] w (PJB 0 [] false w) := by
  unfold okSpread at h
  cases h0 : decide (n ≤ 256)
  · have hfew : decide ((n : Int) ≤ 256) = false := decide_eq_false (by have := of_decide_eq_false h0; omega)
    go_enter Try.func41, Try.ntmps41
    go_wp2_with (first | (go_at_call 50; refine (specFew_any _ _ _ _ _ hfew).mono ?_; rintro e w' ⟨rfl, rfl⟩))
    go_ret2
    exact PJB.none_ (World.Since.refl _ _)
  · have hfew : decide ((n : Int) ≤ 256) = true := decide_eq_true (by have := of_decide_eq_true h0; omega)
    have h1 : inB p 1 64 = false := by rw [h0] at h; simpa using h
    go_enter Try.func41, Try.ntmps41
    go_wp2_with (first | (go_at_call 50; refine (specFew_any _ _ _ _ _ hfew).mono ?_; rintro e w' ⟨rfl, rfl⟩) | (go_at_call 58; with_reducible refine (specHold_b p 1 64 false _ h1).mono ?_; rintro e w' ⟨rfl, rfl⟩))
    go_ret2
    exact PJB.none_ (World.Since.refl _ _)
theorem implSpread_no (A : Option Addr) (n c : Nat) (p : Int) (w : World) (h : okSpread n p = false) : Calls Try.prog 42 #[.slice A n c, .int .i64 p] w (PJB 0 [] false w) := by
  unfold okSpread at h
  cases h0 : decide (n ≤ 256)
  · have hfew : decide ((n : Int) ≤ 256) = false := decide_eq_false (by have := of_decide_eq_false h0; omega)
    go_enter Try.func42, Try.ntmps42
    go_wp2_with (first | (go_at_call 53; refine (implSamples_b _ _ _ _ _ hfew).mono ?_; rintro e w' ⟨rfl, rfl⟩))
    go_ret2
    exact PJB.none_ (World.Since.refl _ _)
  · have hfew : decide ((n : Int) ≤ 256) = true := decide_eq_true (by have := of_decide_eq_true h0; omega)
    have h1 : inB p 1 64 = false := by rw [h0] at h; simpa using h
    go_enter Try.func42, Try.ntmps42
    go_wp2_with (first | (go_at_call 53; refine (implSamples_b _ _ _ _ _ hfew).mono ?_; rintro e w' ⟨rfl, rfl⟩) | fail)
    refine (allow_any _ _ _ _).mono ?_
    rintro e w1 ⟨rfl, hs⟩
    rw [h1]
    have S1 := Lib.hid hs; clear hs
    go_wp2
    go_ret2
    exact PJB.none_ S1.out
end Go.Proofs.Ytcpcfgdncinpgaa

/- Walks of laws whose arguments or results are lists. -/
set_option linter.unusedVariables false
set_option linter.unusedSimpArgs false
namespace Go.Proofs.Ytcpcfgdncinpgaa
open Fl Go.RowKit
set_option maxHeartbeats 16000000 in
set_option maxRecDepth 100000 in
theorem lawSpreadOf_gen (A0 : Option Addr) (n0 c0 : Nat) (x0 : List Nat) (a1 : Int) (rn0 : Nat) (rf0 : List Int) (rb1 : Bool) (w : World)
    (h0 : Fs w w.heap.size A0 n0 x0) (hn0 : n0 ≤ 1048576) (hr0 : rn0 ≤ 1048576)
    (hsp : ∀ (v : World) (b0 : Nat), Fs v v.heap.size (some ⟨b0, 0, none⟩) n0 x0 → Calls Try.prog 41 #[.slice (some ⟨b0, 0, none⟩) n0 n0, .int .i64 a1] v (PJB rn0 rf0 rb1 v))
    (him : ∀ (v : World) (b0 : Nat), Fs v v.heap.size (some ⟨b0, 0, none⟩) n0 x0 → Calls Try.prog 42 #[.slice (some ⟨b0, 0, none⟩) n0 n0, .int .i64 a1] v (PJB rn0 rf0 rb1 v)) :
    Calls Try.prog 12 #[.slice A0 n0 c0, .int .i64 a1] w fun e w' => e = .returned (.bool true) ∧ w.Since w.heap.size w' := by
  have S0 : Hid (w.Since w.heap.size w) := Lib.hid (World.Since.refl _ _)
  have F0 : Hid (Fs w w.heap.size A0 n0 x0) := Lib.hid (h0.now S0.out); clear h0
  have hd0 : decide ((1048576 : Int) < n0) = false := decide_eq_false (by omega)
  have HSP := Lib.hid hsp; have HIM := Lib.hid him; clear hsp him
  go_enter Try.func12, Try.ntmps12
  go_wp2_with fail
  have S : Hid (w.Since w.heap.size w) := Lib.hid (World.Since.refl _ _)
  have LV : Hid (He w.heap.size w []) := Lib.hid trivial
  go_at_call 16
  refine (toFE_any A0 n0 c0 x0 w _ F0.out S.out hn0).mono ?_
  rintro e v1 ⟨rfl, hg, hs⟩
  have LV' := Lib.hid (LV.out.new hs hg S.out.size); clear LV; have LV := LV'; clear LV'
  have S' := Lib.hid (since_step S.out hs); clear S; have S := S'; clear S'
  clear hs hg
  go_wp2_with fail
  go_at_call 41
  refine (HSP.out _ _ ((LV.out.1.1).readF)).mono ?_
  rintro e v2 ⟨w0, kw0, rfl, hnw0, hgw0, hfw0, hs⟩
  have LV' := Lib.hid ((LV.out.2).new hs hgw0.toE S.out.size); clear LV; have LV := LV'; clear LV'
  have S' := Lib.hid (since_step S.out hs); clear S; have S := S'; clear S'
  have Kw0 := Lib.hid hfw0; have Nw0 := Lib.hid hnw0; clear hfw0 hgw0 hnw0
  clear hs
  go_wp2_with fail
  go_at_call 16
  refine (toFE_any A0 n0 c0 x0 w _ F0.out S.out hn0).mono ?_
  rintro e v3 ⟨rfl, hg, hs⟩
  have LV' := Lib.hid (LV.out.new hs hg S.out.size); clear LV; have LV := LV'; clear LV'
  have S' := Lib.hid (since_step S.out hs); clear S; have S := S'; clear S'
  clear hs hg
  go_wp2_with fail
  go_at_call 42
  refine (HIM.out _ _ ((LV.out.1.1).readF)).mono ?_
  rintro e v4 ⟨g0, kg0, rfl, hng0, hgg0, hfg0, hs⟩
  have LV' := Lib.hid ((LV.out).new hs hgg0.toE S.out.size); clear LV; have LV := LV'; clear LV'
  have S' := Lib.hid (since_step S.out hs); clear S; have S := S'; clear S'
  have Kg0 := Lib.hid hfg0; have Ng0 := Lib.hid hng0; clear hfg0 hgg0 hng0
  clear hs
  go_wp2_with fail
  go_at_call 43
  refine (eqJ_any g0 w0 _ _ _ _ (LV.out.1.1).readI (LV.out.2.2.1.1).readI (by rw [Ng0.out]; exact hr0) (Nw0.out.trans Ng0.out.symm) Kg0.out Kw0.out).mono ?_
  rintro e v5 ⟨rfl, hs⟩
  have S' := Lib.hid (since_step S.out hs); clear S; have S := S'; clear S'
  have LV' := Lib.hid (LV.out.since hs); clear LV; have LV := LV'; clear LV'
  clear hs
  go_wp2_with fail
  go_at_call 16
  refine (toFE_any A0 n0 c0 x0 w _ F0.out S.out hn0).mono ?_
  rintro e v6 ⟨rfl, hg, hs⟩
  have LV' := Lib.hid (LV.out.new hs hg S.out.size); clear LV; have LV := LV'; clear LV'
  have S' := Lib.hid (since_step S.out hs); clear S; have S := S'; clear S'
  clear hs hg
  go_wp2_with fail
  go_at_call 19
  refine (eqL_any ⟨some ⟨v2.heap.size, 0, none⟩, n0, x0⟩ ⟨some ⟨v5.heap.size, 0, none⟩, n0, x0⟩ _ _ _ _ (LV.out.2.2.1.1).readF (LV.out.1.1).readF (by omega) rfl (fun _ _ => rfl) (fun _ _ => rfl)).mono ?_
  rintro e v7 ⟨rfl, hs⟩
  have S' := Lib.hid (since_step S.out hs); clear S; have S := S'; clear S'
  have LV' := Lib.hid (LV.out.since hs); clear LV; have LV := LV'; clear LV'
  clear hs
  have LV' := Lib.hid LV.out.2; clear LV; have LV := LV'; clear LV'
  go_wp2_with fail
  go_at_call 23
  refine (markFE_any (some ⟨v2.heap.size, 0, none⟩) n0 x0 _ (1) _ _ _ _ (He.front [_] LV.out) (hn0) (by have := Ng0.out; omega) (by first | rfl | omega | (push_cast; omega))).mono ?_
  rintro e v8 ⟨rfl, hlv, hs⟩
  have LV' := Lib.hid hlv; clear LV hlv; have LV := LV'; clear LV'
  have S' := Lib.hid (since_mark S.out hs); clear S hs; have S := S'; clear S'
  go_wp2_with fail
  go_at_call 43
  refine (eqJ_any g0 w0 _ _ _ _ (LV.out.2.1.1).readI (LV.out.2.2.1.1).readI (by rw [Ng0.out]; exact hr0) (Nw0.out.trans Ng0.out.symm) Kg0.out Kw0.out).mono ?_
  rintro e v9 ⟨rfl, hs⟩
  have S' := Lib.hid (since_step S.out hs); clear S; have S := S'; clear S'
  have LV' := Lib.hid (LV.out.since hs); clear LV; have LV := LV'; clear LV'
  clear hs
  go_wp2_with fail
  go_at_call 44
  refine (markIE_any g0.A g0.n g0.xs _ (1) _ _ _ _ (He.front [_] LV.out) (by rw [Ng0.out]; exact hr0) (by have := Ng0.out; omega) (by first | rfl | omega | (push_cast; omega))).mono ?_
  rintro e v10 ⟨rfl, hlv, hs⟩
  have LV' := Lib.hid hlv; clear LV hlv; have LV := LV'; clear LV'
  have S' := Lib.hid (since_mark S.out hs); clear S hs; have S := S'; clear S'
  go_wp2_with fail
  go_at_call 45
  refine (heldIE_any g0.A g0.n _ (1) _ _ _ ((LV.out.1.1)) (by rw [Ng0.out]; exact hr0) (by have := Ng0.out; omega) (by first | rfl | omega | (push_cast; omega))).mono ?_
  rintro e v ⟨rfl, rfl⟩
  go_wp2_with fail
  go_at_call 16
  refine (toFE_any A0 n0 c0 x0 w _ F0.out S.out hn0).mono ?_
  rintro e v11 ⟨rfl, hg, hs⟩
  have LV' := Lib.hid (LV.out.new hs hg S.out.size); clear LV; have LV := LV'; clear LV'
  have S' := Lib.hid (since_step S.out hs); clear S; have S := S'; clear S'
  clear hs hg
  go_wp2_with fail
  go_at_call 42
  refine (HIM.out _ _ ((LV.out.1.1).readF)).mono ?_
  rintro e v12 ⟨h0, kh0, rfl, hnh0, hgh0, hfh0, hs⟩
  have LV' := Lib.hid ((LV.out.2).new hs hgh0.toE S.out.size); clear LV; have LV := LV'; clear LV'
  have S' := Lib.hid (since_step S.out hs); clear S; have S := S'; clear S'
  have Kh0 := Lib.hid hfh0; have Nh0 := Lib.hid hnh0; clear hfh0 hgh0 hnh0
  clear hs
  go_wp2_with fail
  go_at_call 43
  refine (eqJ_any h0 w0 _ _ _ _ (LV.out.1.1).readI (LV.out.2.2.2.1.1).readI (by rw [Nh0.out]; exact hr0) (Nw0.out.trans Nh0.out.symm) Kh0.out Kw0.out).mono ?_
  rintro e v13 ⟨rfl, hs⟩
  have S' := Lib.hid (since_step S.out hs); clear S; have S := S'; clear S'
  have LV' := Lib.hid (LV.out.since hs); clear LV; have LV := LV'; clear LV'
  clear hs
  go_wp2_with fail
  go_at_call 45
  refine (heldIE_any g0.A g0.n _ (1) _ _ _ ((LV.out.2.1.1)) (by rw [Ng0.out]; exact hr0) (by have := Ng0.out; omega) (by first | rfl | omega | (push_cast; omega))).mono ?_
  rintro e v ⟨rfl, rfl⟩
  go_wp2_with fail
  go_ret
  exact ⟨rfl, S.out⟩
set_option maxHeartbeats 2000000 in
set_option maxRecDepth 100000 in
theorem lawSpreadOf_big (A0 : Option Addr) (n0 c0 : Nat) (a1 : Int) (w : World) (h : 1048576 < n0)
    
    : Calls Try.prog 12 #[.slice A0 n0 c0, .int .i64 a1] w fun e w' => e = .returned (.bool true) ∧ w.Since w.heap.size w' := by
  by_cases b0 : 1048576 < n0
  · have hd0 : decide ((1048576 : Int) < n0) = true := decide_eq_true (by omega)
    go_enter Try.func12, Try.ntmps12
    go_wp2
    go_ret
    exact ⟨rfl, by (repeat (first | (with_reducible refine Fl.sinDrew ?_) | (with_reducible refine World.Since.drew ?_) | (with_reducible refine Fl.sinSet ?_ ?_; rotate_left) | (with_reducible refine Fl.sinAlloc ?_ ?_; rotate_left) | with_reducible exact World.Since.refl _ _ | with_reducible assumption | (with_reducible refine Fl.sinStep (by with_reducible assumption) ?_))); all_goals (first | omega | (simp; done) | (simp; omega) | (simp [go_sem]; done) | (simp [go_sem]; omega))⟩
  · have hd0 : decide ((1048576 : Int) < n0) = false := decide_eq_false (by omega)
    omega
end Go.Proofs.Ytcpcfgdncinpgaa

/- The law of SpreadOf. -/
set_option linter.unusedVariables false
set_option linter.unusedSimpArgs false
namespace Go.Proofs.Ytcpcfgdncinpgaa
open Fl Go.RowKit
theorem lawSpreadOf_any (A0 : Option Addr) (n0 c0 : Nat) (x0 : List Nat) (p : Int) (w : World) (h0 : Fs w w.heap.size A0 n0 x0) (m0 : n0 ≤ 9223372036854775807) (w1 : (Lit.int .i64 p).wf = true) :
    Calls Try.prog 12 #[.slice A0 n0 c0, .int .i64 p] w fun e w' => e = .returned (.bool true) ∧ w.Since w.heap.size w' := by
  by_cases b1 : 1048576 < n0
  · exact lawSpreadOf_big A0 n0 c0 p w b1
  cases h : okSpread n0 p
  · exact lawSpreadOf_gen A0 n0 c0 x0 p 0 [] false w h0 (by omega) (by omega) (fun v b g => specSpread_no _ n0 _ p v h) (fun v b g => implSpread_no _ n0 _ p v h)
  · have h2 := h
    unfold okSpread inB at h2
    simp only [Bool.and_eq_true, decide_eq_true_eq] at h2
    obtain ⟨l, rfl⟩ : ∃ l : Nat, p = l := ⟨p.toNat, by omega⟩
    exact lawSpreadOf_gen A0 n0 c0 x0 l l _ true w h0 (by omega) (by omega) (fun v b g => specSpread_ok _ n0 _ x0 l v g h2.1 (by omega) (by omega)) (fun v b g => implSpread_ok _ n0 _ x0 l v g h2.1 (by omega) (by omega))
end Go.Proofs.Ytcpcfgdncinpgaa

