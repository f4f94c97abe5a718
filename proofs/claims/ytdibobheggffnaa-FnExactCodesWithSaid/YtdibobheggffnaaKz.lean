/- Joined: Jo Jh Jp Jq Jr Js Jw Jt Ju Ji Jx Jl Jv Jy Jz Jk Ka Kb Kc Kd Ke -/
import Derived.Test.YtdibobheggffnaaFi
import Derived.Test.YtdibobheggffnaaJb
import Derived.Test.YtdibobheggffnaaFw
import Derived.Test.YtdibobheggffnaaLf
import Derived.Test.YtdibobheggffnaaJa
import Derived.Laws.Cover3
import Derived.Test.YtdibobheggffnaaFr
import Derived.Test.YtdibobheggffnaaIl
import Derived.Test.YtdibobheggffnaaWb
/- A float made whole, to the nearest even: it keeps to whole bounds. -/
set_option linter.unusedVariables false
set_option linter.unusedSimpArgs false
namespace Go.Proofs.Ytdibobheggffnaa
namespace Fl
open Ieee
/-- a 64-bit word rounded to a whole number -/
def rneW (x : Nat) : Nat := match FloatKind.f64.decode x with
  | .nan _ _ => x
  | d => FloatKind.f64.encode (d.integral .even)
def fd (c : Int) : Nat := floatOfInt .f64 c
theorem cutze (s : Bool) (n d : Nat) : Toward.zero.cut s n d ≤ n / 2 ^ d := by
  unfold Toward.cut
  dsimp only
  rw [Nat.shiftLeft_eq, Nat.one_mul]
  show n / 2 ^ min d (n.log2 + 2) + 0 ≤ _
  rcases Nat.le_total d (n.log2 + 2) with h1 | h1
  · rw [Nat.min_eq_left h1]; exact Nat.le_refl _
  · rw [Nat.min_eq_right h1, Nat.div_eq_of_lt (Nat.lt_trans Nat.lt_log2_self (Nat.pow_lt_pow_right (by decide) (by omega)))]
    exact Nat.zero_le _
/-- what lies within 2^20 goes into an integer -/
theorem toInt_some {y : Nat} (h : rung .f64 y ≤ 1043 * 4503599627370496) : ∃ v, floatToIntVal .f64 y .i64 = some v := by
  have hf : rung .f64 y < FloatKind.f64.format.infRung := Nat.lt_of_le_of_lt h (by decide)
  obtain ⟨m, e, hr, hz⟩ := read_fin .f64 hf
  obtain ⟨D, hD⟩ : ∃ D : Nat, D = 1074 := ⟨_, rfl⟩
  have h1 : zv .f64 (1043 * 4503599627370496) = 2 ^ 20 * 2 ^ D := by rw [hD]; decide +kernel
  have h2 : FloatKind.f64.format.leastPlace = -(D : Int) := by rw [hD]; decide
  have h3 : m * 2 ^ e ≤ 2 ^ 20 * 2 ^ D := by rw [← hz, ← h1]; exact (zv_le .f64).2 h
  clear hD h1
  have hd : FloatKind.f64.decode y = .number (sgn .f64 y) m (-(D : Int) + e) := by rw [← h2]; exact hr
  have hc : Toward.zero.cut (sgn .f64 y) (m <<< (-(D : Int) + e).toNat) (-(-(D : Int) + e)).toNat ≤ 1048576 := by
    refine Nat.le_trans (cutze _ _ _) ?_
    rw [Nat.shiftLeft_eq, Nat.div_le_iff_le_mul_add_pred (Nat.two_pow_pos _)]
    rcases Nat.le_total e D with h4 | h4
    · rw [show (-(D : Int) + e).toNat = 0 by omega, show (-(-(D : Int) + e)).toNat = D - e by omega, Nat.pow_zero, Nat.mul_one]
      have h5 : 2 ^ D = 2 ^ (D - e) * 2 ^ e := by rw [← Nat.pow_add]; congr 1; omega
      rw [h5, ← Nat.mul_assoc] at h3
      have := Nat.le_of_mul_le_mul_right h3 (Nat.two_pow_pos e)
      rw [Nat.mul_comm] at this
      exact Nat.le_trans this (Nat.le_add_right _ _)
    · rw [show (-(D : Int) + e).toNat = e - D by omega, show (-(-(D : Int) + e)).toNat = 0 by omega]
      have h5 : 2 ^ e = 2 ^ (e - D) * 2 ^ D := by rw [← Nat.pow_add]; congr 1; omega
      rw [h5, ← Nat.mul_assoc] at h3
      have := Nat.le_of_mul_le_mul_right h3 (Nat.two_pow_pos D)
      simp only [Nat.pow_zero, Nat.one_mul]
      omega
  have hi : ∃ v : Int, (Datum.number (sgn .f64 y) m (-(D : Int) + e)).toInt .zero = some v ∧ -1048576 ≤ v ∧ v ≤ 1048576 := by
    unfold Datum.toInt Datum.integral
    dsimp only
    generalize Toward.zero.cut (sgn .f64 y) (m <<< (-(D : Int) + e).toNat) (-(-(D : Int) + e)).toNat = c at *
    refine ⟨_, rfl, ?_, ?_⟩ <;> (unfold signed; rw [Nat.shiftLeft_zero]; split <;> omega)
  obtain ⟨v, hv, v1, v2⟩ := hi
  refine ⟨v, ?_⟩
  unfold floatToIntVal
  rw [hd, hv]
  dsimp only
  have r1 : IntKind.i64.min ≤ v := by show (-9223372036854775808 : Int) ≤ v; omega
  have r2 : v ≤ IntKind.i64.max := by show v ≤ (9223372036854775807 : Int); omega
  rw [if_pos ⟨r1, r2⟩]
theorem sgn_word0 (k : FloatKind) {r : Nat} (h : r ≤ k.format.infRung) : sgn k (k.format.word false r) = false := by
  have h1 := k.format.infRung_lt
  have e : k.format.word false r = r := by unfold Format.word; simp
  rw [e]
  unfold sgn
  rw [Nat.div_eq_of_lt (by omega)]
  rfl

theorem sgn_wordR (k : FloatKind) (s : Bool) {r : Nat} (h : r ≤ k.format.infRung) : sgn k (k.format.word s r) = s := by
  have h1 := k.format.infRung_lt
  have h0 := sw_pos k
  cases s
  · exact sgn_word0 k h
  · have e : k.format.word true r = k.format.signWeight + r := by unfold Format.word; simp
    rw [e]
    unfold sgn
    rw [Nat.add_div_left _ h0, Nat.div_eq_of_lt (by omega)]
    rfl
theorem sgn_nearR (k : FloatKind) (s : Bool) (mag : Nat) (place : Int) : sgn k (k.format.nearest s mag place) = s := by
  unfold Format.nearest
  dsimp only
  split
  · exact sgn_wordR k s (Nat.zero_le _)
  · exact sgn_wordR k s (Nat.min_le_right ..)
theorem rne_fin {x : Nat} (h : rung .f64 x < FloatKind.f64.format.infRung) (D : Nat) (hD : FloatKind.f64.format.leastPlace = -(D : Int)) : ∃ m e : Nat, zv .f64 (rung .f64 x) = m * 2 ^ e ∧
    rneW x = FloatKind.f64.format.nearest (sgn .f64 x) (Toward.even.cut (sgn .f64 x) (m * 2 ^ (e - D)) (D - e)) 0 := by
  obtain ⟨m, e, hr, hz⟩ := read_fin .f64 h
  refine ⟨m, e, hz, ?_⟩
  have hd : FloatKind.f64.decode x = .number (sgn .f64 x) m (-(D : Int) + e) := by rw [← hD]; exact hr
  unfold rneW
  rw [hd]
  dsimp only
  show FloatKind.f64.format.nearest _ _ _ = _
  rw [Nat.shiftLeft_eq, show (-(D : Int) + e).toNat = e - D by omega, show (-(-(D : Int) + e)).toNat = D - e by omega]
theorem rne_inf {x : Nat} (h : rung .f64 x = FloatKind.f64.format.infRung) : rneW x = FloatKind.f64.format.word (sgn .f64 x) FloatKind.f64.format.infRung := by
  have hd : FloatKind.f64.decode x = .infinity (sgn .f64 x) := read_inf .f64 h
  unfold rneW
  rw [hd]
  rfl
/-- c stands for the whole number C -/
def Whl (c C : Nat) : Prop := rung .f64 c = rung .f64 (FloatKind.f64.format.nearest false C 0) ∧ zv .f64 (rung .f64 c) = C * 2 ^ 1074
theorem rne_ge {x c C : Nat} (hx : rung .f64 x ≤ FloatKind.f64.format.infRung) (hc : Whl c C) (h : rung .f64 c ≤ rung .f64 x) : rung .f64 c ≤ rung .f64 (rneW x) := by
  obtain ⟨D, hD⟩ : ∃ D : Nat, D = 1074 := ⟨_, rfl⟩
  obtain ⟨hc1, hc2⟩ := hc
  rw [← hD] at hc2
  have h2 : FloatKind.f64.format.leastPlace = -(D : Int) := by rw [hD]; decide
  clear hD
  rcases Nat.lt_or_eq_of_le hx with h1 | h1
  · obtain ⟨m, e, hz, hr⟩ := rne_fin h1 D h2
    have h3 : C * 2 ^ D ≤ m * 2 ^ e := by rw [← hz, ← hc2]; exact (zv_le .f64).2 h
    rw [hr, hc1]
    refine nearest_mono .f64 _ _ (b := FloatKind.f64.format.leastPlace) (by have := lp_neg .f64; omega) (by have := lp_neg .f64; omega) (Int.le_refl _) (Nat.mul_le_mul_right _ ?_)
    have h4 := cut_mono false (sgn .f64 x) (n := C) (d := 0) (n' := m * 2 ^ (e - D)) (d' := D - e) (by
      rw [Nat.pow_zero, Nat.mul_one]
      rcases Nat.le_total e D with h4 | h4
      · rw [show e - D = 0 by omega, Nat.pow_zero, Nat.mul_one]
        have h5 : 2 ^ D = 2 ^ (D - e) * 2 ^ e := by rw [← Nat.pow_add]; congr 1; omega
        rw [h5, ← Nat.mul_assoc] at h3
        exact Nat.le_of_mul_le_mul_right h3 (Nat.two_pow_pos e)
      · rw [show D - e = 0 by omega, Nat.pow_zero, Nat.mul_one]
        have h5 : 2 ^ e = 2 ^ (e - D) * 2 ^ D := by rw [← Nat.pow_add]; congr 1; omega
        rw [h5, ← Nat.mul_assoc] at h3
        exact Nat.le_of_mul_le_mul_right h3 (Nat.two_pow_pos D))
    rw [cut_zero] at h4
    exact h4
  · rw [rne_inf h1]
    have h5 : rung .f64 (FloatKind.f64.format.word (sgn .f64 x) FloatKind.f64.format.infRung) = FloatKind.f64.format.infRung := by unfold rung; rw [word_rung_mod _ _ (Nat.le_refl _)]
    omega
theorem rne_le {x c C : Nat} (hx : rung .f64 x ≤ FloatKind.f64.format.infRung) (hc : Whl c C) (hcf : rung .f64 c < FloatKind.f64.format.infRung) (h : rung .f64 x ≤ rung .f64 c) : rung .f64 (rneW x) ≤ rung .f64 c := by
  obtain ⟨D, hD⟩ : ∃ D : Nat, D = 1074 := ⟨_, rfl⟩
  obtain ⟨hc1, hc2⟩ := hc
  rw [← hD] at hc2
  have h2 : FloatKind.f64.format.leastPlace = -(D : Int) := by rw [hD]; decide
  clear hD
  have h1 : rung .f64 x < FloatKind.f64.format.infRung := by omega
  obtain ⟨m, e, hz, hr⟩ := rne_fin h1 D h2
  have h3 : m * 2 ^ e ≤ C * 2 ^ D := by rw [← hz, ← hc2]; exact (zv_le .f64).2 h
  rw [hr, hc1]
  refine nearest_mono .f64 _ _ (b := FloatKind.f64.format.leastPlace) (by have := lp_neg .f64; omega) (by have := lp_neg .f64; omega) (Int.le_refl _) (Nat.mul_le_mul_right _ ?_)
  have h4 := cut_mono (sgn .f64 x) false (n := m * 2 ^ (e - D)) (d := D - e) (n' := C) (d' := 0) (by
    rw [Nat.pow_zero, Nat.mul_one]
    rcases Nat.le_total e D with h4 | h4
    · rw [show e - D = 0 by omega, Nat.pow_zero, Nat.mul_one]
      have h5 : 2 ^ D = 2 ^ (D - e) * 2 ^ e := by rw [← Nat.pow_add]; congr 1; omega
      rw [h5, ← Nat.mul_assoc] at h3
      exact Nat.le_of_mul_le_mul_right h3 (Nat.two_pow_pos e)
    · rw [show D - e = 0 by omega, Nat.pow_zero, Nat.mul_one]
      have h5 : 2 ^ e = 2 ^ (e - D) * 2 ^ D := by rw [← Nat.pow_add]; congr 1; omega
      rw [h5, ← Nat.mul_assoc] at h3
      exact Nat.le_of_mul_le_mul_right h3 (Nat.two_pow_pos D))
  rw [cut_zero] at h4
  exact h4
theorem rne_sgn {x : Nat} (hx : rung .f64 x ≤ FloatKind.f64.format.infRung) : sgn .f64 (rneW x) = sgn .f64 x := by
  rcases Nat.lt_or_eq_of_le hx with h1 | h1
  · obtain ⟨m, e, hz, hr⟩ := rne_fin h1 1074 (by decide)
    rw [hr]; exact sgn_nearR _ _ _ _
  · rw [rne_inf h1]; exact sgn_wordR _ _ (Nat.le_refl _)
theorem rne_fits {x : Nat} (hx : rung .f64 x ≤ FloatKind.f64.format.infRung) : rung .f64 (rneW x) ≤ FloatKind.f64.format.infRung ∧ rneW x < 2 ^ 64 := by
  rcases Nat.lt_or_eq_of_le hx with h1 | h1
  · obtain ⟨m, e, hz, hr⟩ := rne_fin h1 1074 (by decide)
    rw [hr]
    exact ⟨nearest_fin _ _ _ _, (fv_write .f64 (d := .number (sgn .f64 x) _ 0) rfl).1⟩
  · rw [rne_inf h1]
    refine ⟨?_, (fv_write .f64 (d := .infinity (sgn .f64 x)) rfl).1⟩
    unfold rung; rw [word_rung_mod _ _ (Nat.le_refl _)]; exact Nat.le_refl _
theorem ab_of_rung {x : Nat} (h : rung .f64 x ≤ FloatKind.f64.format.infRung) : ab .f64 x = some x := by
  unfold ab rung at *
  rw [if_neg (by omega)]
end Fl
end Go.Proofs.Ytdibobheggffnaa

/- Bits: the most of bits, a coder, codes that are codes. -/
set_option linter.unusedVariables false
set_option linter.unusedSimpArgs false
namespace Go.Proofs.Ytdibobheggffnaa
open Fl Go.RowKit
theorem specBits_b (x : Int) (b : Bool) (w : World) (h : inB x 2 16 = b) : Calls Try.prog 62 #[.int .i64 x] w fun e w' => e = .returned (.bool b) ∧ w = w' := by
  go_enter Try.func62, Try.ntmps62
  go_wp2_with (go_at_call 53; refine (specIn_b x 2 16 b _ h).mono ?_; rintro e w' ⟨rfl, rfl⟩)
  go_ret
  exact ⟨rfl, rfl⟩
def mst (b : Nat) : Nat := 2 ^ (b - 1)
theorem mst_le {b : Nat} (h1 : 2 ≤ b) (h2 : b ≤ 16) : 2 ≤ mst b ∧ mst b ≤ 32768 := by
  obtain rfl | rfl | rfl | rfl | rfl | rfl | rfl | rfl | rfl | rfl | rfl | rfl | rfl | rfl | rfl : b = 2 ∨ b = 3 ∨ b = 4 ∨ b = 5 ∨ b = 6 ∨ b = 7 ∨ b = 8 ∨ b = 9 ∨ b = 10 ∨ b = 11 ∨ b = 12 ∨ b = 13 ∨ b = 14 ∨ b = 15 ∨ b = 16 := by omega
  all_goals (unfold mst; decide)
theorem specMost_any (b : Nat) (w : World) (h1 : 2 ≤ b) (h2 : b ≤ 16) : Calls Try.prog 64 #[.int .i64 b] w fun e w' => e = .returned (.int .i64 (mst b : Nat)) ∧ w = w' := by
  obtain rfl | rfl | rfl | rfl | rfl | rfl | rfl | rfl | rfl | rfl | rfl | rfl | rfl | rfl | rfl : b = 2 ∨ b = 3 ∨ b = 4 ∨ b = 5 ∨ b = 6 ∨ b = 7 ∨ b = 8 ∨ b = 9 ∨ b = 10 ∨ b = 11 ∨ b = 12 ∨ b = 13 ∨ b = 14 ∨ b = 15 ∨ b = 16 := by omega
  all_goals
    go_enter Try.func64, Try.ntmps64
    go_wp2
    go_ret
    exact ⟨rfl, rfl⟩
def codV (m : Nat) : Value := .agg #[.int .i64 (-(m : Int)), .int .i64 ((m : Int) - 1), .float .f32 (floatOfInt .f32 (m : Int))]
def codZ : Value := .agg #[.int .i64 0, .int .i64 0, .float .f32 0]
def PC (v : Value) (b : Bool) (w : World) (e : Ending) (w' : World) : Prop := e = .returned (.tuple #[v, .bool b]) ∧ w.Since w.heap.size w'
set_option maxRecDepth 100000 in
set_option maxHeartbeats 4000000 in
theorem coderOf_ok (b : Nat) (w : World) (h1 : 2 ≤ b) (h2 : b ≤ 16) : Calls Try.prog 65 #[.int .i64 b] w (PC (codV (mst b)) true w) := by
  obtain rfl | rfl | rfl | rfl | rfl | rfl | rfl | rfl | rfl | rfl | rfl | rfl | rfl | rfl | rfl : b = 2 ∨ b = 3 ∨ b = 4 ∨ b = 5 ∨ b = 6 ∨ b = 7 ∨ b = 8 ∨ b = 9 ∨ b = 10 ∨ b = 11 ∨ b = 12 ∨ b = 13 ∨ b = 14 ∨ b = 15 ∨ b = 16 := by omega
  all_goals
    unfold codV
    go_enter Try.func65, Try.ntmps65
    go_wp2_with (go_at_call 55; refine (allowR 2 16 _ true _ (by decide)).mono ?_; rintro e w' ⟨rfl, rfl⟩)
    exact bodyPost_ret (by simp [results, Try.results65, go_sem, mst]) rfl ⟨rfl, by (repeat (first | (with_reducible refine Fl.sinDrew ?_) | (with_reducible refine World.Since.drew ?_) | (with_reducible refine Fl.sinSet ?_ ?_; rotate_left) | (with_reducible refine Fl.sinAlloc ?_ ?_; rotate_left) | with_reducible exact World.Since.refl _ _ | with_reducible assumption | (with_reducible refine Fl.sinStep (by with_reducible assumption) ?_))); all_goals (first | omega | (simp; done) | (simp; omega) | (simp [go_sem]; done) | (simp [go_sem]; omega))⟩
set_option maxRecDepth 100000 in
theorem coderOf_no (b : Int) (w : World) (h : inB b 2 16 = false) : Calls Try.prog 65 #[.int .i64 b] w (PC codZ false w) := by
  unfold codZ
  go_enter Try.func65, Try.ntmps65
  go_wp2_with (go_at_call 55; refine (allowR 2 16 _ _ _ h).mono ?_; rintro e w' ⟨rfl, rfl⟩)
  exact bodyPost_ret (by simp [results, Try.results65, go_sem]) rfl ⟨rfl, by (repeat (first | (with_reducible refine Fl.sinDrew ?_) | (with_reducible refine World.Since.drew ?_) | (with_reducible refine Fl.sinSet ?_ ?_; rotate_left) | (with_reducible refine Fl.sinAlloc ?_ ?_; rotate_left) | with_reducible exact World.Since.refl _ _ | with_reducible assumption | (with_reducible refine Fl.sinStep (by with_reducible assumption) ?_))); all_goals (first | omega | (simp; done) | (simp; omega) | (simp [go_sem]; done) | (simp [go_sem]; omega))⟩
end Go.Proofs.Ytdibobheggffnaa

/- The code nearest to a number: the model's and the program's. -/
set_option linter.unusedVariables false
set_option linter.unusedSimpArgs false
namespace Go.Proofs.Ytdibobheggffnaa
open Fl Go.RowKit
/-- what is asked of the greatest and of the least code as 64-bit numbers -/
structure Cst (m : Nat) : Prop where
  wM : Whl (fd ((m : Int) - 1)) (m - 1)
  wL : Whl (fd (-(m : Int))) m
  sM : sgn .f64 (fd ((m : Int) - 1)) = false
  sL : sgn .f64 (fd (-(m : Int))) = true
  pM : 0 < rung .f64 (fd ((m : Int) - 1))
  pL : 0 < rung .f64 (fd (-(m : Int)))
  zM : rung .f64 (fd ((m : Int) - 1)) ≤ 1042 * 4503599627370496
  zL : rung .f64 (fd (-(m : Int))) ≤ 1042 * 4503599627370496
  iM : floatToIntVal .f64 (fd ((m : Int) - 1)) .i64 = some ((m : Int) - 1)
  iL : floatToIntVal .f64 (fd (-(m : Int))) .i64 = some (-(m : Int))
set_option maxRecDepth 10000 in
theorem cst_of {b : Nat} (h1 : 2 ≤ b) (h2 : b ≤ 16) : Cst (mst b) := by
  obtain rfl | rfl | rfl | rfl | rfl | rfl | rfl | rfl | rfl | rfl | rfl | rfl | rfl | rfl | rfl : b = 2 ∨ b = 3 ∨ b = 4 ∨ b = 5 ∨ b = 6 ∨ b = 7 ∨ b = 8 ∨ b = 9 ∨ b = 10 ∨ b = 11 ∨ b = 12 ∨ b = 13 ∨ b = 14 ∨ b = 15 ∨ b = 16 := by omega
  all_goals exact ⟨⟨by decide +kernel, by decide +kernel⟩, ⟨by decide +kernel, by decide +kernel⟩, by decide +kernel, by decide +kernel, by decide +kernel, by decide +kernel, by decide +kernel, by decide +kernel, by decide +kernel, by decide +kernel⟩
def codO (m : Nat) : O → Int
  | none => 0
  | some x => if key .f64 (fd ((m : Int) - 1)) ≤ key .f64 x then (m : Int) - 1 else if key .f64 x ≤ key .f64 (fd (-(m : Int))) then -(m : Int) else (floatToIntVal .f64 (rneW x) .i64).getD 0
theorem key_pos {x : Nat} (h : sgn .f64 x = false) : key .f64 x = (rung .f64 x : Int) := by unfold key; rw [h]; rfl
theorem key_neg {x : Nat} (h : sgn .f64 x = true) : key .f64 x = -(rung .f64 x : Int) := by unfold key; rw [h]; rfl
theorem rne_hi {m x : Nat} (C : Cst m) (hx : rung .f64 x ≤ FloatKind.f64.format.infRung) : (key .f64 (fd ((m : Int) - 1)) ≤ key .f64 x → key .f64 (fd ((m : Int) - 1)) ≤ key .f64 (rneW x)) ∧ (key .f64 x ≤ key .f64 (fd ((m : Int) - 1)) → key .f64 (rneW x) ≤ key .f64 (fd ((m : Int) - 1))) := by
  have h1 := rne_sgn hx
  have p := C.pM
  have hf : rung .f64 (fd ((m : Int) - 1)) < FloatKind.f64.format.infRung := Nat.lt_of_le_of_lt C.zM (by decide)
  have h2 := rne_ge (x := x) hx C.wM
  have h3 := rne_le (x := x) hx C.wM hf
  rw [key_pos C.sM]
  cases hs : sgn .f64 x
  · rw [hs] at h1; rw [key_pos hs, key_pos h1]
    exact ⟨fun h => by have := h2 (by omega); omega, fun h => by have := h3 (by omega); omega⟩
  · rw [hs] at h1; rw [key_neg hs, key_neg h1]
    exact ⟨fun h => by omega, fun h => by omega⟩
theorem rne_lo {m x : Nat} (C : Cst m) (hx : rung .f64 x ≤ FloatKind.f64.format.infRung) : (key .f64 (fd (-(m : Int))) ≤ key .f64 x → key .f64 (fd (-(m : Int))) ≤ key .f64 (rneW x)) ∧ (key .f64 x ≤ key .f64 (fd (-(m : Int))) → key .f64 (rneW x) ≤ key .f64 (fd (-(m : Int)))) := by
  have h1 := rne_sgn hx
  have p := C.pL
  have hf : rung .f64 (fd (-(m : Int))) < FloatKind.f64.format.infRung := Nat.lt_of_le_of_lt C.zL (by decide)
  have h2 := rne_ge (x := x) hx C.wL
  have h3 := rne_le (x := x) hx C.wL hf
  rw [key_neg C.sL]
  cases hs : sgn .f64 x
  · rw [hs] at h1; rw [key_pos hs, key_pos h1]
    exact ⟨fun h => by omega, fun h => by omega⟩
  · rw [hs] at h1; rw [key_neg hs, key_neg h1]
    exact ⟨fun h => by have := h3 (by omega); omega, fun h => by have := h2 (by omega); omega⟩
theorem key_inj {x y : Nat} (hx : x < 2 ^ 64) (hy : y < 2 ^ 64) (h : key .f64 x = key .f64 y) (h0 : rung .f64 y ≠ 0) : x = y := by
  rw [← word_of .f64 (b := x) hx, ← word_of .f64 (b := y) hy]
  cases hs : sgn .f64 x <;> cases ht : sgn .f64 y
  · rw [key_pos hs, key_pos ht] at h; rw [show rung .f64 x = rung .f64 y by omega]
  · rw [key_pos hs, key_neg ht] at h; omega
  · rw [key_neg hs, key_pos ht] at h; omega
  · rw [key_neg hs, key_neg ht] at h; rw [show rung .f64 x = rung .f64 y by omega]
theorem rne_int {m x : Nat} (C : Cst m) (hx : rung .f64 x ≤ FloatKind.f64.format.infRung) (h1 : key .f64 (fd (-(m : Int))) ≤ key .f64 x) (h2 : key .f64 x ≤ key .f64 (fd ((m : Int) - 1))) : floatToIntVal .f64 (rneW x) .i64 = some ((floatToIntVal .f64 (rneW x) .i64).getD 0) := by
  have h3 := (rne_hi C hx).2 h2
  have h4 := (rne_lo C hx).1 h1
  have zM := C.zM; have zL := C.zL
  rw [key_pos C.sM] at h3; rw [key_neg C.sL] at h4
  obtain ⟨v, hv⟩ := toInt_some (y := rneW x) (by
    cases hs : sgn .f64 (rneW x)
    · rw [key_pos hs] at h3; omega
    · rw [key_neg hs] at h4; omega)
  rw [hv]; rfl
theorem fd_fits (c : Int) : ab .f64 (fd c) = some (fd c) ∧ fd c < 2 ^ 64 := ⟨(fv_write .f64 (d := .number (decide (c < 0)) c.natAbs 0) rfl).2, (fv_write .f64 (d := .number (decide (c < 0)) c.natAbs 0) rfl).1⟩
end Go.Proofs.Ytdibobheggffnaa

/- The code nearest to a number: both. -/
set_option linter.unusedVariables false
set_option linter.unusedSimpArgs false
namespace Go.Proofs.Ytdibobheggffnaa
open Fl Go.RowKit
theorem run_rne {P : Program} (x : Nat) (hx : ab .f64 x = some x) (w : World) : (Extern.MathFloor.toIntegral "math.RoundToEven" .even #[.float .f64 x]).run P w = .ok (.float .f64 (rneW x)) w := by
  have hn : (FloatKind.f64.decode x).isNaN = false := by
    have := read_nan (k := .f64) (b := x)
    rw [hx] at this
    exact this
  unfold rneW
  change Sem.run P (match FloatKind.f64.decode x with
    | .nan s t => if FloatKind.f64.format.quiet t = t then pure (Value.float .f64 x) else do
      let kept ← choose (.extern "math.Floor,Ceil,Trunc,RoundToEven.signallingNaN kept" 2)
      pure (Value.float .f64 (if kept == 1 then x else FloatKind.f64.encode (.nan s (FloatKind.f64.format.quiet t))))
    | d => pure (Value.float .f64 (FloatKind.f64.encode (d.integral .even)))) w = _
  cases hd : FloatKind.f64.decode x with
  | nan s t => rw [hd] at hn; cases hn
  | number s m e => rfl
  | infinity s => rfl
theorem codO_some (m x : Nat) : codO m (some x) = if key .f64 (fd ((m : Int) - 1)) ≤ key .f64 x then (m : Int) - 1 else if key .f64 x ≤ key .f64 (fd (-(m : Int))) then -(m : Int) else (floatToIntVal .f64 (rneW x) .i64).getD 0 := rfl
theorem callRne (x : Nat) (hx : ab .f64 x = some x) (w : World) : (callFunc 85 #[.float .f64 x]).run Try.prog w = .ok (.value (.float .f64 (rneW x))) w := by
  rw [run_callFunc_extern (P := Try.prog) (fn := Try.f85) (e := Extern.MathFloor.toIntegral "math.RoundToEven" .even) (by kernel_rfl) (by kernel_rfl) (by kernel_rfl) (by kernel_rfl) (by kernel_rfl), run_rne x hx]
  rfl
theorem ord_of {x c : Nat} (hx : ab .f64 x = some x) (hc : ab .f64 c = some c) : (key .f64 x < key .f64 c ∧ FloatKind.f64.format.order x c = some .lt) ∨ (key .f64 x = key .f64 c ∧ FloatKind.f64.format.order x c = some .eq) ∨ (key .f64 c < key .f64 x ∧ FloatKind.f64.format.order x c = some .gt) := by
  rw [order_key .f64 hx hc, cmp_def]
  rcases Int.lt_trichotomy (key .f64 x) (key .f64 c) with h | h | h
  · exact .inl ⟨h, by rw [if_pos h]⟩
  · exact .inr (.inl ⟨h, by rw [if_neg (by omega), if_pos h]⟩)
  · exact .inr (.inr ⟨h, by rw [if_neg (by omega), if_neg (by omega)]⟩)
set_option maxHeartbeats 4000000 in
set_option maxRecDepth 100000 in
theorem specCode_any (b : Nat) (x : Nat) (X : O) (w : World) (h1 : 2 ≤ b) (h2 : b ≤ 16) (hx : Hid (Fv .f64 x X)) :
    Calls Try.prog 67 #[.int .i64 b, .float .f64 x] w fun e w' => e = .returned (.int .i64 (codO (mst b) X)) ∧ w = w' := by
  have C := cst_of h1 h2
  have hm := mst_le h1 h2
  have hq := fun W => specMost_any b W h1 h2
  obtain ⟨m, hmm⟩ : ∃ m, m = mst b := ⟨_, rfl⟩
  rw [← hmm] at hq hm C ⊢
  clear hmm
  have HQ := Lib.hid hq; clear hq
  cases X with
  | none =>
    have ho : FloatKind.f64.format.order x x = none := by rw [order_ab, hx.out.2]; rfl
    clear C
    go_enter Try.func67, Try.ntmps67
    go_wp2_with (first | (go_at_call 64; refine (HQ.out _).mono ?_; rintro e w1 ⟨rfl, rfl⟩))
    go_ret
    exact ⟨rfl, rfl⟩
  | some x' =>
    obtain rfl : x' = x := by
      have h := hx.out.2
      unfold ab at h
      split at h
      · cases h
      · injection h with h; exact h.symm
    have hab := hx.out.2
    have hr := rung_of_ab .f64 hab
    have ho : FloatKind.f64.format.order x' x' = some .eq := ord_self _ hab
    have hcl := fun W => callRne x' hab W
    rcases ord_of hab (fd_fits ((m : Int) - 1)).1 with ⟨k1, hoM⟩ | ⟨k1, hoM⟩ | ⟨k1, hoM⟩
    · rcases ord_of hab (fd_fits (-(m : Int))).1 with ⟨k2, hoL⟩ | ⟨k2, hoL⟩ | ⟨k2, hoL⟩
      · have hR : Hid (codO m (some x') = -(m : Int)) := Lib.hid (by rw [codO_some, if_neg (by omega), if_pos (by omega)])
        simp only [fd] at hoM hoL
        clear C k1 k2 hab hr hcl
        go_enter Try.func67, Try.ntmps67
        go_wp2_with (first | (go_at_call 64; refine (HQ.out _).mono ?_; rintro e w1 ⟨rfl, rfl⟩))
        go_ret
        exact ⟨by rw [hR.out]; rfl, rfl⟩
      · have hR : Hid (codO m (some x') = -(m : Int)) := Lib.hid (by rw [codO_some, if_neg (by omega), if_pos (by omega)])
        simp only [fd] at hoM hoL
        clear C k1 k2 hab hr hcl
        go_enter Try.func67, Try.ntmps67
        go_wp2_with (first | (go_at_call 64; refine (HQ.out _).mono ?_; rintro e w1 ⟨rfl, rfl⟩))
        go_ret
        exact ⟨by rw [hR.out]; rfl, rfl⟩
      · have hR : Hid (codO m (some x') = (floatToIntVal .f64 (rneW x') .i64).getD 0) := Lib.hid (by rw [codO_some, if_neg (by omega), if_neg (by omega)])
        have hv := rne_int C hr (by omega) (by omega)
        simp only [fd] at hoM hoL
        generalize (floatToIntVal .f64 (rneW x') .i64).getD 0 = v at hv hR
        have hcv := fun (W : World) => run_convert_float_int (P := Try.prog) (w := W) 50 2 .f64 .i64 (rneW x') v (by kernel_rfl) Try.underlying2 hv
        clear C k1 k2 hab hr
        go_enter Try.func67, Try.ntmps67
        go_wp2_with (first | (go_at_call 64; refine (HQ.out _).mono ?_; rintro e w1 ⟨rfl, rfl⟩))
        go_ret
        exact ⟨by rw [hR.out]; rfl, rfl⟩
    all_goals
      have hR : Hid (codO m (some x') = (m : Int) - 1) := Lib.hid (by rw [codO_some, if_pos (by omega)])
      simp only [fd] at hoM
      clear C k1 hab hr hcl
      go_enter Try.func67, Try.ntmps67
      go_wp2_with (first | (go_at_call 64; refine (HQ.out _).mono ?_; rintro e w1 ⟨rfl, rfl⟩))
      go_ret
      exact ⟨by rw [hR.out]; rfl, rfl⟩
end Go.Proofs.Ytdibobheggffnaa

/- The code nearest to a number: the program's. -/
set_option linter.unusedVariables false
set_option linter.unusedSimpArgs false
namespace Go.Proofs.Ytdibobheggffnaa
open Fl Go.RowKit
theorem isNaN_nan (x : Nat) (h : FloatKind.f64.format.order x x = none) (w : World) : Calls Try.prog 86 #[.float .f64 x] w fun e w' => e = .returned (.bool true) ∧ w = w' := by
  go_enter Try.func86, Try.ntmps86
  go_wp2
  go_ret
  exact ⟨rfl, rfl⟩
theorem isNaN_num (x : Nat) (h : FloatKind.f64.format.order x x = some .eq) (w : World) : Calls Try.prog 86 #[.float .f64 x] w fun e w' => e = .returned (.bool false) ∧ w = w' := by
  go_enter Try.func86, Try.ntmps86
  go_wp2
  go_ret
  exact ⟨rfl, rfl⟩
theorem run_max {P : Program} (ts : Array TypeId) (t : TypeId) (x y r : Nat) (h : (FloatKind.f64.format.order x y = some .lt ∧ r = y) ∨ (FloatKind.f64.format.order x y = some .gt ∧ r = x) ∨ (FloatKind.f64.format.order x y = some .eq ∧ x = y ∧ r = x)) (W : World) :
    (Builtin.max_ ts t #[.float .f64 x, .float .f64 y]).run P W = .ok (.float .f64 r) W := by
  rcases h with ⟨h, rfl⟩ | ⟨h, rfl⟩ | ⟨h, rfl, rfl⟩
  · simp [Builtin.max_, Builtin.max2, h]
  · simp [Builtin.max_, Builtin.max2, h]
  · simp [Builtin.max_, Builtin.max2, h]
theorem run_min {P : Program} (ts : Array TypeId) (t : TypeId) (x y r : Nat) (h : (FloatKind.f64.format.order x y = some .lt ∧ r = x) ∨ (FloatKind.f64.format.order x y = some .gt ∧ r = y) ∨ (FloatKind.f64.format.order x y = some .eq ∧ x = y ∧ r = x)) (W : World) :
    (Builtin.min_ ts t #[.float .f64 x, .float .f64 y]).run P W = .ok (.float .f64 r) W := by
  rcases h with ⟨h, rfl⟩ | ⟨h, rfl⟩ | ⟨h, rfl, rfl⟩
  · simp [Builtin.min_, Builtin.min2, h]
  · simp [Builtin.min_, Builtin.min2, h]
  · simp [Builtin.min_, Builtin.min2, h]
/-- the rounded number, brought between the bounds, as an integer -/
theorem clamp_num {m x : Nat} (C : Cst m) (hab : ab .f64 x = some x) :
    ∃ r1 r2, ((FloatKind.f64.format.order (rneW x) (fd (-(m : Int))) = some .lt ∧ r1 = fd (-(m : Int))) ∨ (FloatKind.f64.format.order (rneW x) (fd (-(m : Int))) = some .gt ∧ r1 = rneW x) ∨ (FloatKind.f64.format.order (rneW x) (fd (-(m : Int))) = some .eq ∧ rneW x = fd (-(m : Int)) ∧ r1 = rneW x)) ∧
      ((FloatKind.f64.format.order r1 (fd ((m : Int) - 1)) = some .lt ∧ r2 = r1) ∨ (FloatKind.f64.format.order r1 (fd ((m : Int) - 1)) = some .gt ∧ r2 = fd ((m : Int) - 1)) ∨ (FloatKind.f64.format.order r1 (fd ((m : Int) - 1)) = some .eq ∧ r1 = fd ((m : Int) - 1) ∧ r2 = r1)) ∧
      floatToIntVal .f64 r2 .i64 = some (codO m (some x)) := by
  have hr := rung_of_ab .f64 hab
  have hR := rne_fits hr
  have hRa := ab_of_rung hR.1
  have fM := fd_fits ((m : Int) - 1)
  have fL := fd_fits (-(m : Int))
  have hi := rne_hi C hr
  have lo := rne_lo C hr
  have kM := key_pos C.sM; have pM := C.pM
  have kL := key_neg C.sL; have pL := C.pL
  have hML : FloatKind.f64.format.order (fd (-(m : Int))) (fd ((m : Int) - 1)) = some .lt := by
    rcases ord_of fL.1 fM.1 with ⟨h, h2⟩ | ⟨h, h2⟩ | ⟨h, h2⟩
    · exact h2
    · omega
    · omega
  rw [codO_some]
  rcases ord_of hRa fL.1 with ⟨h1, o1⟩ | ⟨h1, o1⟩ | ⟨h1, o1⟩
  · refine ⟨fd (-(m : Int)), fd (-(m : Int)), .inl ⟨o1, rfl⟩, .inl ⟨hML, rfl⟩, ?_⟩
    rw [C.iL, if_neg (by omega), if_pos (by omega)]
  · have e := key_inj hR.2 fL.2 h1 (by omega)
    refine ⟨rneW x, rneW x, .inr (.inr ⟨o1, e, rfl⟩), .inl ⟨by rw [e]; exact hML, rfl⟩, ?_⟩
    rw [if_neg (by omega)]
    split
    · rw [e]; exact C.iL
    · exact rne_int C hr (by omega) (by omega)
  · rcases ord_of hRa fM.1 with ⟨h2, o2⟩ | ⟨h2, o2⟩ | ⟨h2, o2⟩
    · refine ⟨rneW x, rneW x, .inr (.inl ⟨o1, rfl⟩), .inl ⟨o2, rfl⟩, ?_⟩
      rw [if_neg (by omega), if_neg (by omega)]
      exact rne_int C hr (by omega) (by omega)
    · have e := key_inj hR.2 fM.2 h2 (by omega)
      refine ⟨rneW x, rneW x, .inr (.inl ⟨o1, rfl⟩), .inr (.inr ⟨o2, e, rfl⟩), ?_⟩
      split
      · rw [e]; exact C.iM
      · rw [if_neg (by omega)]
        exact rne_int C hr (by omega) (by omega)
    · refine ⟨rneW x, fd ((m : Int) - 1), .inr (.inl ⟨o1, rfl⟩), .inr (.inl ⟨o2, rfl⟩), ?_⟩
      rw [C.iM, if_pos (by omega)]
set_option maxHeartbeats 4000000 in
set_option maxRecDepth 100000 in
theorem implNear_any (m : Nat) (x : Nat) (X : O) (w : World) (C : Cst m) (hm : 2 ≤ m ∧ m ≤ 32768) (hx : Hid (Fv .f64 x X)) :
    Calls Try.prog 70 #[codV m, .float .f64 x] w fun e w' => e = .returned (.int .i64 (codO m X)) ∧ w.Since w.heap.size w' := by
  unfold codV
  obtain ⟨f, hf⟩ : ∃ f, f = floatOfInt .f32 (m : Int) := ⟨_, rfl⟩
  rw [← hf]; clear hf
  cases X with
  | none =>
    have ho : FloatKind.f64.format.order x x = none := by rw [order_ab, hx.out.2]; rfl
    clear C
    go_enter Try.func70, Try.ntmps70
    go_wp2_with (first | (go_at_call 86; refine (isNaN_nan _ ho _).mono ?_; rintro e w1 ⟨rfl, rfl⟩))
    go_ret
    exact ⟨rfl, by (repeat (first | (with_reducible refine Fl.sinDrew ?_) | (with_reducible refine World.Since.drew ?_) | (with_reducible refine Fl.sinSet ?_ ?_; rotate_left) | (with_reducible refine Fl.sinAlloc ?_ ?_; rotate_left) | with_reducible exact World.Since.refl _ _ | with_reducible assumption | (with_reducible refine Fl.sinStep (by with_reducible assumption) ?_))); all_goals (first | omega | (simp; done) | (simp; omega) | (simp [go_sem]; done) | (simp [go_sem]; omega))⟩
  | some x' =>
    obtain rfl : x' = x := by
      have h := hx.out.2
      unfold ab at h
      split at h
      · cases h
      · injection h with h; exact h.symm
    have hab := hx.out.2
    have hr := rung_of_ab .f64 hab
    have ho : FloatKind.f64.format.order x' x' = some .eq := ord_self _ hab
    have hcl := fun W => callRne x' hab W
    obtain ⟨r1, r2, q1, q2, q3⟩ := clamp_num C hab
    have hmx := fun W => run_max (P := Try.prog) #[50, 50] 50 _ _ _ q1 W
    have hmn := fun W => run_min (P := Try.prog) #[50, 50] 50 _ _ _ q2 W
    have hcv := fun (W : World) => run_convert_float_int (P := Try.prog) (w := W) 50 2 .f64 .i64 r2 _ (by kernel_rfl) Try.underlying2 q3
    simp only [fd] at hmx hmn
    generalize codO m (some x') = v at hcv ⊢
    clear C q1 q2 q3 hr hab
    go_enter Try.func70, Try.ntmps70
    go_wp2_with (first | (go_at_call 86; refine (isNaN_num _ ho _).mono ?_; rintro e w1 ⟨rfl, rfl⟩))
    refine Lo.wp_loose_all [] (by kernel_rfl) (by kernel_rfl) ?_
    repeat (first
      | (refine Lo.wpL_move rfl _ (.inl rfl) (by decide) ?_; simp only [Act.put, List.setIfInBounds_toArray, List.set_cons_succ, List.set_cons_zero])
      | (refine Lo.wpL_move rfl _ (.inr rfl) (by decide) ?_; simp only [Act.put, List.setIfInBounds_toArray, List.set_cons_succ, List.set_cons_zero])
      | (refine Lo.wpL_fop rfl _ _ _ _ rfl rfl (by decide) _ _ _ _ _ rfl rfl (by assumption) (by assumption) ?_; intro rr hrr; simp only [Act.put, List.setIfInBounds_toArray, List.set_cons_succ, List.set_cons_zero])
      | (refine Lo.wpL_wide rfl _ _ _ rfl (by decide) _ _ rfl (by kernel_rfl) (by kernel_rfl) (by assumption) ?_; intro rr hrr; simp only [Act.put, List.setIfInBounds_toArray, List.set_cons_succ, List.set_cons_zero])
      | (refine Lo.wpL_quiet rfl (by decide) (fun K hK => ?_); go_big_quiet_op; (refine hK _ ?_; clear hK K)))
    refine Lo.wpL_nil ?_
    refine Lo.after_nil ?_; intro nq
    go_wp2
    go_ret
    exact ⟨rfl, by (repeat (first | (with_reducible refine Fl.sinDrew ?_) | (with_reducible refine World.Since.drew ?_) | (with_reducible refine Fl.sinSet ?_ ?_; rotate_left) | (with_reducible refine Fl.sinAlloc ?_ ?_; rotate_left) | with_reducible exact World.Since.refl _ _ | with_reducible assumption | (with_reducible refine Fl.sinStep (by with_reducible assumption) ?_))); all_goals (first | omega | (simp; done) | (simp; omega) | (simp [go_sem]; done) | (simp [go_sem]; omega))⟩
end Go.Proofs.Ytdibobheggffnaa

/- Products with powers of two: the code of the product in 32 bits is that of the product in 64 bits. -/
set_option linter.unusedVariables false
set_option linter.unusedSimpArgs false
namespace Go.Proofs.Ytdibobheggffnaa
namespace Fl
open Ieee
theorem nearest_exact (k : FloatKind) (neg : Bool) {r mag : Nat} {place b : Int} (hr : r < k.format.infRung) (hb : b ≤ place) (hbl : b ≤ k.format.leastPlace)
    (h : zv k r * 2 ^ (k.format.leastPlace - b).toNat = mag * 2 ^ (place - b).toNat) : rung k (k.format.nearest neg mag place) = r := by
  obtain ⟨m, e, hz, hme, _⟩ := rung_form k r
  have h0 := nearest_rung k neg hr hz hme
  have h1 : m * 2 ^ (k.format.leastPlace + (e : Int) - b).toNat = mag * 2 ^ (place - b).toNat := by
    rw [← h, hz, Nat.mul_assoc, ← Nat.pow_add]
    congr 2
    omega
  have a := nearest_mono k neg neg (mag := m) (mag' := mag) (place := k.format.leastPlace + e) (place' := place) (b := b) (by omega) hb hbl (Nat.le_of_eq h1)
  have a' := nearest_mono k neg neg (mag := mag) (mag' := m) (place := place) (place' := k.format.leastPlace + e) (b := b) hb (by omega) hbl (Nat.le_of_eq h1.symm)
  omega
theorem zv_dbl1 (k : FloatKind) (r : Nat) : ∃ r', zv k r' = zv k r * 2 := by
  have hp := bin_pos k
  by_cases h : r < k.format.binade
  · refine ⟨2 * r, ?_⟩
    by_cases h2 : 2 * r < k.format.binade
    · unfold zv; rw [if_pos h2, if_pos h]; omega
    · have e1 : 2 * r / k.format.binade = 1 := by
        rw [Nat.div_eq_sub_div hp (by omega), Nat.div_eq_of_lt (by omega)]
      have e2 : 2 * r % k.format.binade = 2 * r - k.format.binade := by
        rw [Nat.mod_eq_sub_mod (by omega), Nat.mod_eq_of_lt (by omega)]
      unfold zv
      rw [if_neg h2, if_pos h, e1, e2]
      simp
      omega
  · refine ⟨r + k.format.binade, ?_⟩
    have e1 : (r + k.format.binade) / k.format.binade = r / k.format.binade + 1 := Nat.add_div_right _ hp
    have e2 : (r + k.format.binade) % k.format.binade = r % k.format.binade := Nat.add_mod_right _ _
    have hq : 1 ≤ r / k.format.binade := (Nat.one_le_div_iff hp).2 (by omega)
    unfold zv
    rw [if_neg (by omega), if_neg h, e1, e2, Nat.mul_assoc, ← Nat.pow_succ]
    congr 2
    omega
theorem zv_dbl (k : FloatKind) (r : Nat) : ∀ j, ∃ r', zv k r' = zv k r * 2 ^ j
  | 0 => ⟨r, by rw [Nat.pow_zero, Nat.mul_one]⟩
  | j + 1 => by
    obtain ⟨s, hs⟩ := zv_dbl k r j
    obtain ⟨t, ht⟩ := zv_dbl1 k s
    exact ⟨t, by rw [ht, hs, Nat.pow_succ, Nat.mul_assoc]⟩
/-- a product that is exact -/
theorem mul_exact (k : FloatKind) {x c r m : Nat} (hx : rung k x < k.format.infRung) (hc : rung k c < k.format.infRung) (sc : sgn k c = false) (P : Nat) (hP : k.format.leastPlace = -(P : Int)) (hzc : zv k (rung k c) = m * 2 ^ P) (hr : r < k.format.infRung)
    (hzr : zv k r = zv k (rung k x) * m) : ∃ q, floatBits .mul k x c = some q ∧ rung k q = r ∧ sgn k q = sgn k x := by
  obtain ⟨mx, ex, h1, h2⟩ := read_fin k hx
  obtain ⟨mc, ec, h3, h4⟩ := read_fin k hc
  simp only [floatBits, Format.mul, h1, h3, Datum.product, Option.map_some]
  refine ⟨_, rfl, ?_, ?_⟩
  · show rung k (k.format.nearest _ _ _) = r
    refine nearest_exact k _ (b := k.format.leastPlace + k.format.leastPlace) hr (by omega) (by omega) ?_
    rw [show (k.format.leastPlace - (k.format.leastPlace + k.format.leastPlace)).toNat = P by omega,
      show (k.format.leastPlace + (ex : Int) + (k.format.leastPlace + (ec : Int)) - (k.format.leastPlace + k.format.leastPlace)).toNat = ex + ec by omega, hzr, h2, Nat.pow_add]
    have e : mx * mc * (2 ^ ex * 2 ^ ec) = (mx * 2 ^ ex) * (mc * 2 ^ ec) := by rw [Nat.mul_assoc, Nat.mul_assoc, Nat.mul_left_comm mc]
    rw [e, ← h4, hzc, Nat.mul_assoc]
  · show sgn k (k.format.nearest _ _ _) = _
    rw [sgn_nearest, sc]
    cases sgn k x <;> rfl
/-- a product with a number without sign, at least 1, is not less, and has the sign -/
theorem mul_big (k : FloatKind) {x c o t : Nat} (hx : rung k x < k.format.infRung) (hc : rung k c < k.format.infRung) (sc : sgn k c = false) (ht : rung k t < k.format.infRung) (ho : rung k o < k.format.infRung) (h1 : rung k t ≤ rung k x) (h2 : rung k o ≤ rung k c)
    (h3 : (floatBits .mul k t o).map (fun r => decide (rung k t ≤ rung k r)) = some true) : ∃ q, floatBits .mul k x c = some q ∧ rung k t ≤ rung k q ∧ sgn k q = sgn k x ∧ rung k q ≤ k.format.infRung := by
  obtain ⟨r, q, e1, e2, e3⟩ := mul_size k ht ho hx hc h1 h2
  rw [e1] at h3
  simp only [Option.map_some, Option.some.injEq, decide_eq_true_eq] at h3
  refine ⟨q, e2, by omega, ?_⟩
  obtain ⟨mx, ex, g1, g2⟩ := read_fin k hx
  obtain ⟨mc, ec, g3, g4⟩ := read_fin k hc
  simp only [floatBits, Format.mul, g1, g3, Datum.product, Option.map_some] at e2
  injection e2 with e2
  rw [← e2]
  refine ⟨?_, nearest_fin _ _ _ _⟩
  show sgn k (k.format.nearest _ _ _) = _
  rw [sgn_nearest, sc]
  cases sgn k x <;> rfl
end Fl
open Fl Go.RowKit Ieee
/-- what is asked of m as a number of 32 and of 64 bits -/
structure Pw (m : Nat) : Prop where
  f3 : rung .f32 (fI (m : Int)) < FloatKind.f32.format.infRung
  f6 : rung .f64 (fd (m : Int)) < FloatKind.f64.format.infRung
  s3 : sgn .f32 (fI (m : Int)) = false
  s6 : sgn .f64 (fd (m : Int)) = false
  z3 : zv .f32 (rung .f32 (fI (m : Int))) = m * 2 ^ 149
  z6 : zv .f64 (rung .f64 (fd (m : Int))) = m * 2 ^ 1074
  o3 : rung .f32 1065353216 ≤ rung .f32 (fI (m : Int))
  o6 : rung .f64 4607182418800017408 ≤ rung .f64 (fd (m : Int))
  i3 : ∀ s : Bool, (Datum.infinity s).product (FloatKind.f32.format.read (fI (m : Int))) = some (.infinity s)
  i6 : ∀ s : Bool, (Datum.infinity s).product (FloatKind.f64.format.read (fd (m : Int))) = some (.infinity s)
set_option maxRecDepth 10000 in
theorem pw_of {b : Nat} (h1 : 2 ≤ b) (h2 : b ≤ 16) : Pw (mst b) := by
  obtain rfl | rfl | rfl | rfl | rfl | rfl | rfl | rfl | rfl | rfl | rfl | rfl | rfl | rfl | rfl : b = 2 ∨ b = 3 ∨ b = 4 ∨ b = 5 ∨ b = 6 ∨ b = 7 ∨ b = 8 ∨ b = 9 ∨ b = 10 ∨ b = 11 ∨ b = 12 ∨ b = 13 ∨ b = 14 ∨ b = 15 ∨ b = 16 := by omega
  all_goals exact ⟨by decide +kernel, by decide +kernel, by decide +kernel, by decide +kernel, by decide +kernel, by decide +kernel, by decide +kernel, by decide +kernel, by decide +kernel, by decide +kernel⟩
def t32 : Nat := 147 * 8388608
def t64 : Nat := 1043 * 4503599627370496
theorem cod_sat {m y : Nat} (C : Cst m) (h : rung .f64 t64 ≤ rung .f64 y) : codO m (some y) = if sgn .f64 y then -(m : Int) else (m : Int) - 1 := by
  have kM := key_pos C.sM; have kL := key_neg C.sL
  have zM := C.zM; have zL := C.zL; have pM := C.pM
  have ht : rung .f64 t64 = 1043 * 4503599627370496 := by decide
  rw [codO_some]
  cases hs : sgn .f64 y
  · have ky := key_pos hs
    rw [if_pos (by omega)]; rfl
  · have ky := key_neg hs
    rw [if_neg (by omega), if_pos (by omega)]; rfl
theorem wide_some (x : Nat) : wide (some x) = some (FloatKind.f64.encode (FloatKind.f32.decode x)) := rfl
theorem opO_some (op : BinOp) (k : FloatKind) (x y : Nat) : opO op k (some x) (some y) = floatBits op k x y := rfl
theorem wide_big {p : Nat} (hp : rung .f32 p ≤ FloatKind.f32.format.infRung) (h : rung .f32 t32 ≤ rung .f32 p) : rung .f64 t64 ≤ rung .f64 (FloatKind.f64.encode (FloatKind.f32.decode p)) ∧ sgn .f64 (FloatKind.f64.encode (FloatKind.f32.decode p)) = sgn .f32 p := by
  obtain ⟨D, hD⟩ : ∃ D : Nat, D = 925 := ⟨_, rfl⟩
  rcases Nat.lt_or_eq_of_le hp with h1 | h1
  · obtain ⟨a, b⟩ := wide_zv h1 D hD
    refine ⟨?_, a⟩
    have h2 := wide_zv (b := t32) (by decide) D hD
    rw [show FloatKind.f64.encode (FloatKind.f32.decode t32) = t64 by decide +kernel] at h2
    refine (zv_le .f64).1 ?_
    rw [h2.2, b]
    exact Nat.mul_le_mul_right _ ((zv_le .f32).2 h)
  · have hr : FloatKind.f32.decode p = .infinity (sgn .f32 p) := read_inf .f32 h1
    rw [hr]
    cases sgn .f32 p <;> decide +kernel
theorem sg_word_inj {x y : Nat} (hx : x < 2 ^ 64) (hy : y < 2 ^ 64) (h1 : rung .f64 x = rung .f64 y) (h2 : sgn .f64 x = sgn .f64 y) : x = y := by
  rw [← word_of .f64 (b := x) hx, ← word_of .f64 (b := y) hy, h1, h2]
theorem op_lt {op : BinOp} {k : FloatKind} {x y q : Nat} (h : floatBits op k x y = some q) : q < 2 ^ k.format.width := by
  cases op <;> simp only [floatBits] at h <;> first | (cases h; done) | skip
  all_goals
    simp only [Format.add, Format.sub, Format.mul, Format.div, Option.map_eq_some_iff] at h
    obtain ⟨d, hd, rfl⟩ := h
    exact k.format.write_lt d
set_option maxHeartbeats 1000000 in
theorem cod_mul {m j : Nat} (hj : m = 2 ^ j) (hm : m ≤ 32768) (C : Cst m) (W : Pw m) (X : O) (hX : ∀ x, X = some x → rung .f32 x ≤ FloatKind.f32.format.infRung) :
    codO m (wide (opO .mul .f32 X (some (fI (m : Int))))) = codO m (opO .mul .f64 (wide X) (some (fd (m : Int)))) := by
  cases X with
  | none => rfl
  | some x =>
    have hx := hX x rfl
    rw [wide_some, opO_some, opO_some]
    have one6 : rung .f64 4607182418800017408 < FloatKind.f64.format.infRung := by decide
    have one3 : rung .f32 1065353216 < FloatKind.f32.format.infRung := by decide
    rcases Nat.lt_or_eq_of_le hx with h1 | h1
    · obtain ⟨D, hD⟩ : ∃ D : Nat, D = 925 := ⟨_, rfl⟩
      obtain ⟨sx, zx⟩ := wide_zv h1 D hD
      have hD3 : zv .f32 FloatKind.f32.format.infRung * 2 ^ D ≤ zv .f64 FloatKind.f64.format.infRung := by rw [hD]; decide +kernel
      have hwf : rung .f64 (FloatKind.f64.encode (FloatKind.f32.decode x)) < FloatKind.f64.format.infRung := by
        refine (zv_lt .f64).1 ?_
        rw [zx]
        have h2 : zv .f32 (rung .f32 x) < zv .f32 FloatKind.f32.format.infRung := (zv_lt .f32).2 h1
        exact Nat.lt_of_lt_of_le (Nat.mul_lt_mul_of_pos_right h2 (Nat.two_pow_pos _)) hD3
      rcases Nat.lt_or_ge (rung .f32 x) (rung .f32 t32) with h2 | h2
      · -- small: both products are exact
        obtain ⟨r, hr⟩ := zv_dbl .f32 (rung .f32 x) j
        rw [← hj] at hr
        have hrf : r < FloatKind.f32.format.infRung := by
          refine (zv_lt .f32).1 ?_
          rw [hr]
          have h3 : zv .f32 (rung .f32 x) < zv .f32 (rung .f32 t32) := (zv_lt .f32).2 h2
          have h4 : zv .f32 (rung .f32 t32) * 32768 ≤ zv .f32 FloatKind.f32.format.infRung := by decide +kernel
          have h5 : zv .f32 (rung .f32 x) * m ≤ zv .f32 (rung .f32 x) * 32768 := Nat.mul_le_mul_left _ hm
          omega
        obtain ⟨p, e1, e2, e3⟩ := mul_exact .f32 h1 W.f3 W.s3 149 (by decide) W.z3 hrf hr
        have hpf : rung .f32 p < FloatKind.f32.format.infRung := by rw [e2]; exact hrf
        obtain ⟨sp, zp⟩ := wide_zv hpf D hD
        have hpw : rung .f64 (FloatKind.f64.encode (FloatKind.f32.decode p)) < FloatKind.f64.format.infRung := by
          refine (zv_lt .f64).1 ?_
          rw [zp]
          have h2 : zv .f32 (rung .f32 p) < zv .f32 FloatKind.f32.format.infRung := (zv_lt .f32).2 hpf
          exact Nat.lt_of_lt_of_le (Nat.mul_lt_mul_of_pos_right h2 (Nat.two_pow_pos _)) hD3
        obtain ⟨q, g1, g2, g3⟩ := mul_exact .f64 hwf W.f6 W.s6 1074 (by decide) W.z6 hpw (by rw [zp, e2, hr, zx, Nat.mul_assoc, Nat.mul_comm m, ← Nat.mul_assoc])
        rw [e1, g1, wide_some]
        have : FloatKind.f64.encode (FloatKind.f32.decode p) = q := sg_word_inj (FloatKind.f64.format.write_lt _) (op_lt g1) g2.symm (by rw [sp, e3, g3, sx])
        rw [this]
      · obtain ⟨p, e1, e2, e3, e4⟩ := mul_big .f32 (t := t32) (o := 1065353216) h1 W.f3 W.s3 (by decide) one3 h2 W.o3 (by decide +kernel)
        obtain ⟨w1, w2⟩ := wide_big hx h2
        obtain ⟨q, g1, g2, g3, g4⟩ := mul_big .f64 (t := t64) (o := 4607182418800017408) hwf W.f6 W.s6 (by decide) one6 w1 W.o6 (by decide +kernel)
        obtain ⟨v1, v2⟩ := wide_big e4 e2
        rw [e1, g1, wide_some, cod_sat C v1, cod_sat C g2, v2, e3, g3, w2]
    · have hr : FloatKind.f32.format.read x = .infinity (sgn .f32 x) := read_inf .f32 h1
      have hd : FloatKind.f32.decode x = .infinity (sgn .f32 x) := hr
      have e1 : floatBits .mul .f32 x (fI (m : Int)) = some (FloatKind.f32.format.word (sgn .f32 x) FloatKind.f32.format.infRung) := by
        simp only [floatBits, Format.mul, hr, W.i3, Option.map_some]; rfl
      have hr6 : FloatKind.f64.format.read (FloatKind.f64.encode (FloatKind.f32.decode x)) = .infinity (sgn .f32 x) := by
        rw [hd]; cases sgn .f32 x <;> decide +kernel
      have e2 : floatBits .mul .f64 (FloatKind.f64.encode (FloatKind.f32.decode x)) (fd (m : Int)) = some (FloatKind.f64.format.word (sgn .f32 x) FloatKind.f64.format.infRung) := by
        simp only [floatBits, Format.mul, hr6, W.i6, Option.map_some]; rfl
      rw [e1, e2, wide_some]
      cases sgn .f32 x
      · rw [show FloatKind.f64.encode (FloatKind.f32.decode (FloatKind.f32.format.word false FloatKind.f32.format.infRung)) = FloatKind.f64.format.word false FloatKind.f64.format.infRung by decide +kernel]
      · rw [show FloatKind.f64.encode (FloatKind.f32.decode (FloatKind.f32.format.word true FloatKind.f32.format.infRung)) = FloatKind.f64.format.word true FloatKind.f64.format.infRung by decide +kernel]
end Go.Proofs.Ytdibobheggffnaa

/- A great number and a small one more: the code of the sum. -/
set_option linter.unusedVariables false
set_option linter.unusedSimpArgs false
namespace Go.Proofs.Ytdibobheggffnaa
namespace Fl
open Ieee
def t63 : Nat := 1042 * 4503599627370496
def one64 : Nat := 4607182418800017408
theorem add_big {x y : Nat} (hx : rung .f64 x < FloatKind.f64.format.infRung) (hy : rung .f64 y < FloatKind.f64.format.infRung) (h1 : rung .f64 (1043 * 4503599627370496) ≤ rung .f64 x) (h2 : rung .f64 y ≤ rung .f64 one64) :
    ∃ r, floatBits .add .f64 x y = some r ∧ rung .f64 t63 ≤ rung .f64 r ∧ sgn .f64 r = sgn .f64 x := by
  obtain ⟨m, e, hm, hz⟩ := read_fin .f64 hx
  obtain ⟨n, f, hn, hz2⟩ := read_fin .f64 hy
  obtain ⟨D, hD⟩ : ∃ D : Nat, D = 1074 := ⟨_, rfl⟩
  have g1 : zv .f64 (rung .f64 (1043 * 4503599627370496)) = 1048576 * 2 ^ D := by rw [hD]; decide +kernel
  have g2 : zv .f64 (rung .f64 one64) = 2 ^ D := by rw [hD]; decide +kernel
  have g3 : FloatKind.f64.format.leastPlace = -(D : Int) := by rw [hD]; decide
  have g4 : rung .f64 t63 = rung .f64 (FloatKind.f64.format.nearest false 524288 0) := by decide +kernel
  have c1 := (zv_le .f64).2 h1
  have c2 := (zv_le .f64).2 h2
  rw [g1] at c1; rw [g2] at c2
  clear hD g1 g2
  simp only [floatBits, Format.add, hm, hn, Datum.sum, Option.map_some]
  have e1 : (min (FloatKind.f64.format.leastPlace + (e : Int)) (FloatKind.f64.format.leastPlace + (f : Int)) - FloatKind.f64.format.leastPlace).toNat = min e f := by omega
  have e3 : (FloatKind.f64.format.leastPlace + (e : Int) - min (FloatKind.f64.format.leastPlace + (e : Int)) (FloatKind.f64.format.leastPlace + (f : Int))).toNat = e - min e f := by omega
  have e4 : (FloatKind.f64.format.leastPlace + (f : Int) - min (FloatKind.f64.format.leastPlace + (e : Int)) (FloatKind.f64.format.leastPlace + (f : Int))).toNat = f - min e f := by omega
  have sgd : ∀ (s : Bool) (a u : Nat), signed s a u = sg s (a * 2 ^ u) := by intro s a u; simp only [signed, sg, Nat.shiftLeft_eq]
  rw [e3, e4, sgd, sgd]
  have a1 : (m * 2 ^ (e - min e f)) * 2 ^ min e f = zv .f64 (rung .f64 x) := by rw [Nat.mul_assoc, ← Nat.pow_add, Nat.sub_add_cancel (Nat.min_le_left ..), hz]
  have a2 : (n * 2 ^ (f - min e f)) * 2 ^ min e f = zv .f64 (rung .f64 y) := by rw [Nat.mul_assoc, ← Nat.pow_add, Nat.sub_add_cancel (Nat.min_le_right ..), hz2]
  have hp := Nat.two_pow_pos (min e f)
  have hP := Nat.two_pow_pos D
  generalize m * 2 ^ (e - min e f) = A at *
  generalize n * 2 ^ (f - min e f) = B at *
  have hAB : B < A := by
    refine Nat.lt_of_mul_lt_mul_right (a := 2 ^ min e f) ?_
    omega
  have ht : (sg (sgn .f64 x) A + sg (sgn .f64 y) B) ≠ 0 ∧ decide ((sg (sgn .f64 x) A + sg (sgn .f64 y) B) < 0) = sgn .f64 x ∧ A - B ≤ (sg (sgn .f64 x) A + sg (sgn .f64 y) B).natAbs := by
    cases sgn .f64 x <;> cases sgn .f64 y <;> simp [sg] <;> omega
  obtain ⟨t1, t2, t3⟩ := ht
  rw [if_neg t1, t2]
  refine ⟨_, rfl, ?_, ?_⟩
  · rw [g4]
    refine nearest_mono .f64 _ _ (b := FloatKind.f64.format.leastPlace) (by omega) (by omega) (Int.le_refl _) ?_
    rw [e1, show (0 - FloatKind.f64.format.leastPlace).toNat = D by omega]
    have b1 := Nat.mul_le_mul_right (2 ^ min e f) t3
    rw [Nat.sub_mul, a1, a2] at b1
    omega
  · show sgn .f64 (FloatKind.f64.format.nearest _ _ _) = _
    exact sgn_nearest _ _ _ _
end Fl
open Fl Go.RowKit Ieee
theorem ab_of32 {x : Nat} (h : rung .f32 x ≤ FloatKind.f32.format.infRung) : ab .f32 x = some x := by
  unfold ab rung at *
  rw [if_neg (by omega)]
set_option maxHeartbeats 1000000 in
/-- the product in 32 bits, made wide, and that in 64 bits: the same, or both great and of one sign -/
theorem mul_rel {m j : Nat} (hj : m = 2 ^ j) (hm : m ≤ 32768) (W : Pw m) (x : Nat) (hx : rung .f32 x ≤ FloatKind.f32.format.infRung) :
  ∃ p q, wide (opO .mul .f32 (some x) (some (fI (m : Int)))) = some p ∧ opO .mul .f64 (wide (some x)) (some (fd (m : Int))) = some q ∧
    (p = q ∨ (rung .f64 t64 ≤ rung .f64 p ∧ rung .f64 t64 ≤ rung .f64 q ∧ sgn .f64 p = sgn .f64 q ∧ rung .f64 p ≤ FloatKind.f64.format.infRung ∧ rung .f64 q ≤ FloatKind.f64.format.infRung)) := by
  rw [wide_some, opO_some, opO_some]
  have one6 : rung .f64 4607182418800017408 < FloatKind.f64.format.infRung := by decide
  have one3 : rung .f32 1065353216 < FloatKind.f32.format.infRung := by decide
  rcases Nat.lt_or_eq_of_le hx with h1 | h1
  · obtain ⟨D, hD⟩ : ∃ D : Nat, D = 925 := ⟨_, rfl⟩
    obtain ⟨sx, zx⟩ := wide_zv h1 D hD
    have hD3 : zv .f32 FloatKind.f32.format.infRung * 2 ^ D ≤ zv .f64 FloatKind.f64.format.infRung := by rw [hD]; decide +kernel
    have hwf : rung .f64 (FloatKind.f64.encode (FloatKind.f32.decode x)) < FloatKind.f64.format.infRung := by
      refine (zv_lt .f64).1 ?_
      rw [zx]
      have h2 : zv .f32 (rung .f32 x) < zv .f32 FloatKind.f32.format.infRung := (zv_lt .f32).2 h1
      exact Nat.lt_of_lt_of_le (Nat.mul_lt_mul_of_pos_right h2 (Nat.two_pow_pos _)) hD3
    rcases Nat.lt_or_ge (rung .f32 x) (rung .f32 t32) with h2 | h2
    · -- small: both products are exact
      obtain ⟨r, hr⟩ := zv_dbl .f32 (rung .f32 x) j
      rw [← hj] at hr
      have hrf : r < FloatKind.f32.format.infRung := by
        refine (zv_lt .f32).1 ?_
        rw [hr]
        have h3 : zv .f32 (rung .f32 x) < zv .f32 (rung .f32 t32) := (zv_lt .f32).2 h2
        have h4 : zv .f32 (rung .f32 t32) * 32768 ≤ zv .f32 FloatKind.f32.format.infRung := by decide +kernel
        have h5 : zv .f32 (rung .f32 x) * m ≤ zv .f32 (rung .f32 x) * 32768 := Nat.mul_le_mul_left _ hm
        omega
      obtain ⟨p, e1, e2, e3⟩ := mul_exact .f32 h1 W.f3 W.s3 149 (by decide) W.z3 hrf hr
      have hpf : rung .f32 p < FloatKind.f32.format.infRung := by rw [e2]; exact hrf
      obtain ⟨sp, zp⟩ := wide_zv hpf D hD
      have hpw : rung .f64 (FloatKind.f64.encode (FloatKind.f32.decode p)) < FloatKind.f64.format.infRung := by
        refine (zv_lt .f64).1 ?_
        rw [zp]
        have h2 : zv .f32 (rung .f32 p) < zv .f32 FloatKind.f32.format.infRung := (zv_lt .f32).2 hpf
        exact Nat.lt_of_lt_of_le (Nat.mul_lt_mul_of_pos_right h2 (Nat.two_pow_pos _)) hD3
      obtain ⟨q, g1, g2, g3⟩ := mul_exact .f64 hwf W.f6 W.s6 1074 (by decide) W.z6 hpw (by rw [zp, e2, hr, zx, Nat.mul_assoc, Nat.mul_comm m, ← Nat.mul_assoc])
      have : FloatKind.f64.encode (FloatKind.f32.decode p) = q := sg_word_inj (FloatKind.f64.format.write_lt _) (op_lt g1) g2.symm (by rw [sp, e3, g3, sx])
      exact ⟨_, q, by rw [e1]; rfl, g1, .inl this⟩
    · obtain ⟨p, e1, e2, e3, e4⟩ := mul_big .f32 (t := t32) (o := 1065353216) h1 W.f3 W.s3 (by decide) one3 h2 W.o3 (by decide +kernel)
      obtain ⟨w1, w2⟩ := wide_big hx h2
      obtain ⟨q, g1, g2, g3, g4⟩ := mul_big .f64 (t := t64) (o := 4607182418800017408) hwf W.f6 W.s6 (by decide) one6 w1 W.o6 (by decide +kernel)
      obtain ⟨v1, v2⟩ := wide_big e4 e2
      exact ⟨_, q, by rw [e1]; rfl, g1, .inr ⟨v1, g2, by rw [v2, e3, g3, w2], rung_of_ab .f64 (ab_wide (ab_of32 e4)), g4⟩⟩
  · have hr : FloatKind.f32.format.read x = .infinity (sgn .f32 x) := read_inf .f32 h1
    have hd : FloatKind.f32.decode x = .infinity (sgn .f32 x) := hr
    have e1 : floatBits .mul .f32 x (fI (m : Int)) = some (FloatKind.f32.format.word (sgn .f32 x) FloatKind.f32.format.infRung) := by
      simp only [floatBits, Format.mul, hr, W.i3, Option.map_some]; rfl
    have hr6 : FloatKind.f64.format.read (FloatKind.f64.encode (FloatKind.f32.decode x)) = .infinity (sgn .f32 x) := by
      rw [hd]; cases sgn .f32 x <;> decide +kernel
    have e2 : floatBits .mul .f64 (FloatKind.f64.encode (FloatKind.f32.decode x)) (fd (m : Int)) = some (FloatKind.f64.format.word (sgn .f32 x) FloatKind.f64.format.infRung) := by
      simp only [floatBits, Format.mul, hr6, W.i6, Option.map_some]; rfl
    refine ⟨_, _, by rw [e1]; rfl, e2, .inl ?_⟩
    cases sgn .f32 x <;> decide +kernel
theorem cod_sat2 {m y : Nat} (C : Cst m) (h : rung .f64 t63 ≤ rung .f64 y) : codO m (some y) = if sgn .f64 y then -(m : Int) else (m : Int) - 1 := by
  have kM := key_pos C.sM; have kL := key_neg C.sL
  have zM := C.zM; have zL := C.zL; have pM := C.pM
  have ht : rung .f64 t63 = 1042 * 4503599627370496 := by decide
  rw [codO_some]
  cases hs : sgn .f64 y
  · have ky := key_pos hs
    rw [if_pos (by omega)]; rfl
  · have ky := key_neg hs
    rw [if_neg (by omega), if_pos (by omega)]; rfl
theorem add_inf {y d : Nat} (hy : rung .f64 y = FloatKind.f64.format.infRung) (hd : rung .f64 d < FloatKind.f64.format.infRung) : floatBits .add .f64 y d = some (FloatKind.f64.format.word (sgn .f64 y) FloatKind.f64.format.infRung) := by
  have h1 := read_inf .f64 hy
  obtain ⟨n, f, hn, _⟩ := read_fin .f64 hd
  simp only [floatBits, Format.add, h1, hn, Datum.sum, Option.map_some]
  rfl
theorem add_sat {m y d : Nat} (C : Cst m) (hy : rung .f64 y ≤ FloatKind.f64.format.infRung) (h : rung .f64 t64 ≤ rung .f64 y) (hd : rung .f64 d ≤ rung .f64 one64) : codO m (opO .add .f64 (some y) (some d)) = if sgn .f64 y then -(m : Int) else (m : Int) - 1 := by
  have hdf : rung .f64 d < FloatKind.f64.format.infRung := Nat.lt_of_le_of_lt hd (by decide)
  rw [opO_some]
  rcases Nat.lt_or_eq_of_le hy with h1 | h1
  · obtain ⟨r, e1, e2, e3⟩ := add_big h1 hdf h hd
    rw [e1, cod_sat2 C e2, e3]
  · rw [add_inf h1 hdf, cod_sat2 C (by unfold rung; rw [word_rung_mod _ _ (Nat.le_refl _)]; decide), sgn_wordR _ _ (Nat.le_refl _)]
theorem cod_add {m j : Nat} (hj : m = 2 ^ j) (hm : m ≤ 32768) (C : Cst m) (W : Pw m) (X : O) (hX : ∀ x, X = some x → rung .f32 x ≤ FloatKind.f32.format.infRung) (d : Nat) (hd : rung .f64 d ≤ rung .f64 one64) :
    codO m (opO .add .f64 (wide (opO .mul .f32 X (some (fI (m : Int))))) (some d)) = codO m (opO .add .f64 (opO .mul .f64 (wide X) (some (fd (m : Int)))) (some d)) := by
  cases X with
  | none => rfl
  | some x =>
    obtain ⟨p, q, e1, e2, h | ⟨h1, h2, h3, h4, h5⟩⟩ := mul_rel hj hm W x (hX x rfl)
    · rw [e1, e2, h]
    · rw [e1, e2, add_sat C h4 h1 hd, add_sat C h5 h2 hd, h3]
end Go.Proofs.Ytdibobheggffnaa

/- Bits: codes of samples, the model's. -/
set_option linter.unusedVariables false
set_option linter.unusedSimpArgs false
namespace Go.Proofs.Ytdibobheggffnaa
namespace Lo
open Fl Ieee
section
variable {P : Program} {ops : Array Oper} {rest : List Oper} {o : Oper} {a : Act} {Q : Act → Prop} {ds : List Nat}
/-- a call of a Go function with a float of the statement's own, which gives one value, whatever the float's bits -/
theorem wpL_callI {w : World} (hg : o.guard = none) (f : FuncId) (ys : List Operand) (vs : Nat → List Value) (tys : Array TypeId) (hop : o.op = Op.call ⟨.value (.func f), ys.toArray, tys⟩)
    (henter : ∀ args w2, (callFunc f args).run P w2 = .ok (.enter f args) w2)
    (k : FloatKind) (u : Option Nat) (v : Value) (hys : ∀ b, AR (fun i => ds.contains i) a b → ∃ q, Fv k q u ∧ ys.map b.eval = vs q)
    (hc : ∀ q m, Fv k q u → Calls P f (vs q).toArray (w.drewN m) fun e w2 => e = .returned v ∧ ∃ n, w2 = w.drewN n)
    (hK : wpL P ops (fun v => ∃ n, v = w.drewN n) (fun i => ds.contains i) Q rest (a.put o.dst v)) :
    wpL P ops (fun v => ∃ n, v = w.drewN n) (fun i => ds.contains i) Q (o :: rest) a := by
  refine wpL_of_loose hg (fun b hab w2 hw => ?_) hK
  obtain ⟨q, hq, h1⟩ := hys b hab
  have e : (execOp b.eval o).run P w2 = .ok (.enter f (vs q).toArray) w2 := by
    have ef : b.eval (.func f) = .func (.func f) #[] #[] := rfl
    simp [execOp, hop, resolve, ef, h1, invoke, Deferred.ofValue, henter, Result.andThen]
  rw [e]
  obtain ⟨m, rfl⟩ := hw
  refine ⟨⟨m, rfl⟩, (hc q m hq).mono fun e2 w3 ⟨he, n, hw3⟩ => ⟨v, he, okv.refl .., n, hw3⟩⟩
/-- a value that stays and a float of the statement's own -/
theorem keeps1 (i j : Nat) (vx : Value) {k : FloatKind} {p : Nat} {u : Option Nat} (hi : a.tmps.getD i undef = vx) (hd : ds.contains i = false) (hj : a.tmps.getD j undef = .float k p) (hp : RowKit.Hid (Fv k p u)) (b : Act) (h : AR (fun i => ds.contains i) a b) :
    ∃ q, Fv k q u ∧ [Operand.tmp i, Operand.tmp j].map b.eval = [vx, .float k q] := by
  obtain ⟨q, e, hq⟩ := VR_fl hp (by rw [← hj]; exact (h.2.2 j).1)
  refine ⟨q, hq, ?_⟩
  have e2 := (h.2.2 i).2 hd
  rw [hi] at e2
  show [b.tmps.getD i undef, b.tmps.getD j undef] = _
  rw [e, e2]
end
end Lo
open Fl Go.RowKit
def codL (F : Nat → Int) (k : Nat) : List Int := (List.range k).map F
theorem codL_len (F : Nat → Int) (k : Nat) : (codL F k).length = k := by simp [codL]
theorem codL_snoc (F : Nat → Int) (k : Nat) : codL F (k + 1) = codL F k ++ [F k] := by simp [codL, List.range_succ]
def codF (m : Nat) (xs : List Nat) (k : Nat) : Int := codO m (opO .mul .f64 (wide (ab .f32 (wd xs k))) (some (fd (m : Int))))
theorem fd_fv (c : Int) : Hid (Fv .f64 (floatOfInt .f64 c) (some (fd c))) := Lib.hid ⟨(fd_fits c).2, (fd_fits c).1⟩
set_option maxHeartbeats 4000000 in
set_option maxRecDepth 100000 in
theorem specCodesOf_ok (b : Nat) (A : Option Addr) (n c : Nat) (xs : List Nat) (w : World) (hA : Fs w w.heap.size A n xs) (hn : n ≤ 256) (h1 : 2 ≤ b) (h2 : b ≤ 16) :
    Calls Try.prog 29 #[.int .i64 b, .slice A n c] w (PJB n (codL (codF (mst b) xs) n) true w) := by
  have HA := Lib.hid hA
  have hb : inB (b : Int) 2 16 = true := by simp [inB]; omega
  have hfew : decide ((n : Int) ≤ 256) = true := decide_eq_true (by omega)
  have hm := mst_le h1 h2
  have hq : ∀ W, Calls Try.prog 64 #[.int .i64 b] W fun e w' => e = .returned (.int .i64 (mst b : Nat)) ∧ w' = W := fun W => (specMost_any b W h1 h2).mono fun _ _ ⟨a, b⟩ => ⟨a, b.symm⟩
  have hcd : ∀ (w : World) (X : O) (q m : Nat), Fv .f64 q X → Calls Try.prog 67 [.int .i64 b, .float .f64 q].toArray (w.drewN m) fun e w2 => e = .returned (.int .i64 (codO (mst b) X)) ∧ ∃ n, w2 = w.drewN n := fun w X q m hx =>
    (specCode_any b q X (w.drewN m) h1 h2 (Lib.hid hx)).mono fun _ _ ⟨a, b⟩ => ⟨a, m, b.symm⟩
  obtain ⟨m, hmm⟩ : ∃ m, m = mst b := ⟨_, rfl⟩
  rw [← hmm] at hq hcd hm ⊢
  have HQ := Lib.hid hq; have HC := Lib.hid hcd
  have f2 := fd_fv (m : Int)
  clear hA hq hcd hmm
  go_enter Try.func29, Try.ntmps29
  go_wp2_with (first | (go_at_call 62; refine (specBits_b b true _ hb).mono ?_; rintro e w' ⟨rfl, rfl⟩) | (go_at_call 49; refine (specFew_any _ _ _ _ _ hfew).mono ?_; rintro e w' ⟨rfl, rfl⟩))
  go_loopw [6, 7] (fun v i wr => ∃ k : Nat, k ≤ n ∧ i = .int .i64 k ∧ RwI w.heap.size wr v (codL (codF m xs) k) ∧ w.Since w.heap.size wr) (fun _ i _ => n - (intOf i).toNat)
  case atStart => exact ⟨0, Nat.zero_le _, rfl, RwI.start w _ (Nat.le_refl _), (World.Since.refl _ _).alloc (Nat.le_refl _) _⟩
  case round =>
    obtain ⟨k, hk, rfl, hr, hs⟩ := hrel
    have HR := Lib.hid hr; have HS := Lib.hid hs
    clear hr hs
    by_cases hlt : k < n
    · obtain ⟨g, off, rfl, hg, hc⟩ := HA.out.2.2 (by omega)
      have hcell : wr.cell? ⟨g, off + k, none⟩ = some (.float .f32 (wd xs k)) := (HS.out.cell (a := ⟨g, off + k, none⟩) hg).trans (hc k hlt)
      have hx : Hid (Fv .f32 (wd xs k) (ab .f32 (wd xs k))) := Lib.hid ⟨HA.out.2.1.at_ k, rfl⟩
      have eF : Hid (codF m xs k = codO m (opO .mul .f64 (wide (ab .f32 (wd xs k))) (some (fd (m : Int))))) := Lib.hid rfl
      have hsz := HS.out.size
      have hl := codL_len (codF m xs) k
      have eL := Lib.hid (codL_snoc (codF m xs) k)
      clear hc
      go_wp2_with fail
      refine Lo.wp_looseF_tail [29,33] 12 _ rfl rfl (by kernel_rfl) (by kernel_rfl) (fun _ _ _ h => h) ?_
      simp only [Nat.reduceSub, List.take_succ_cons, List.take_zero, List.drop_succ_cons, List.drop_zero, Act.eval, Act.put, List.setIfInBounds_toArray, List.set_cons_succ, List.set_cons_zero, Array.getD_eq_getD_getElem?, List.getElem?_toArray, List.getElem?_cons_succ, List.getElem?_cons_zero, Option.getD_some]
      repeat (first
        | (refine Lo.wpL_callI rfl 67 [.tmp 24, .tmp 33] (fun q => [.int .i64 b, .float .f64 q]) _ rfl (callsEnter 67 Try.f67 _ (by kernel_rfl) (by kernel_rfl) rfl) .f64 _ (.int .i64 (codO m _)) (Lo.keeps1 24 33 _ rfl (by decide) rfl (by assumption)) (fun q m' hq' => HC.out _ _ q m' hq') ?_; simp only [Act.put, List.setIfInBounds_toArray, List.set_cons_succ, List.set_cons_zero])
        | (refine Lo.wpL_move rfl _ (.inl rfl) (by decide) ?_; simp only [Act.put, List.setIfInBounds_toArray, List.set_cons_succ, List.set_cons_zero])
        | (refine Lo.wpL_move rfl _ (.inr rfl) (by decide) ?_; simp only [Act.put, List.setIfInBounds_toArray, List.set_cons_succ, List.set_cons_zero])
        | (refine Lo.wpL_fop rfl _ _ _ _ rfl rfl (by decide) _ _ _ _ _ rfl rfl (by assumption) (by assumption) ?_; intro rr hrr; simp only [Act.put, List.setIfInBounds_toArray, List.set_cons_succ, List.set_cons_zero])
        | (refine Lo.wpL_wide rfl _ _ _ rfl (by decide) _ _ rfl (by kernel_rfl) (by kernel_rfl) (by assumption) ?_; intro rr hrr; simp only [Act.put, List.setIfInBounds_toArray, List.set_cons_succ, List.set_cons_zero])
        | (refine Lo.wpL_quiet rfl (by decide) (fun K hK => ?_); go_big_quiet_op; first | (refine hK _ ?_; clear hK K) | (apply Exists.intro; refine ⟨fun _ => ?_, hK _ ?_⟩; (first | (go_at_call 64; exact (HQ.out _).mono fun _ _ ⟨h1, h2⟩ => ⟨h1, _, h2⟩)); clear hK K)))
      refine Lo.wpL_nil ?_
      refine Lo.after_fl rfl (by assumption) ?_; intro q29 h29; simp only [Act.put, List.setIfInBounds_toArray, List.set_cons_succ, List.set_cons_zero]
      refine Lo.after_fl rfl (by assumption) ?_; intro q33 h33; simp only [Act.put, List.setIfInBounds_toArray, List.set_cons_succ, List.set_cons_zero]
      refine Lo.after_nil ?_; intro nq
      rw [← eF.out]
      go_wp2_with (first | (at_builtin; refine wpList_app1I rfl (.tmp 23) (.tmp 35) rfl w.heap.size _ (codL (codF m xs) k) rfl _ (codF m xs k) rfl (by simp [go_sem]) (by omega) (by simp; omega) ((HR.out.drewN _).alloc _) ?_; intro v' w3 hR3 hS3))
      go_roundw
      case rel => exact ⟨k + 1, by omega, by go_num, by rw [eL.out]; exact hR3.out, HS.out.trans ((since_drewN ((World.Since.refl _ _).alloc hsz _) _).trans hS3.out)⟩
      case measure => simp [intOf]; omega
    · obtain rfl : k = n := by omega
      obtain ⟨p', cp, rfl, hpn, hg, hxs⟩ := HR.out.done
      rw [codL_len] at hpn
      have HG := Lib.hid hg; have HXS := Lib.hid hxs; have HN := Lib.hid hpn; clear hg hxs hpn
      go_wp2
      go_ret2
      exact ⟨p', cp, rfl, HN.out, HG.out, HXS.out, HS.out⟩
end Go.Proofs.Ytdibobheggffnaa

/- Bits: codes by a closure over products, the program's. -/
set_option linter.unusedVariables false
set_option linter.unusedSimpArgs false
namespace Go.Proofs.Ytdibobheggffnaa
open Fl Go.RowKit
/-- a row of n integers in block g -/
def ICells (w : World) (g : Nat) (n : Nat) (f : Nat → Value) : Prop := ∃ cs, w.heap[g]? = some (.cells cs 2 (0, 0)) ∧ ∀ j, j < n → cs[j]? = some (f j)
theorem ICells.cell {w : World} {g n : Nat} {f : Nat → Value} (h : ICells w g n f) {j : Nat} (hj : j < n) : w.cell? ⟨g, j, none⟩ = some (f j) := by
  obtain ⟨cs, hb, hc⟩ := h
  simp only [World.cell?, hb]
  simpa using hc j hj
theorem ICells.free {w : World} {g n : Nat} {f : Nat → Value} (h : ICells w g n f) (j : Nat) : w.frozen? ⟨g, j, none⟩ = false := by
  obtain ⟨cs, hb, hc⟩ := h
  simp [World.frozen?, hb]
theorem ICells.set {w : World} {g n : Nat} {f : Nat → Value} (h : ICells w g n f) (k : Nat) (v : Value) : ICells (w.setCell ⟨g, k, none⟩ v) g n (fun j => if j = k then v else f j) := by
  obtain ⟨cs, hb, hc⟩ := h
  refine ⟨cs.setIfInBounds k v, by simp [World.setCell, Array.getElem?_modify, hb], fun j hj => ?_⟩
  rw [Array.getElem?_setIfInBounds]
  have hsz2 : j < cs.size := (Array.getElem?_eq_some_iff.1 (hc j hj)).1
  show _ = some (if j = k then v else f j)
  by_cases e : j = k
  · subst e; rw [if_pos rfl, if_pos rfl, if_pos hsz2]
  · rw [if_neg (Ne.symm e), if_neg e]; exact hc j hj
theorem ICells.congr {w : World} {g n : Nat} {f f' : Nat → Value} (h : ICells w g n f) (e : ∀ j, j < n → f j = f' j) : ICells w g n f' := by
  obtain ⟨cs, hb, hc⟩ := h
  exact ⟨cs, hb, fun j hj => by rw [← e j hj]; exact hc j hj⟩
theorem ICells.drewN {w : World} {g n : Nat} {f : Nat → Value} (h : ICells w g n f) (k : Nat) : ICells (w.drewN k) g n f := h
theorem ICells.lt {w : World} {g n : Nat} {f : Nat → Value} (h : ICells w g n f) : g < w.heap.size := by
  obtain ⟨cs, hb, hc⟩ := h
  exact (Array.getElem?_eq_some_iff.1 hb).1
theorem ICells.of {w w' : World} {g n : Nat} {f : Nat → Value} (h : ICells w g n f) (e : w'.heap[g]? = w.heap[g]?) : ICells w' g n f := by
  obtain ⟨cs, hb, hc⟩ := h
  exact ⟨cs, e.trans hb, hc⟩
def ipar (F : Nat → Int) (k j : Nat) : Value := .int .i64 (if j < k then F j else 0)
theorem ICells.made (w : World) (n : Nat) (F : Nat → Int) : ICells (w.alloc (.cells (madeCells #[.int .i64 0] n) 2)) w.heap.size n (ipar F 0) := by
  obtain ⟨cs, hb, _, hc2⟩ := (World.rowIs_made w (.int .i64 0) n 2)
  exact ⟨cs, hb, fun j hj => by rw [hc2 j hj]; rfl⟩
theorem ICells.put {w : World} {g n k : Nat} {F : Nat → Int} (h : ICells w g n (ipar F k)) : ICells (w.setCell ⟨g, k, none⟩ (.int .i64 (F k))) g n (ipar F (k + 1)) :=
  (h.set k _).congr (fun j hj => by
    unfold ipar
    by_cases e : j = k
    · rw [if_pos e, if_pos (by omega), e]
    · rw [if_neg e]
      by_cases e2 : j < k
      · rw [if_pos e2, if_pos (by omega)]
      · rw [if_neg e2, if_neg (by omega)])
theorem ICells.done {w : World} {g n lo : Nat} {F : Nat → Int} (h : ICells w g n (ipar F n)) (hl : lo ≤ g) : IGs 2 w lo (some ⟨g, 0, none⟩) n (codL F n) := by
  refine ⟨codL_len _ _, fun _ => ?_⟩
  obtain ⟨cs, hb, hc⟩ := h
  refine ⟨_, cs, rfl, hl, hb, fun j hj => ?_⟩
  rw [hc j hj]; unfold ipar iv wi codL; rw [if_pos hj]
  simp [hj]
set_option maxHeartbeats 4000000 in
set_option maxRecDepth 100000 in
theorem codesBy_any (A : Option Addr) (n c m : Nat) (xs : List Nat) (F : FuncId) (caps : Array Value) (gr : Nat) (I : Nat → World → Prop) (Y : Nat → Int) (w : World) (h : Fs w gr A n xs) (hgr : gr < w.heap.size) (hn : n ≤ 256)
    (hent : ∀ args w, (callFunc F args).run Try.prog w = .ok (.enter F args) w)
    (hI : ∀ k W W', I k W → w.heap.size ≤ W.heap.size → W.heap.size ≤ W'.heap.size → (∀ b, b < w.heap.size → W'.heap[b]? = W.heap[b]?) → I k W')
    (hstep : ∀ k q W, k < n → Hid (Fv .f32 q (opO .mul .f32 (ab .f32 (wd xs k)) (some (fI (m : Int))))) → I k W → w.heap.size ≤ W.heap.size → Calls Try.prog F (#[.int .i64 (k : Int), .float .f32 q] ++ caps) W fun e W' => e = .returned (.int .i64 (Y k)) ∧ I (k + 1) W' ∧ On gr W W')
    (h0 : I 0 w) :
    Calls Try.prog 68 #[codV m, .slice A n c, .func (.func F) #[] caps] w fun e w' => ∃ g, e = .returned (.slice (some ⟨g, 0, none⟩) n n) ∧ IGs 2 w' w.heap.size (some ⟨g, 0, none⟩) n (codL Y n) ∧ I n w' ∧ On gr w w' := by
  have H := Lib.hid h
  have hmk := fun W => run_make_row' (P := Try.prog) 34 2 (.int .i64 0) 8 Try.underlying34 Try.infoI rfl .i64 .i64 n (by omega) (by omega) W
  have HI := Lib.hid hI; have HST := Lib.hid hstep; have H0 := Lib.hid h0; have HGR : gr < w.heap.size := hgr
  clear h hI hstep h0
  have f2 := fI_fv (m : Int)
  unfold codV
  obtain ⟨f, hf⟩ : ∃ f, f = floatOfInt .f32 (m : Int) := ⟨_, rfl⟩
  rw [← hf] at f2 ⊢; clear hf
  obtain ⟨W0, hW0⟩ : ∃ W, W = w.alloc (.cells #[.int .i64 (-(m : Int)), .int .i64 ((m : Int) - 1), .float .f32 f] 72) := ⟨_, rfl⟩
  have z0 : W0.heap.size = w.heap.size + 1 := by rw [hW0]; simp
  have b0 : Hid (∀ b, b < w.heap.size → W0.heap[b]? = w.heap[b]?) := Lib.hid (fun b hb => by rw [hW0]; exact ((World.Since.refl w.heap.size w).alloc (Nat.le_refl _) _).block b hb)
  have c2 : Hid (W0.heap[w.heap.size]? = some (.cells #[.int .i64 (-(m : Int)), .int .i64 ((m : Int) - 1), .float .f32 f] 72 (0, 0))) := Lib.hid (by rw [hW0]; exact Go.Deep.blk_alloc_new _ _)
  have o0 : Hid (On gr w W0) := Lib.hid (by rw [hW0]; exact (On.refl gr w).alloc (by omega) _)
  go_enter Try.func68, Try.ntmps68
  go_wp2
  rw [← hW0]
  clear hW0
  go_loopw [15] (fun i wr => ∃ k : Nat, k ≤ n ∧ i = .int .i64 k ∧ ICells wr (w.heap.size + 1) n (ipar Y k) ∧ I k wr ∧ On gr w wr ∧ wr.heap[w.heap.size]? = some (.cells #[.int .i64 (-(m : Int)), .int .i64 ((m : Int) - 1), .float .f32 f] 72 (0, 0))) (fun i _ => n - (intOf i).toNat)
  case atStart =>
    refine ⟨0, Nat.zero_le _, rfl, by rw [← z0]; exact ICells.made W0 n Y, HI.out 0 _ _ H0.out (Nat.le_refl _) (by simp; omega) (fun b hb => ?_), o0.out.alloc (by omega) _, ?_⟩
    · exact (((World.Since.refl W0.heap.size W0).alloc (Nat.le_refl _) _).block b (by omega)).trans (b0.out b hb)
    · exact (((World.Since.refl W0.heap.size W0).alloc (Nat.le_refl _) _).block _ (by omega)).trans c2.out
  case round =>
    obtain ⟨k, hk, rfl, hcs, hi, hon, hcb⟩ := hrel
    have HC := Lib.hid hcs; have HIK := Lib.hid hi; have HON := Lib.hid hon; have HCB := Lib.hid hcb
    have hsz : w.heap.size + 1 < wr.heap.size := hcs.lt
    clear hcs hi hon hcb
    by_cases hlt : k < n
    · obtain ⟨g, off, rfl, hg, hc⟩ := H.out.2.2 (by omega)
      have hcell : wr.cell? ⟨g, off + k, none⟩ = some (.float .f32 (wd xs k)) := (HON.out.1.cell (a := ⟨g, off + k, none⟩) hg).trans (hc k hlt)
      have d2 : wr.cell? ⟨w.heap.size, 2, none⟩ = some (.float .f32 f) := by simp [World.cell?, HCB.out]
      have f1 : Hid (Fv .f32 (wd xs k) (ab .f32 (wd xs k))) := Lib.hid ⟨H.out.2.1.at_ k, rfl⟩
      clear hc
      go_wp2_with (first | (with_reducible_and_instances refine Lo.wpList_fo _ rfl _ _ _ _ _ rfl _ _ _ _ _ rfl rfl rfl (by assumption) (by assumption) ?_; intro rr nn hrr) | fail)
      refine (HST.out k _ _ hlt hrr (HI.out k wr (wr.drewN nn) HIK.out (by omega) (Nat.le_refl _) (fun _ _ => rfl)) (by show _ ≤ wr.heap.size; omega)).mono ?_
      rintro e w2 ⟨rfl, hi1, ho1⟩
      have hz2 : wr.heap.size ≤ w2.heap.size := ho1.1.size
      have e1 := ho1.2 (w.heap.size + 1) hsz (by omega)
      have e2 := ho1.2 w.heap.size (show w.heap.size < wr.heap.size by omega) (by omega)
      have HC2 := Lib.hid (HC.out.of e1)
      have HCB2 := Lib.hid (e2.trans HCB.out)
      have hc2 : w2.cell? ⟨w.heap.size + 1, k, none⟩ = some (ipar Y k k) := HC2.out.cell hlt
      have hf2 : w2.frozen? ⟨w.heap.size + 1, k, none⟩ = false := HC2.out.free _
      have HI1 := Lib.hid hi1; have HO1 := Lib.hid ho1
      clear hi1 ho1 e1 e2
      go_wp2
      go_roundw
      case rel =>
        refine ⟨k + 1, by omega, by go_num, HC2.out.put, HI.out (k + 1) _ _ HI1.out (by omega) (by rw [Go.Deep.nblk_setCell]; exact Nat.le_refl _) (fun b hb => Go.Deep.blk_setCell_other _ _ _ _ (show b ≠ w.heap.size + 1 by omega)), ?_, ?_⟩
        · exact On.setNew ((show On gr w (wr.drewN nn) from HON.out.drewN _).trans HO1.out) (show w.heap.size ≤ w.heap.size + 1 by omega) (by omega)
        · exact (Go.Deep.blk_setCell_other _ _ _ _ (show w.heap.size ≠ w.heap.size + 1 by omega)).trans HCB2.out
      case measure => simp [intOf]; omega
    · obtain rfl : k = n := by omega
      go_wp2
      go_ret
      exact ⟨w.heap.size + 1, rfl, HC.out.done (by omega), HIK.out, HON.out⟩
end Go.Proofs.Ytdibobheggffnaa

/- Bits: codes that are codes: both. -/
set_option linter.unusedVariables false
set_option linter.unusedSimpArgs false
namespace Go.Proofs.Ytdibobheggffnaa
open Fl Go.RowKit
/-- all of the first k numbers are codes -/
def areC (m : Nat) (xs : List Int) (k : Nat) : Prop := ∀ j, j < k → inB (wi xs j) (-(m : Int)) ((m : Int) - 1) = true
theorem areC_snoc {m : Nat} {xs : List Int} {k : Nat} (h : areC m xs k) (h2 : inB (wi xs k) (-(m : Int)) ((m : Int) - 1) = true) : areC m xs (k + 1) := fun j hj => by
  by_cases e : j = k
  · subst e; exact h2
  · exact h j (by omega)
set_option maxHeartbeats 2000000 in
set_option maxRecDepth 100000 in
theorem specCodes_b (b : Nat) (A : Option Addr) (n c : Nat) (xs : List Int) (w : World) (hA : Is w w.heap.size A n xs) (hn : n ≤ 1048576) (h1 : 2 ≤ b) (h2 : b ≤ 16) (r : Bool) (hr : r = true ↔ n ≤ 256 ∧ areC (mst b) xs n) :
    Calls Try.prog 63 #[.int .i64 b, .slice A n c] w fun e w' => e = .returned (.bool r) ∧ w.Since w.heap.size w' := by
  have HA := Lib.hid hA
  have HR := Lib.hid hr
  have hm := mst_le h1 h2
  clear hA hr
  go_enter Try.func63, Try.ntmps63
  go_wp2
  go_loopw [5] (fun i wr => ∃ k : Nat, k ≤ n ∧ i = .int .i64 k ∧ (0 < k → n ≤ 256) ∧ areC (mst b) xs k ∧ w.Since w.heap.size wr) (fun i _ => n - (intOf i).toNat)
  case atStart => exact ⟨0, Nat.zero_le _, rfl, (fun h => by omega), fun j hj => by omega, World.Since.refl _ _⟩
  case round =>
    obtain ⟨k, hk, rfl, hc0, hz, hs⟩ := hrel
    have HZ := Lib.hid hz; have HS := Lib.hid hs; have H0 := Lib.hid hc0
    clear hz hs hc0
    by_cases hlt : k < n
    · cases h3 : decide ((n : Int) ≤ 256)
      · have h4 : ¬ n ≤ 256 := by have := of_decide_eq_false h3; omega
        have h5 : r = false := by
          cases h6 : r
          · rfl
          · exact absurd (HR.out.1 h6).1 h4
        subst h5
        go_wp2
        go_ret
        exact ⟨rfl, HS.out⟩
      · obtain ⟨g, off, rfl, hg, hc⟩ := HA.out.2 (by omega)
        have hcell : wr.cell? ⟨g, off + k, none⟩ = some (.int .i64 (wi xs k)) := (HS.out.cell (a := ⟨g, off + k, none⟩) hg).trans (hc k hlt)
        clear hc
        obtain ⟨m, hmm⟩ : ∃ m, m = mst b := ⟨_, rfl⟩
        rw [← hmm] at hm HZ
        have HM := Lib.hid hmm
        have hq : ∀ W, Calls Try.prog 64 #[.int .i64 b] W fun e w' => e = .returned (.int .i64 (m : Int)) ∧ w' = W := fun W => by
          rw [HM.out]; exact (specMost_any b W h1 h2).mono fun _ _ ⟨a, b⟩ => ⟨a, b.symm⟩
        have HQ := Lib.hid hq
        clear hq hmm
        have h4 := of_decide_eq_true h3
        obtain ⟨v, hv⟩ : ∃ v, v = inB (wi xs k) (-(m : Int)) ((m : Int) - 1) := ⟨_, rfl⟩
        have HV := Lib.hid hv
        clear hv
        go_wp2
        refine Lo.wp_loose_all [] (by kernel_rfl) (by kernel_rfl) ?_
        repeat (first
          | (refine Lo.wpL_move rfl _ (.inl rfl) (by decide) ?_; simp only [Act.put, List.setIfInBounds_toArray, List.set_cons_succ, List.set_cons_zero])
          | (refine Lo.wpL_move rfl _ (.inr rfl) (by decide) ?_; simp only [Act.put, List.setIfInBounds_toArray, List.set_cons_succ, List.set_cons_zero])
          | (refine Lo.wpL_fop rfl _ _ _ _ rfl rfl (by decide) _ _ _ _ _ rfl rfl (by assumption) (by assumption) ?_; intro rr hrr; simp only [Act.put, List.setIfInBounds_toArray, List.set_cons_succ, List.set_cons_zero])
          | (refine Lo.wpL_wide rfl _ _ _ rfl (by decide) _ _ rfl (by kernel_rfl) (by kernel_rfl) (by assumption) ?_; intro rr hrr; simp only [Act.put, List.setIfInBounds_toArray, List.set_cons_succ, List.set_cons_zero])
          | (refine Lo.wpL_quiet rfl (by decide) (fun K hK => ?_); go_big_quiet_op; first | (refine hK _ ?_; clear hK K) | (apply Exists.intro; refine ⟨fun _ => ?_, hK _ ?_⟩; (first | (go_at_call 64; exact (HQ.out _).mono fun _ _ ⟨h1, h2⟩ => ⟨h1, _, h2⟩) | (go_at_call 53; exact (specIn_b _ _ _ v _ HV.out.symm).mono fun _ _ ⟨h1, h2⟩ => ⟨h1, _, h2.symm⟩)); clear hK K)))
        refine Lo.wpL_nil ?_
        refine Lo.after_nil ?_; intro nq
        have hv2 := HV.out
        have HI : ∀ c : Bool, v = c → Hid (inB (wi xs k) (-(m : Int)) ((m : Int) - 1) = c) := fun c hc => Lib.hid (by rw [← HV.out]; exact hc)
        clear hv2 HV
        cases v
        · have h6 : r = false := by
            cases h6 : r
            · rfl
            · have h7 := (HR.out.1 h6).2 k hlt
              rw [← HM.out, (HI false rfl).out] at h7
              cases h7
          subst h6
          go_wp2
          go_ret
          exact ⟨rfl, since_drewN HS.out _⟩
        · have HI2 := (HI true rfl)
          clear HI
          go_wp2
          go_roundw
          case rel => exact ⟨k + 1, by omega, by go_num, (fun _ => by omega), by rw [← HM.out]; exact areC_snoc HZ.out HI2.out, since_drewN HS.out _⟩
          case measure => simp [intOf]; omega
    · obtain rfl : k = n := by omega
      have h5 : r = decide ((k : Int) ≤ 256) := by
        by_cases h6 : k ≤ 256
        · rw [HR.out.2 ⟨h6, HZ.out⟩]; exact (decide_eq_true (by omega)).symm
        · have : ¬ r = true := fun h => h6 (HR.out.1 h).1
          rw [Bool.eq_false_iff.2 this]; exact (decide_eq_false (by omega)).symm
      subst h5
      clear HR
      go_wp2
      go_ret
      exact ⟨rfl, HS.out⟩
/-- all of the first k numbers lie from a to b -/
def areB (a b : Int) (xs : List Int) (k : Nat) : Prop := ∀ j, j < k → inB (wi xs j) a b = true
set_option maxHeartbeats 2000000 in
set_option maxRecDepth 100000 in
theorem allAllow_any (A : Option Addr) (n c : Nat) (xs : List Int) (a b : Int) (r : Bool) (w : World) (B : Nat) (h : Is w B A n xs) (hB : B ≤ w.heap.size) (hn : n ≤ 1048576) (hr : r = true ↔ areB a b xs n) :
    Calls Try.prog 71 #[.slice A n c, .func (.func 55) #[.agg #[.int .i64 a, .int .i64 b]] #[]] w fun e w' => e = .returned (.bool r) ∧ w.Since w.heap.size w' := by
  have HA := Lib.hid h; have HR := Lib.hid hr
  clear h hr
  go_enter Try.func71, Try.ntmps71
  go_wp2
  go_loopw [9] (fun i wr => ∃ k : Nat, k ≤ n ∧ i = .int .i64 k ∧ areB a b xs k ∧ w.Since w.heap.size wr) (fun i _ => n - (intOf i).toNat)
  case atStart => exact ⟨0, Nat.zero_le _, rfl, (fun j hj => by omega), World.Since.refl _ _⟩
  case round =>
    obtain ⟨k, hk, rfl, hz, hs⟩ := hrel
    have HZ := Lib.hid hz; have HS := Lib.hid hs
    clear hz hs
    by_cases hlt : k < n
    · obtain ⟨g, off, rfl, hg, hc⟩ := HA.out.2 (by omega)
      have hcell : wr.cell? ⟨g, off + k, none⟩ = some (.int .i64 (wi xs k)) := (HS.out.cell (a := ⟨g, off + k, none⟩) (by show g < _; omega)).trans (hc k hlt)
      clear hc
      cases ho : inB (wi xs k) a b
      · have h6 : r = false := by
          cases h6 : r
          · rfl
          · have h7 := HR.out.1 h6 k hlt
            rw [ho] at h7; cases h7
        subst h6
        go_wp2_with (first | (go_at_call 55; refine (allowR a b (wi xs k) false _ ho).mono ?_; rintro e w2 ⟨rfl, rfl⟩))
        go_ret
        exact ⟨rfl, HS.out.trans ((World.Since.refl _ _).alloc HS.out.size _)⟩
      · have HO := Lib.hid ho
        go_wp2_with (first | (go_at_call 55; refine (allowR a b (wi xs k) true _ ho).mono ?_; rintro e w2 ⟨rfl, rfl⟩))
        go_roundw
        case rel =>
          refine ⟨k + 1, by omega, by go_num, fun j hj => ?_, HS.out.trans ((World.Since.refl _ _).alloc HS.out.size _)⟩
          by_cases e : j = k
          · subst e; exact HO.out
          · exact HZ.out j (by omega)
        case measure => simp [intOf]; omega
    · obtain rfl : k = n := by omega
      have h5 := HR.out.2 HZ.out
      subst h5
      clear HR
      go_wp2
      go_ret
      exact ⟨rfl, HS.out⟩
set_option maxHeartbeats 2000000 in
set_option maxRecDepth 100000 in
theorem areCodes_b (m : Nat) (A : Option Addr) (n c : Nat) (xs : List Int) (r : Bool) (w : World) (B : Nat) (h : Is w B A n xs) (hB : B ≤ w.heap.size) (hn : n ≤ 1048576) (hr : r = true ↔ n ≤ 256 ∧ areC m xs n) :
    Calls Try.prog 66 #[codV m, .slice A n c] w fun e w' => e = .returned (.bool r) ∧ w.Since w.heap.size w' := by
  have HA := Lib.hid h; have HR := Lib.hid hr
  clear h hr
  unfold codV
  obtain ⟨f, hf⟩ : ∃ f, f = floatOfInt .f32 (m : Int) := ⟨_, rfl⟩
  rw [← hf]; clear hf
  obtain ⟨W, hW⟩ : ∃ W, W = w.alloc (.cells #[.int .i64 (-(m : Int)), .int .i64 ((m : Int) - 1), .float .f32 f] 72) := ⟨_, rfl⟩
  have S1 : Hid (w.Since w.heap.size W) := Lib.hid (by rw [hW]; exact (World.Since.refl _ _).alloc (Nat.le_refl _) _)
  cases h3 : decide ((n : Int) ≤ 256)
  · have h4 : ¬ n ≤ 256 := by have := of_decide_eq_false h3; omega
    have h5 : r = false := by
      cases h6 : r
      · rfl
      · exact absurd (HR.out.1 h6).1 h4
    subst h5
    go_enter Try.func66, Try.ntmps66
    go_wp2
    go_ret
    exact ⟨rfl, by (repeat (first | (with_reducible refine Fl.sinDrew ?_) | (with_reducible refine World.Since.drew ?_) | (with_reducible refine Fl.sinSet ?_ ?_; rotate_left) | (with_reducible refine Fl.sinAlloc ?_ ?_; rotate_left) | with_reducible exact World.Since.refl _ _ | with_reducible assumption | (with_reducible refine Fl.sinStep (by with_reducible assumption) ?_))); all_goals (first | omega | (simp; done) | (simp; omega) | (simp [go_sem]; done) | (simp [go_sem]; omega))⟩
  · have h4 : n ≤ 256 := by have := of_decide_eq_true h3; omega
    have HR2 : Hid (r = true ↔ areB (-(m : Int)) ((m : Int) - 1) xs n) := Lib.hid ⟨fun h => (HR.out.1 h).2, fun h => HR.out.2 ⟨h4, h⟩⟩
    clear HR
    go_enter Try.func66, Try.ntmps66
    go_wp2_with fail
    rw [← hW]
    refine (allAllow_any A n c xs _ _ r W B (HA.out.keep fun g o hg => S1.out.cell (a := ⟨g, o, none⟩) (by show g < _; omega)) (Nat.le_trans hB S1.out.size) hn HR2.out).mono ?_
    rintro e w2 ⟨rfl, hs2⟩
    have HS2 := Lib.hid hs2; clear hs2
    go_wp2
    go_ret
    exact ⟨rfl, since_step S1.out HS2.out⟩
end Go.Proofs.Ytdibobheggffnaa

/- Bits: codes with noise, the model's. -/
set_option linter.unusedVariables false
set_option linter.unusedSimpArgs false
namespace Go.Proofs.Ytdibobheggffnaa
open Fl Go.RowKit
def SameV (w wr : World) : Prop := w = wr
def nsD (ns : List Int) (k : Nat) : Int := wi ns (2 * k) - wi ns (2 * k + 1)
def nsO (ns : List Int) (k : Nat) : O := opO .quo .f64 (some (fd (nsD ns k))) (some 4643211215818981376)
def witF (m : Nat) (xs : List Nat) (ns : List Int) (k : Nat) : Int := codO m (opO .add .f64 (opO .mul .f64 (wide (ab .f32 (wd xs k))) (some (fd (m : Int)))) (nsO ns k))
theorem fv256 : Hid (Fv .f64 4643211215818981376 (some 4643211215818981376)) := Lib.hid ⟨by decide, by decide⟩
def okWit (b : Int) (n n2 : Nat) (ns : List Int) : Prop := inB b 2 16 = true ∧ n ≤ 256 ∧ n2 = 2 * n ∧ areB 0 255 ns n2
set_option maxHeartbeats 8000000 in
set_option maxRecDepth 100000 in
theorem specWith_ok (b : Nat) (A A2 : Option Addr) (n c n2 c2 : Nat) (xs : List Nat) (ns : List Int) (w : World) (hA : Fs w w.heap.size A n xs) (hA2 : Is w w.heap.size A2 n2 ns) (hn : n ≤ 256) (h1 : 2 ≤ b) (h2 : b ≤ 16) (hn2 : n2 = 2 * n) (hns : areB 0 255 ns n2) :
    Calls Try.prog 35 #[.int .i64 b, .slice A n c, .slice A2 n2 c2] w (PJB n (codL (witF (mst b) xs ns) n) true w) := by
  have HN2 := Lib.hid hn2
  have hn3 : ((n2 : Int) != 2 * (n : Int)) = false := by simp; omega
  have hn4 : n2 ≤ 512 := by omega
  have HA := Lib.hid hA; have HA2 := Lib.hid hA2; have HNS := Lib.hid hns
  have hb : inB (b : Int) 2 16 = true := by simp [inB]; omega
  have hfew : decide ((n : Int) ≤ 256) = true := decide_eq_true (by omega)
  have hm := mst_le h1 h2
  have hq : ∀ W, Calls Try.prog 64 #[.int .i64 b] W fun e w' => e = .returned (.int .i64 (mst b : Nat)) ∧ w' = W := fun W => (specMost_any b W h1 h2).mono fun _ _ ⟨a, b⟩ => ⟨a, b.symm⟩
  have hcd : ∀ (w : World) (X : O) (q m : Nat), Fv .f64 q X → Calls Try.prog 67 [.int .i64 b, .float .f64 q].toArray (w.drewN m) fun e w2 => e = .returned (.int .i64 (codO (mst b) X)) ∧ ∃ n, w2 = w.drewN n := fun w X q m hx =>
    (specCode_any b q X (w.drewN m) h1 h2 (Lib.hid hx)).mono fun _ _ ⟨a, b⟩ => ⟨a, m, b.symm⟩
  obtain ⟨m, hmm⟩ : ∃ m, m = mst b := ⟨_, rfl⟩
  rw [← hmm] at hq hcd hm ⊢
  have HQ := Lib.hid hq; have HC := Lib.hid hcd
  have f2 := fd_fv (m : Int)
  clear hA hA2 hq hcd hmm hns hn2
  go_enter Try.func35, Try.ntmps35
  go_wp2_with (first | (go_at_call 62; refine (specBits_b b true _ hb).mono ?_; rintro e w' ⟨rfl, rfl⟩) | (go_at_call 49; refine (specFew_any _ _ _ _ _ hfew).mono ?_; rintro e w' ⟨rfl, rfl⟩))
  clear hn3
  go_loopw [8] (fun i wr => ∃ k : Nat, k ≤ n2 ∧ i = .int .i64 k ∧ SameV w wr) (fun i _ => n2 - (intOf i).toNat)
  case atStart => exact ⟨0, Nat.zero_le _, rfl, show _ = _ from rfl⟩
  case round =>
    obtain ⟨k, hk, rfl, HW⟩ := hrel
    have hW : w = wr := HW
    subst hW
    clear HW
    by_cases hlt : k < n2
    · obtain ⟨g, off, rfl, hg, hc⟩ := HA2.out.2 (by omega)
      have hcell : w.cell? ⟨g, off + k, none⟩ = some (.int .i64 (wi ns k)) := hc k hlt
      have hin := HNS.out k hlt
      clear hc
      go_wp2_with (first | (go_at_call 53; refine (specIn_b _ 0 255 true _ hin).mono ?_; rintro e w' ⟨rfl, rfl⟩))
      go_roundw
      case rel => exact ⟨k + 1, by omega, by go_num, show _ = _ from rfl⟩
      case measure => simp [intOf]; omega
    · obtain rfl : n2 = k := by omega
      go_wp2
      go_loopw [9, 10] (fun v i wr => ∃ k : Nat, k ≤ n ∧ i = .int .i64 k ∧ RwI w.heap.size wr v (codL (witF m xs ns) k) ∧ w.Since w.heap.size wr) (fun _ i _ => n - (intOf i).toNat)
      case atStart => exact ⟨0, Nat.zero_le _, rfl, RwI.start w _ (Nat.le_refl _), (World.Since.refl _ _).alloc (Nat.le_refl _) _⟩
      case round =>
        obtain ⟨k, hk, rfl, hr, hs⟩ := hrel
        have HR := Lib.hid hr; have HS := Lib.hid hs
        clear hr hs
        by_cases hlt : k < n
        · obtain ⟨g, off, rfl, hg, hc⟩ := HA.out.2.2 (by omega)
          have hcell : wr.cell? ⟨g, off + k, none⟩ = some (.float .f32 (wd xs k)) := (HS.out.cell (a := ⟨g, off + k, none⟩) hg).trans (hc k hlt)
          have q1 := HN2.out
          obtain ⟨g2, off2, rfl, hg2, hc2⟩ := HA2.out.2 (by omega)
          have hcell2 : wr.cell? ⟨g2, off2 + 2 * k, none⟩ = some (.int .i64 (wi ns (2 * k))) := (HS.out.cell (a := ⟨g2, off2 + 2 * k, none⟩) hg2).trans (hc2 _ (by omega))
          have hcell3 : wr.cell? ⟨g2, off2 + (2 * k + 1), none⟩ = some (.int .i64 (wi ns (2 * k + 1))) := (HS.out.cell (a := ⟨g2, off2 + (2 * k + 1), none⟩) hg2).trans (hc2 _ (by omega))
          have hx : Hid (Fv .f32 (wd xs k) (ab .f32 (wd xs k))) := Lib.hid ⟨HA.out.2.1.at_ k, rfl⟩
          have f3 := fd_fv (nsD ns k)
          have f4 := fv256
          have eF : Hid (witF m xs ns k = codO m (opO .add .f64 (opO .mul .f64 (wide (ab .f32 (wd xs k))) (some (fd (m : Int)))) (opO .quo .f64 (some (fd (nsD ns k))) (some 4643211215818981376)))) := Lib.hid rfl
          have hd1 := HNS.out (2 * k) (by omega)
          have hd2 := HNS.out (2 * k + 1) (by omega)
          simp only [inB, Bool.and_eq_true, decide_eq_true_eq] at hd1 hd2
          have eD : wi ns (2 * k) - wi ns (2 * k + 1) = nsD ns k := rfl
          have hsz := HS.out.size
          have hl := codL_len (witF m xs ns) k
          have eL := Lib.hid (codL_snoc (witF m xs ns) k)
          generalize nsD ns k = δ at *
          generalize wi ns (2 * k) = a1 at *
          generalize wi ns (2 * k + 1) = a2 at *
          have i1 : (2 * (k : Int)) < (n2 : Int) := by omega
          have i2 : (2 * (k : Int) + 1) < (n2 : Int) := by omega
          clear hc hc2 q1
          go_wp2_with fail
          refine Lo.wp_loose_all [51,55,11] (by kernel_rfl) (by kernel_rfl) ?_
          repeat (first
            | (refine Lo.wpL_move rfl _ (.inl rfl) (by decide) ?_; simp only [Act.put, List.setIfInBounds_toArray, List.set_cons_succ, List.set_cons_zero])
            | (refine Lo.wpL_move rfl _ (.inr rfl) (by decide) ?_; simp only [Act.put, List.setIfInBounds_toArray, List.set_cons_succ, List.set_cons_zero])
            | (refine Lo.wpL_fop rfl _ _ _ _ rfl rfl (by decide) _ _ _ _ _ rfl rfl (by assumption) (by assumption) ?_; intro rr hrr; simp only [Act.put, List.setIfInBounds_toArray, List.set_cons_succ, List.set_cons_zero])
            | (refine Lo.wpL_wide rfl _ _ _ rfl (by decide) _ _ rfl (by kernel_rfl) (by kernel_rfl) (by assumption) ?_; intro rr hrr; simp only [Act.put, List.setIfInBounds_toArray, List.set_cons_succ, List.set_cons_zero])
            | (refine Lo.wpL_quiet rfl (by decide) (fun K hK => ?_); go_big_quiet_op; first | (refine hK _ ?_; clear hK K) | (apply Exists.intro; refine ⟨fun _ => ?_, hK _ ?_⟩; (first | (go_at_call 64; exact (HQ.out _).mono fun _ _ ⟨h1, h2⟩ => ⟨h1, _, h2⟩)); clear hK K)))
          refine Lo.wpL_nil ?_
          refine Lo.after_fl rfl (by assumption) ?_; intro q51 h51; simp only [Act.put, List.setIfInBounds_toArray, List.set_cons_succ, List.set_cons_zero]
          refine Lo.after_fl rfl (by assumption) ?_; intro q55 h55; simp only [Act.put, List.setIfInBounds_toArray, List.set_cons_succ, List.set_cons_zero]
          refine Lo.after_fl rfl (by assumption) ?_; intro q11 h11; simp only [Act.put, List.setIfInBounds_toArray, List.set_cons_succ, List.set_cons_zero]
          refine Lo.after_nil ?_; intro nq
          go_wp2_with fail
          refine Lo.wp_looseF_tail [58,72,73] 19 _ rfl rfl (by kernel_rfl) (by kernel_rfl) (fun _ _ _ h => h) ?_
          simp only [Nat.reduceSub, List.take_succ_cons, List.take_zero, List.drop_succ_cons, List.drop_zero, Act.eval, Act.put, List.setIfInBounds_toArray, List.set_cons_succ, List.set_cons_zero, Array.getD_eq_getD_getElem?, List.getElem?_toArray, List.getElem?_cons_succ, List.getElem?_cons_zero, Option.getD_some]
          repeat (first
            | (refine Lo.wpL_callI rfl 67 [.tmp 57, .tmp 73] (fun q => [.int .i64 b, .float .f64 q]) _ rfl (callsEnter 67 Try.f67 _ (by kernel_rfl) (by kernel_rfl) rfl) .f64 _ (.int .i64 (codO m _)) (Lo.keeps1 57 73 _ rfl (by decide) rfl (by assumption)) (fun q m' hq' => HC.out _ _ q m' hq') ?_; simp only [Act.put, List.setIfInBounds_toArray, List.set_cons_succ, List.set_cons_zero])
            | (refine Lo.wpL_move rfl _ (.inl rfl) (by decide) ?_; simp only [Act.put, List.setIfInBounds_toArray, List.set_cons_succ, List.set_cons_zero])
            | (refine Lo.wpL_move rfl _ (.inr rfl) (by decide) ?_; simp only [Act.put, List.setIfInBounds_toArray, List.set_cons_succ, List.set_cons_zero])
            | (refine Lo.wpL_fop rfl _ _ _ _ rfl rfl (by decide) _ _ _ _ _ rfl rfl (by assumption) (by assumption) ?_; intro rr hrr; simp only [Act.put, List.setIfInBounds_toArray, List.set_cons_succ, List.set_cons_zero])
            | (refine Lo.wpL_wide rfl _ _ _ rfl (by decide) _ _ rfl (by kernel_rfl) (by kernel_rfl) (by assumption) ?_; intro rr hrr; simp only [Act.put, List.setIfInBounds_toArray, List.set_cons_succ, List.set_cons_zero])
            | (refine Lo.wpL_quiet rfl (by decide) (fun K hK => ?_); go_big_quiet_op; (refine hK _ ?_; clear hK K)))
          refine Lo.wpL_nil ?_
          refine Lo.after_fl rfl (by assumption) ?_; intro q58 h58; simp only [Act.put, List.setIfInBounds_toArray, List.set_cons_succ, List.set_cons_zero]
          refine Lo.after_fl rfl (by assumption) ?_; intro q72 h72; simp only [Act.put, List.setIfInBounds_toArray, List.set_cons_succ, List.set_cons_zero]
          refine Lo.after_fl rfl (by assumption) ?_; intro q73 h73; simp only [Act.put, List.setIfInBounds_toArray, List.set_cons_succ, List.set_cons_zero]
          refine Lo.after_nil ?_; intro nq
          rw [← eF.out]
          go_wp2_with (first | (at_builtin; refine wpList_app1I rfl (.tmp 56) (.tmp 75) rfl w.heap.size _ (codL (witF m xs ns) k) rfl _ (witF m xs ns k) rfl (by simp [go_sem]) (by omega) (by simp; omega) ((HR.out.drewN _).alloc _) ?_; intro v' w3 hR3 hS3))
          go_roundw
          case rel => exact ⟨k + 1, by omega, by go_num, by rw [eL.out]; exact hR3.out, HS.out.trans ((since_drewN ((World.Since.refl _ _).alloc hsz _) _).trans hS3.out)⟩
          case measure => simp [intOf]; omega
        · obtain rfl : k = n := by omega
          obtain ⟨p', cp, rfl, hpn, hg, hxs⟩ := HR.out.done
          rw [codL_len] at hpn
          have HG := Lib.hid hg; have HXS := Lib.hid hxs; have HN := Lib.hid hpn; clear hg hxs hpn
          go_wp2
          go_ret2
          exact ⟨p', cp, rfl, HN.out, HG.out, HXS.out, HS.out⟩
end Go.Proofs.Ytdibobheggffnaa

/- Walks of laws whose results are lists. -/
set_option linter.unusedVariables false
set_option linter.unusedSimpArgs false
namespace Go.Proofs.Ytdibobheggffnaa
open Fl Go.RowKit
set_option maxHeartbeats 16000000 in
set_option maxRecDepth 100000 in
theorem lawCountClipped_gen (a0 : Int) (A1 : Option Addr) (n1 c1 : Nat) (x1 : List Int) (ri0 : Int) (rb1 : Bool) (w : World)
    (h1 : Is w w.heap.size A1 n1 x1) (hn1 : n1 ≤ 1048576) 
    (hsp : ∀ (v : World) (b1 : Nat), Is v v.heap.size (some ⟨b1, 0, none⟩) n1 x1 → Calls Try.prog 25 #[.int .i64 a0, .slice (some ⟨b1, 0, none⟩) n1 n1] v (PIB ri0 rb1 v))
    (him : ∀ (v : World) (b1 : Nat), Is v v.heap.size (some ⟨b1, 0, none⟩) n1 x1 → Calls Try.prog 27 #[.int .i64 a0, .slice (some ⟨b1, 0, none⟩) n1 n1] v (PIB ri0 rb1 v)) :
    Calls Try.prog 6 #[.int .i64 a0, .slice A1 n1 c1] w fun e w' => e = .returned (.bool true) ∧ w.Since w.heap.size w' := by
  have S0 : Hid (w.Since w.heap.size w) := Lib.hid (World.Since.refl _ _)
  have F1 : Hid (Is w w.heap.size A1 n1 x1) := Lib.hid (h1.now S0.out); clear h1
  have hd1 : decide ((1048576 : Int) < n1) = false := decide_eq_false (by omega)
  have HSP := Lib.hid hsp; have HIM := Lib.hid him; clear hsp him
  go_enter Try.func6, Try.ntmps6
  go_wp2_with fail
  have S : Hid (w.Since w.heap.size w) := Lib.hid (World.Since.refl _ _)
  have LV : Hid (Hx w.heap.size w []) := Lib.hid trivial
  go_at_call 26
  refine (toIx_any A1 n1 c1 x1 w _ F1.out S.out hn1).mono ?_
  rintro e v1 ⟨rfl, hg, hs⟩
  have LV' := Lib.hid (LV.out.new hs hg S.out.size); clear LV; have LV := LV'; clear LV'
  have S' := Lib.hid (since_step S.out hs); clear S; have S := S'; clear S'
  clear hs hg
  go_wp2_with fail
  go_at_call 25
  refine (HSP.out _ _ ((LV.out.1.1).readI)).mono ?_
  rintro e v2 ⟨rfl, hs⟩
  have LV' := Lib.hid ((LV.out.2).since hs); clear LV; have LV := LV'; clear LV'
  have S' := Lib.hid (since_step S.out hs); clear S; have S := S'; clear S'
  clear hs
  go_wp2_with fail
  go_at_call 26
  refine (toIx_any A1 n1 c1 x1 w _ F1.out S.out hn1).mono ?_
  rintro e v3 ⟨rfl, hg, hs⟩
  have LV' := Lib.hid (LV.out.new hs hg S.out.size); clear LV; have LV := LV'; clear LV'
  have S' := Lib.hid (since_step S.out hs); clear S; have S := S'; clear S'
  clear hs hg
  go_wp2_with fail
  go_at_call 27
  refine (HIM.out _ _ ((LV.out.1.1).readI)).mono ?_
  rintro e v4 ⟨rfl, hs⟩
  have LV' := Lib.hid ((LV.out).since hs); clear LV; have LV := LV'; clear LV'
  have S' := Lib.hid (since_step S.out hs); clear S; have S := S'; clear S'
  clear hs
  go_wp2_with fail
  go_at_call 26
  refine (toIx_any A1 n1 c1 x1 w _ F1.out S.out hn1).mono ?_
  rintro e v5 ⟨rfl, hg, hs⟩
  have LV' := Lib.hid (LV.out.new hs hg S.out.size); clear LV; have LV := LV'; clear LV'
  have S' := Lib.hid (since_step S.out hs); clear S; have S := S'; clear S'
  clear hs hg
  go_wp2_with fail
  go_at_call 28
  refine (eqJ_any ⟨some ⟨v2.heap.size, 0, none⟩, n1, x1⟩ ⟨some ⟨v4.heap.size, 0, none⟩, n1, x1⟩ _ _ _ _ (LV.out.2.1.1).readI (LV.out.1.1).readI (by omega) rfl rfl rfl).mono ?_
  rintro e v6 ⟨rfl, hs⟩
  have S' := Lib.hid (since_step S.out hs); clear S; have S := S'; clear S'
  have LV' := Lib.hid (LV.out.since hs); clear LV; have LV := LV'; clear LV'
  clear hs
  have LV' := Lib.hid LV.out.2; clear LV; have LV := LV'; clear LV'
  go_wp2_with fail
  go_ret
  exact ⟨rfl, S.out⟩
set_option maxHeartbeats 2000000 in
set_option maxRecDepth 100000 in
theorem lawCountClipped_big (a0 : Int) (A1 : Option Addr) (n1 c1 : Nat) (w : World) (h : 1048576 < n1) :
    Calls Try.prog 6 #[.int .i64 a0, .slice A1 n1 c1] w fun e w' => e = .returned (.bool true) ∧ w.Since w.heap.size w' := by
  by_cases b1 : 1048576 < n1
  · have hd1 : decide ((1048576 : Int) < n1) = true := decide_eq_true (by omega)
    go_enter Try.func6, Try.ntmps6
    go_wp2
    go_ret
    exact ⟨rfl, by (repeat (first | (with_reducible refine Fl.sinDrew ?_) | (with_reducible refine World.Since.drew ?_) | (with_reducible refine Fl.sinSet ?_ ?_; rotate_left) | (with_reducible refine Fl.sinAlloc ?_ ?_; rotate_left) | with_reducible exact World.Since.refl _ _ | with_reducible assumption | (with_reducible refine Fl.sinStep (by with_reducible assumption) ?_))); all_goals (first | omega | (simp; done) | (simp; omega) | (simp [go_sem]; done) | (simp [go_sem]; omega))⟩
  · have hd1 : decide ((1048576 : Int) < n1) = false := decide_eq_false (by omega)
    omega
set_option maxHeartbeats 16000000 in
set_option maxRecDepth 100000 in
theorem lawSamplesOf_gen (a0 : Int) (A1 : Option Addr) (n1 c1 : Nat) (x1 : List Int) (rn0 : Nat) (rf0 : Nat → Option Nat) (rb1 : Bool) (w : World)
    (h1 : Is w w.heap.size A1 n1 x1) (hn1 : n1 ≤ 1048576) (hr0 : rn0 ≤ 1048576)
    (hsp : ∀ (v : World) (b1 : Nat), Is v v.heap.size (some ⟨b1, 0, none⟩) n1 x1 → Calls Try.prog 33 #[.int .i64 a0, .slice (some ⟨b1, 0, none⟩) n1 n1] v (PLB rn0 rf0 rb1 v))
    (him : ∀ (v : World) (b1 : Nat), Is v v.heap.size (some ⟨b1, 0, none⟩) n1 x1 → Calls Try.prog 34 #[.int .i64 a0, .slice (some ⟨b1, 0, none⟩) n1 n1] v (PLB rn0 rf0 rb1 v)) :
    Calls Try.prog 8 #[.int .i64 a0, .slice A1 n1 c1] w fun e w' => e = .returned (.bool true) ∧ w.Since w.heap.size w' := by
  have S0 : Hid (w.Since w.heap.size w) := Lib.hid (World.Since.refl _ _)
  have F1 : Hid (Is w w.heap.size A1 n1 x1) := Lib.hid (h1.now S0.out); clear h1
  have hd1 : decide ((1048576 : Int) < n1) = false := decide_eq_false (by omega)
  have HSP := Lib.hid hsp; have HIM := Lib.hid him; clear hsp him
  go_enter Try.func8, Try.ntmps8
  go_wp2_with fail
  have S : Hid (w.Since w.heap.size w) := Lib.hid (World.Since.refl _ _)
  have LV : Hid (Hx w.heap.size w []) := Lib.hid trivial
  go_at_call 26
  refine (toIx_any A1 n1 c1 x1 w _ F1.out S.out hn1).mono ?_
  rintro e v1 ⟨rfl, hg, hs⟩
  have LV' := Lib.hid (LV.out.new hs hg S.out.size); clear LV; have LV := LV'; clear LV'
  have S' := Lib.hid (since_step S.out hs); clear S; have S := S'; clear S'
  clear hs hg
  go_wp2_with fail
  go_at_call 33
  refine (HSP.out _ _ ((LV.out.1.1).readI)).mono ?_
  rintro e v2 ⟨w0, kw0, rfl, hnw0, hgw0, hfw0, hs⟩
  have LV' := Lib.hid ((LV.out.2).new hs hgw0.toX S.out.size); clear LV; have LV := LV'; clear LV'
  have S' := Lib.hid (since_step S.out hs); clear S; have S := S'; clear S'
  have Kw0 := Lib.hid hfw0; have Nw0 := Lib.hid hnw0; clear hfw0 hgw0 hnw0
  clear hs
  go_wp2_with fail
  go_at_call 26
  refine (toIx_any A1 n1 c1 x1 w _ F1.out S.out hn1).mono ?_
  rintro e v3 ⟨rfl, hg, hs⟩
  have LV' := Lib.hid (LV.out.new hs hg S.out.size); clear LV; have LV := LV'; clear LV'
  have S' := Lib.hid (since_step S.out hs); clear S; have S := S'; clear S'
  clear hs hg
  go_wp2_with fail
  go_at_call 34
  refine (HIM.out _ _ ((LV.out.1.1).readI)).mono ?_
  rintro e v4 ⟨g0, kg0, rfl, hng0, hgg0, hfg0, hs⟩
  have LV' := Lib.hid ((LV.out).new hs hgg0.toX S.out.size); clear LV; have LV := LV'; clear LV'
  have S' := Lib.hid (since_step S.out hs); clear S; have S := S'; clear S'
  have Kg0 := Lib.hid hfg0; have Ng0 := Lib.hid hng0; clear hfg0 hgg0 hng0
  clear hs
  go_wp2_with fail
  go_at_call 18
  refine (eqL_any g0 w0 _ _ _ _ (LV.out.1.1).readF (LV.out.2.2.1.1).readF (by rw [Ng0.out]; exact hr0) (Nw0.out.trans Ng0.out.symm) Kg0.out Kw0.out).mono ?_
  rintro e v5 ⟨rfl, hs⟩
  have S' := Lib.hid (since_step S.out hs); clear S; have S := S'; clear S'
  have LV' := Lib.hid (LV.out.since hs); clear LV; have LV := LV'; clear LV'
  clear hs
  go_wp2_with fail
  go_at_call 26
  refine (toIx_any A1 n1 c1 x1 w _ F1.out S.out hn1).mono ?_
  rintro e v6 ⟨rfl, hg, hs⟩
  have LV' := Lib.hid (LV.out.new hs hg S.out.size); clear LV; have LV := LV'; clear LV'
  have S' := Lib.hid (since_step S.out hs); clear S; have S := S'; clear S'
  clear hs hg
  go_wp2_with fail
  go_at_call 28
  refine (eqJ_any ⟨some ⟨v2.heap.size, 0, none⟩, n1, x1⟩ ⟨some ⟨v5.heap.size, 0, none⟩, n1, x1⟩ _ _ _ _ (LV.out.2.2.1.1).readI (LV.out.1.1).readI (by omega) rfl rfl rfl).mono ?_
  rintro e v7 ⟨rfl, hs⟩
  have S' := Lib.hid (since_step S.out hs); clear S; have S := S'; clear S'
  have LV' := Lib.hid (LV.out.since hs); clear LV; have LV := LV'; clear LV'
  clear hs
  have LV' := Lib.hid LV.out.2; clear LV; have LV := LV'; clear LV'
  go_wp2_with fail
  go_at_call 31
  refine (markIx_any (some ⟨v2.heap.size, 0, none⟩) n1 x1 _ (1) _ _ _ _ (Hx.front [_] LV.out) (hn1) (by have := Ng0.out; omega) (by first | rfl | omega | (push_cast; omega))).mono ?_
  rintro e v8 ⟨rfl, hlv, hs⟩
  have LV' := Lib.hid hlv; clear LV hlv; have LV := LV'; clear LV'
  have S' := Lib.hid (since_mark S.out hs); clear S hs; have S := S'; clear S'
  go_wp2_with fail
  go_at_call 18
  refine (eqL_any g0 w0 _ _ _ _ (LV.out.2.1.1).readF (LV.out.2.2.1.1).readF (by rw [Ng0.out]; exact hr0) (Nw0.out.trans Ng0.out.symm) Kg0.out Kw0.out).mono ?_
  rintro e v9 ⟨rfl, hs⟩
  have S' := Lib.hid (since_step S.out hs); clear S; have S := S'; clear S'
  have LV' := Lib.hid (LV.out.since hs); clear LV; have LV := LV'; clear LV'
  clear hs
  go_wp2_with fail
  go_at_call 19
  refine (markLx_any g0.A g0.n g0.xs _ (1) _ _ _ _ (Hx.front [_] LV.out) (by rw [Ng0.out]; exact hr0) (by have := Ng0.out; omega) (by first | rfl | omega | (push_cast; omega))).mono ?_
  rintro e v10 ⟨rfl, hlv, hs⟩
  have LV' := Lib.hid hlv; clear LV hlv; have LV := LV'; clear LV'
  have S' := Lib.hid (since_mark S.out hs); clear S hs; have S := S'; clear S'
  go_wp2_with fail
  go_at_call 20
  refine (heldLx_any g0.A g0.n _ (1) _ _ _ ((LV.out.1.1)) (by rw [Ng0.out]; exact hr0) (by have := Ng0.out; omega) (by first | rfl | omega | (push_cast; omega))).mono ?_
  rintro e v ⟨rfl, rfl⟩
  go_wp2_with fail
  go_at_call 26
  refine (toIx_any A1 n1 c1 x1 w _ F1.out S.out hn1).mono ?_
  rintro e v11 ⟨rfl, hg, hs⟩
  have LV' := Lib.hid (LV.out.new hs hg S.out.size); clear LV; have LV := LV'; clear LV'
  have S' := Lib.hid (since_step S.out hs); clear S; have S := S'; clear S'
  clear hs hg
  go_wp2_with fail
  go_at_call 34
  refine (HIM.out _ _ ((LV.out.1.1).readI)).mono ?_
  rintro e v12 ⟨h0, kh0, rfl, hnh0, hgh0, hfh0, hs⟩
  have LV' := Lib.hid ((LV.out.2).new hs hgh0.toX S.out.size); clear LV; have LV := LV'; clear LV'
  have S' := Lib.hid (since_step S.out hs); clear S; have S := S'; clear S'
  have Kh0 := Lib.hid hfh0; have Nh0 := Lib.hid hnh0; clear hfh0 hgh0 hnh0
  clear hs
  go_wp2_with fail
  go_at_call 18
  refine (eqL_any h0 w0 _ _ _ _ (LV.out.1.1).readF (LV.out.2.2.2.1.1).readF (by rw [Nh0.out]; exact hr0) (Nw0.out.trans Nh0.out.symm) Kh0.out Kw0.out).mono ?_
  rintro e v13 ⟨rfl, hs⟩
  have S' := Lib.hid (since_step S.out hs); clear S; have S := S'; clear S'
  have LV' := Lib.hid (LV.out.since hs); clear LV; have LV := LV'; clear LV'
  clear hs
  go_wp2_with fail
  go_at_call 20
  refine (heldLx_any g0.A g0.n _ (1) _ _ _ ((LV.out.2.1.1)) (by rw [Ng0.out]; exact hr0) (by have := Ng0.out; omega) (by first | rfl | omega | (push_cast; omega))).mono ?_
  rintro e v ⟨rfl, rfl⟩
  go_wp2_with fail
  go_ret
  exact ⟨rfl, S.out⟩
set_option maxHeartbeats 2000000 in
set_option maxRecDepth 100000 in
theorem lawSamplesOf_big (a0 : Int) (A1 : Option Addr) (n1 c1 : Nat) (w : World) (h : 1048576 < n1) :
    Calls Try.prog 8 #[.int .i64 a0, .slice A1 n1 c1] w fun e w' => e = .returned (.bool true) ∧ w.Since w.heap.size w' := by
  by_cases b1 : 1048576 < n1
  · have hd1 : decide ((1048576 : Int) < n1) = true := decide_eq_true (by omega)
    go_enter Try.func8, Try.ntmps8
    go_wp2
    go_ret
    exact ⟨rfl, by (repeat (first | (with_reducible refine Fl.sinDrew ?_) | (with_reducible refine World.Since.drew ?_) | (with_reducible refine Fl.sinSet ?_ ?_; rotate_left) | (with_reducible refine Fl.sinAlloc ?_ ?_; rotate_left) | with_reducible exact World.Since.refl _ _ | with_reducible assumption | (with_reducible refine Fl.sinStep (by with_reducible assumption) ?_))); all_goals (first | omega | (simp; done) | (simp; omega) | (simp [go_sem]; done) | (simp [go_sem]; omega))⟩
  · have hd1 : decide ((1048576 : Int) < n1) = false := decide_eq_false (by omega)
    omega
set_option maxHeartbeats 16000000 in
set_option maxRecDepth 100000 in
theorem lawCodesOf_gen (a0 : Int) (A1 : Option Addr) (n1 c1 : Nat) (x1 : List Nat) (rn0 : Nat) (rf0 : List Int) (rb1 : Bool) (w : World)
    (h1 : Fs w w.heap.size A1 n1 x1) (hn1 : n1 ≤ 1048576) (hr0 : rn0 ≤ 1048576)
    (hsp : ∀ (v : World) (b1 : Nat), Fs v v.heap.size (some ⟨b1, 0, none⟩) n1 x1 → Calls Try.prog 29 #[.int .i64 a0, .slice (some ⟨b1, 0, none⟩) n1 n1] v (PJB rn0 rf0 rb1 v))
    (him : ∀ (v : World) (b1 : Nat), Fs v v.heap.size (some ⟨b1, 0, none⟩) n1 x1 → Calls Try.prog 30 #[.int .i64 a0, .slice (some ⟨b1, 0, none⟩) n1 n1] v (PJB rn0 rf0 rb1 v)) :
    Calls Try.prog 7 #[.int .i64 a0, .slice A1 n1 c1] w fun e w' => e = .returned (.bool true) ∧ w.Since w.heap.size w' := by
  have S0 : Hid (w.Since w.heap.size w) := Lib.hid (World.Since.refl _ _)
  have F1 : Hid (Fs w w.heap.size A1 n1 x1) := Lib.hid (h1.now S0.out); clear h1
  have hd1 : decide ((1048576 : Int) < n1) = false := decide_eq_false (by omega)
  have HSP := Lib.hid hsp; have HIM := Lib.hid him; clear hsp him
  go_enter Try.func7, Try.ntmps7
  go_wp2_with fail
  have S : Hid (w.Since w.heap.size w) := Lib.hid (World.Since.refl _ _)
  have LV : Hid (Hx w.heap.size w []) := Lib.hid trivial
  go_at_call 16
  refine (toLx_any A1 n1 c1 x1 w _ F1.out S.out hn1).mono ?_
  rintro e v1 ⟨rfl, hg, hs⟩
  have LV' := Lib.hid (LV.out.new hs hg S.out.size); clear LV; have LV := LV'; clear LV'
  have S' := Lib.hid (since_step S.out hs); clear S; have S := S'; clear S'
  clear hs hg
  go_wp2_with fail
  go_at_call 29
  refine (HSP.out _ _ ((LV.out.1.1).readF)).mono ?_
  rintro e v2 ⟨w0, kw0, rfl, hnw0, hgw0, hfw0, hs⟩
  have LV' := Lib.hid ((LV.out.2).new hs hgw0.toX S.out.size); clear LV; have LV := LV'; clear LV'
  have S' := Lib.hid (since_step S.out hs); clear S; have S := S'; clear S'
  have Kw0 := Lib.hid hfw0; have Nw0 := Lib.hid hnw0; clear hfw0 hgw0 hnw0
  clear hs
  go_wp2_with fail
  go_at_call 16
  refine (toLx_any A1 n1 c1 x1 w _ F1.out S.out hn1).mono ?_
  rintro e v3 ⟨rfl, hg, hs⟩
  have LV' := Lib.hid (LV.out.new hs hg S.out.size); clear LV; have LV := LV'; clear LV'
  have S' := Lib.hid (since_step S.out hs); clear S; have S := S'; clear S'
  clear hs hg
  go_wp2_with fail
  go_at_call 30
  refine (HIM.out _ _ ((LV.out.1.1).readF)).mono ?_
  rintro e v4 ⟨g0, kg0, rfl, hng0, hgg0, hfg0, hs⟩
  have LV' := Lib.hid ((LV.out).new hs hgg0.toX S.out.size); clear LV; have LV := LV'; clear LV'
  have S' := Lib.hid (since_step S.out hs); clear S; have S := S'; clear S'
  have Kg0 := Lib.hid hfg0; have Ng0 := Lib.hid hng0; clear hfg0 hgg0 hng0
  clear hs
  go_wp2_with fail
  go_at_call 28
  refine (eqJ_any g0 w0 _ _ _ _ (LV.out.1.1).readI (LV.out.2.2.1.1).readI (by rw [Ng0.out]; exact hr0) (Nw0.out.trans Ng0.out.symm) Kg0.out Kw0.out).mono ?_
  rintro e v5 ⟨rfl, hs⟩
  have S' := Lib.hid (since_step S.out hs); clear S; have S := S'; clear S'
  have LV' := Lib.hid (LV.out.since hs); clear LV; have LV := LV'; clear LV'
  clear hs
  go_wp2_with fail
  go_at_call 16
  refine (toLx_any A1 n1 c1 x1 w _ F1.out S.out hn1).mono ?_
  rintro e v6 ⟨rfl, hg, hs⟩
  have LV' := Lib.hid (LV.out.new hs hg S.out.size); clear LV; have LV := LV'; clear LV'
  have S' := Lib.hid (since_step S.out hs); clear S; have S := S'; clear S'
  clear hs hg
  go_wp2_with fail
  go_at_call 18
  refine (eqL_any ⟨some ⟨v2.heap.size, 0, none⟩, n1, x1⟩ ⟨some ⟨v5.heap.size, 0, none⟩, n1, x1⟩ _ _ _ _ (LV.out.2.2.1.1).readF (LV.out.1.1).readF (by omega) rfl (fun _ _ => rfl) (fun _ _ => rfl)).mono ?_
  rintro e v7 ⟨rfl, hs⟩
  have S' := Lib.hid (since_step S.out hs); clear S; have S := S'; clear S'
  have LV' := Lib.hid (LV.out.since hs); clear LV; have LV := LV'; clear LV'
  clear hs
  have LV' := Lib.hid LV.out.2; clear LV; have LV := LV'; clear LV'
  go_wp2_with fail
  go_at_call 19
  refine (markLx_any (some ⟨v2.heap.size, 0, none⟩) n1 x1 _ (1) _ _ _ _ (Hx.front [_] LV.out) (hn1) (by have := Ng0.out; omega) (by first | rfl | omega | (push_cast; omega))).mono ?_
  rintro e v8 ⟨rfl, hlv, hs⟩
  have LV' := Lib.hid hlv; clear LV hlv; have LV := LV'; clear LV'
  have S' := Lib.hid (since_mark S.out hs); clear S hs; have S := S'; clear S'
  go_wp2_with fail
  go_at_call 28
  refine (eqJ_any g0 w0 _ _ _ _ (LV.out.2.1.1).readI (LV.out.2.2.1.1).readI (by rw [Ng0.out]; exact hr0) (Nw0.out.trans Ng0.out.symm) Kg0.out Kw0.out).mono ?_
  rintro e v9 ⟨rfl, hs⟩
  have S' := Lib.hid (since_step S.out hs); clear S; have S := S'; clear S'
  have LV' := Lib.hid (LV.out.since hs); clear LV; have LV := LV'; clear LV'
  clear hs
  go_wp2_with fail
  go_at_call 31
  refine (markIx_any g0.A g0.n g0.xs _ (1) _ _ _ _ (Hx.front [_] LV.out) (by rw [Ng0.out]; exact hr0) (by have := Ng0.out; omega) (by first | rfl | omega | (push_cast; omega))).mono ?_
  rintro e v10 ⟨rfl, hlv, hs⟩
  have LV' := Lib.hid hlv; clear LV hlv; have LV := LV'; clear LV'
  have S' := Lib.hid (since_mark S.out hs); clear S hs; have S := S'; clear S'
  go_wp2_with fail
  go_at_call 32
  refine (heldIx_any g0.A g0.n _ (1) _ _ _ ((LV.out.1.1)) (by rw [Ng0.out]; exact hr0) (by have := Ng0.out; omega) (by first | rfl | omega | (push_cast; omega))).mono ?_
  rintro e v ⟨rfl, rfl⟩
  go_wp2_with fail
  go_at_call 16
  refine (toLx_any A1 n1 c1 x1 w _ F1.out S.out hn1).mono ?_
  rintro e v11 ⟨rfl, hg, hs⟩
  have LV' := Lib.hid (LV.out.new hs hg S.out.size); clear LV; have LV := LV'; clear LV'
  have S' := Lib.hid (since_step S.out hs); clear S; have S := S'; clear S'
  clear hs hg
  go_wp2_with fail
  go_at_call 30
  refine (HIM.out _ _ ((LV.out.1.1).readF)).mono ?_
  rintro e v12 ⟨h0, kh0, rfl, hnh0, hgh0, hfh0, hs⟩
  have LV' := Lib.hid ((LV.out.2).new hs hgh0.toX S.out.size); clear LV; have LV := LV'; clear LV'
  have S' := Lib.hid (since_step S.out hs); clear S; have S := S'; clear S'
  have Kh0 := Lib.hid hfh0; have Nh0 := Lib.hid hnh0; clear hfh0 hgh0 hnh0
  clear hs
  go_wp2_with fail
  go_at_call 28
  refine (eqJ_any h0 w0 _ _ _ _ (LV.out.1.1).readI (LV.out.2.2.2.1.1).readI (by rw [Nh0.out]; exact hr0) (Nw0.out.trans Nh0.out.symm) Kh0.out Kw0.out).mono ?_
  rintro e v13 ⟨rfl, hs⟩
  have S' := Lib.hid (since_step S.out hs); clear S; have S := S'; clear S'
  have LV' := Lib.hid (LV.out.since hs); clear LV; have LV := LV'; clear LV'
  clear hs
  go_wp2_with fail
  go_at_call 32
  refine (heldIx_any g0.A g0.n _ (1) _ _ _ ((LV.out.2.1.1)) (by rw [Ng0.out]; exact hr0) (by have := Ng0.out; omega) (by first | rfl | omega | (push_cast; omega))).mono ?_
  rintro e v ⟨rfl, rfl⟩
  go_wp2_with fail
  go_ret
  exact ⟨rfl, S.out⟩
set_option maxHeartbeats 2000000 in
set_option maxRecDepth 100000 in
theorem lawCodesOf_big (a0 : Int) (A1 : Option Addr) (n1 c1 : Nat) (w : World) (h : 1048576 < n1) :
    Calls Try.prog 7 #[.int .i64 a0, .slice A1 n1 c1] w fun e w' => e = .returned (.bool true) ∧ w.Since w.heap.size w' := by
  by_cases b1 : 1048576 < n1
  · have hd1 : decide ((1048576 : Int) < n1) = true := decide_eq_true (by omega)
    go_enter Try.func7, Try.ntmps7
    go_wp2
    go_ret
    exact ⟨rfl, by (repeat (first | (with_reducible refine Fl.sinDrew ?_) | (with_reducible refine World.Since.drew ?_) | (with_reducible refine Fl.sinSet ?_ ?_; rotate_left) | (with_reducible refine Fl.sinAlloc ?_ ?_; rotate_left) | with_reducible exact World.Since.refl _ _ | with_reducible assumption | (with_reducible refine Fl.sinStep (by with_reducible assumption) ?_))); all_goals (first | omega | (simp; done) | (simp; omega) | (simp [go_sem]; done) | (simp [go_sem]; omega))⟩
  · have hd1 : decide ((1048576 : Int) < n1) = false := decide_eq_false (by omega)
    omega
end Go.Proofs.Ytdibobheggffnaa

/- Bits: codes of samples, the program's; the law. -/
set_option linter.unusedVariables false
set_option linter.unusedSimpArgs false
namespace Go.Proofs.Ytdibobheggffnaa
open Fl Go.RowKit
/-- a coder in block g -/
def CodB (w : World) (g m : Nat) : Prop := w.heap[g]? = some (.cells #[.int .i64 (-(m : Int)), .int .i64 ((m : Int) - 1), .float .f32 (floatOfInt .f32 (m : Int))] 72 (0, 0))
theorem On.ofS {g : Nat} {W W' : World} (h : W.Since W.heap.size W') (hg : g ≤ W.heap.size) : On g W W' := ⟨since_mono h hg, fun b hb _ => h.block b hb⟩
set_option maxHeartbeats 2000000 in
set_option maxRecDepth 100000 in
theorem codClos_any (m g i : Nat) (q : Nat) (X : O) (W : World) (C : Cst m) (hm : 2 ≤ m ∧ m ≤ 32768) (hx : Hid (Fv .f32 q X)) (hg : CodB W g m) :
    Calls Try.prog 69 #[.int .i64 (i : Int), .float .f32 q, .pointer (some ⟨g, 0, none⟩)] W fun e W' => e = .returned (.int .i64 (codO m (wide X))) ∧ W.Since W.heap.size W' := by
  have HN := Lib.hid (fun x X W hx => implNear_any m x X W C hm hx)
  unfold codV at HN
  unfold CodB at hg
  obtain ⟨f, hf⟩ : ∃ f, f = floatOfInt .f32 (m : Int) := ⟨_, rfl⟩
  rw [← hf] at HN hg; clear hf C
  have d0 : W.cell? ⟨g, 0, none⟩ = some (.int .i64 (-(m : Int))) := by simp [World.cell?, hg]
  have d1 : W.cell? ⟨g, 1, none⟩ = some (.int .i64 ((m : Int) - 1)) := by simp [World.cell?, hg]
  have d2 : W.cell? ⟨g, 2, none⟩ = some (.float .f32 f) := by simp [World.cell?, hg]
  clear hg
  go_enter Try.func69, Try.ntmps69
  go_wp2_with (first | (with_reducible_and_instances refine Lo.wpList_wi _ rfl _ _ _ rfl _ _ rfl (by kernel_rfl) (by kernel_rfl) (by assumption) ?_; intro rr nn hrr) | (go_at_call 70; refine (HN.out _ _ _ hrr).mono ?_; rintro e w2 ⟨rfl, hs2⟩; have HS2 := Lib.hid hs2; clear hs2))
  go_ret
  exact ⟨rfl, by (repeat (first | (with_reducible refine Fl.sinDrew ?_) | (with_reducible refine World.Since.drew ?_) | (with_reducible refine Fl.sinSet ?_ ?_; rotate_left) | (with_reducible refine Fl.sinAlloc ?_ ?_; rotate_left) | with_reducible exact World.Since.refl _ _ | with_reducible assumption | (with_reducible refine Fl.sinStep (by with_reducible assumption) ?_))); all_goals (first | omega | (simp; done) | (simp; omega) | (simp [go_sem]; done) | (simp [go_sem]; omega))⟩
theorem rung_small {x : Nat} (hx : x < 4294967296) : ∀ y, ab .f32 x = some y → rung .f32 y ≤ FloatKind.f32.format.infRung := fun y h => by
  have h2 := h
  unfold ab at h2
  split at h2
  · cases h2
  · injection h2 with h2
    subst h2
    exact rung_of_ab .f32 h
set_option maxHeartbeats 4000000 in
set_option maxRecDepth 100000 in
theorem implCodesOf_ok (b : Nat) (A : Option Addr) (n c : Nat) (xs : List Nat) (w : World) (hA : Fs w w.heap.size A n xs) (hn : n ≤ 256) (h1 : 2 ≤ b) (h2 : b ≤ 16) :
    Calls Try.prog 30 #[.int .i64 b, .slice A n c] w (PJB n (codL (codF (mst b) xs) n) true w) := by
  have HA := Lib.hid hA
  have hfew : decide ((n : Int) ≤ 256) = true := decide_eq_true (by omega)
  have hm := mst_le h1 h2
  have C := cst_of h1 h2
  have Pw := pw_of h1 h2
  have hq := fun W => coderOf_ok b W h1 h2
  have hmul : ∀ k, codO (mst b) (wide (opO .mul .f32 (ab .f32 (wd xs k)) (some (fI (mst b : Int))))) = codF (mst b) xs k := fun k => cod_mul (j := b - 1) rfl hm.2 C Pw _ (rung_small (HA.out.2.1.at_ k))
  obtain ⟨m, hmm⟩ : ∃ m, m = mst b := ⟨_, rfl⟩
  rw [← hmm] at hq hm C hmul ⊢
  have hby := fun (A : Option Addr) (gr : Nat) (W : World) (g : Nat) => codesBy_any A n c m xs 69 #[.pointer (some ⟨g, 0, none⟩)] gr (fun _ W => CodB W g m) (codF m xs) W
  have HB : Hid (∀ (W : World) (g : Nat), Fs W g A n xs → g < W.heap.size → CodB W g m → Calls Try.prog 68 #[codV m, .slice A n c, .func (.func 69) #[] #[.pointer (some ⟨g, 0, none⟩)]] W fun e w' => ∃ g', e = .returned (.slice (some ⟨g', 0, none⟩) n n) ∧ IGs 2 w' W.heap.size (some ⟨g', 0, none⟩) n (codL (codF m xs) n) ∧ W.Since g w') := Lib.hid (fun W g hf hg hc =>
    (hby A g W g hf hg hn (fun _ _ => rfl) (fun k V V' h3 _ _ h4 => by unfold CodB at *; rw [h4 g hg]; exact h3) (fun k q V hk hqq hi hs => by
      refine (codClos_any m g k q _ V C hm hqq hi).mono ?_
      rintro e V' ⟨rfl, hs'⟩
      refine ⟨by rw [hmul], ?_, On.ofS hs' (by omega)⟩
      unfold CodB at *
      rw [hs'.block g (by omega)]; exact hi) hc).mono fun e w' ⟨g', a, b', _, d⟩ => ⟨g', a, b', d.1⟩)
  unfold codV at hq HB
  unfold CodB at HB
  obtain ⟨f, hf⟩ : ∃ f, f = floatOfInt .f32 (m : Int) := ⟨_, rfl⟩
  rw [← hf] at hq HB
  have HQ := Lib.hid hq
  clear hq hf hmm hA C Pw hmul hby
  go_enter Try.func30, Try.ntmps30
  go_wp2_with (first | (go_at_call 65; refine (HQ.out _).mono ?_; rintro e w1 ⟨rfl, hs1⟩; have HS1 := Lib.hid hs1; clear hs1) | fail)
  obtain ⟨W, hW⟩ : ∃ W, W = w1.alloc (.cells #[.int .i64 (-(m : Int)), .int .i64 ((m : Int) - 1), .float .f32 f] 72) := ⟨_, rfl⟩
  rw [← hW]
  have S1 : Hid (w.Since w.heap.size W) := Lib.hid (HS1.out.trans (by rw [hW]; exact (World.Since.refl _ _).alloc HS1.out.size _))
  have z1 : w1.heap.size < W.heap.size := by rw [hW]; simp
  have zs := HS1.out.size
  have CB : Hid (W.heap[w1.heap.size]? = some (.cells #[.int .i64 (-(m : Int)), .int .i64 ((m : Int) - 1), .float .f32 f] 72 (0, 0))) := Lib.hid (by rw [hW]; exact Go.Deep.blk_alloc_new _ _)
  clear hW
  have d0 : W.cell? ⟨w1.heap.size, 0, none⟩ = some (.int .i64 (-(m : Int))) := by simp [World.cell?, CB.out]
  have d1 : W.cell? ⟨w1.heap.size, 1, none⟩ = some (.int .i64 ((m : Int) - 1)) := by simp [World.cell?, CB.out]
  have d2 : W.cell? ⟨w1.heap.size, 2, none⟩ = some (.float .f32 f) := by simp [World.cell?, CB.out]
  go_wp2_with (first | (go_at_call 56; refine (implSamples_b _ _ _ _ _ hfew).mono ?_; rintro e w' ⟨rfl, rfl⟩) | fail)
  refine (HB.out W w1.heap.size ((HA.out.since S1.out).more zs) z1 CB.out).mono ?_
  rintro e w2 ⟨g', rfl, hg, hs⟩
  have HG := Lib.hid hg; have HS := Lib.hid hs; clear hg hs
  go_wp2
  go_ret2
  exact ⟨⟨some ⟨g', 0, none⟩, n, codL (codF m xs) n⟩, n, rfl, rfl, HG.out.less (by omega), rfl, S1.out.trans (since_mono HS.out zs)⟩
set_option maxHeartbeats 2000000 in
theorem specCodesOf_no (b : Int) (A : Option Addr) (n c : Nat) (w : World) (h : ¬ (inB b 2 16 = true ∧ n ≤ 256)) : Calls Try.prog 29 #[.int .i64 b, .slice A n c] w (PJB 0 [] false w) := by
  cases hb : inB b 2 16
  · go_enter Try.func29, Try.ntmps29
    go_wp2_with (go_at_call 62; refine (specBits_b b false _ hb).mono ?_; rintro e w' ⟨rfl, rfl⟩)
    go_ret2
    exact PJB.none_ (by (repeat (first | (with_reducible refine Fl.sinDrew ?_) | (with_reducible refine World.Since.drew ?_) | (with_reducible refine Fl.sinSet ?_ ?_; rotate_left) | (with_reducible refine Fl.sinAlloc ?_ ?_; rotate_left) | with_reducible exact World.Since.refl _ _ | with_reducible assumption | (with_reducible refine Fl.sinStep (by with_reducible assumption) ?_))); all_goals (first | omega | (simp; done) | (simp; omega) | (simp [go_sem]; done) | (simp [go_sem]; omega)))
  · have hfew : decide ((n : Int) ≤ 256) = false := decide_eq_false (fun h2 => h ⟨hb, by omega⟩)
    go_enter Try.func29, Try.ntmps29
    go_wp2_with (first | (go_at_call 62; refine (specBits_b b true _ hb).mono ?_; rintro e w' ⟨rfl, rfl⟩) | (go_at_call 49; refine (specFew_any _ _ _ _ _ hfew).mono ?_; rintro e w' ⟨rfl, rfl⟩))
    go_ret2
    exact PJB.none_ (by (repeat (first | (with_reducible refine Fl.sinDrew ?_) | (with_reducible refine World.Since.drew ?_) | (with_reducible refine Fl.sinSet ?_ ?_; rotate_left) | (with_reducible refine Fl.sinAlloc ?_ ?_; rotate_left) | with_reducible exact World.Since.refl _ _ | with_reducible assumption | (with_reducible refine Fl.sinStep (by with_reducible assumption) ?_))); all_goals (first | omega | (simp; done) | (simp; omega) | (simp [go_sem]; done) | (simp [go_sem]; omega)))
set_option maxHeartbeats 2000000 in
theorem implCodesOf_no (b : Int) (A : Option Addr) (n c : Nat) (w : World) (h : ¬ (inB b 2 16 = true ∧ n ≤ 256)) : Calls Try.prog 30 #[.int .i64 b, .slice A n c] w (PJB 0 [] false w) := by
  cases hb : inB b 2 16
  · have hq := fun W => coderOf_no b W hb
    unfold codZ at hq
    have HQ := Lib.hid hq
    clear hq
    go_enter Try.func30, Try.ntmps30
    go_wp2_with (first | (go_at_call 65; refine (HQ.out _).mono ?_; rintro e w1 ⟨rfl, hs1⟩; have HS1 := Lib.hid hs1; clear hs1))
    go_ret2
    exact PJB.none_ (HS1.out.trans (since_mono (show World.Since w1.heap.size w1 _ from by (repeat (first | (with_reducible refine Fl.sinDrew ?_) | (with_reducible refine World.Since.drew ?_) | (with_reducible refine Fl.sinSet ?_ ?_; rotate_left) | (with_reducible refine Fl.sinAlloc ?_ ?_; rotate_left) | with_reducible exact World.Since.refl _ _ | with_reducible assumption | (with_reducible refine Fl.sinStep (by with_reducible assumption) ?_))); all_goals (first | omega | (simp; done) | (simp; omega) | (simp [go_sem]; done) | (simp [go_sem]; omega))) HS1.out.size))
  · have hb2 := hb
    simp only [inB, Bool.and_eq_true, decide_eq_true_eq] at hb2
    obtain ⟨b', rfl⟩ : ∃ b' : Nat, b = b' := ⟨b.toNat, by omega⟩
    have hfew : decide ((n : Int) ≤ 256) = false := decide_eq_false (fun h2 => h ⟨hb, by omega⟩)
    have hq := fun W => coderOf_ok b' W (by omega) (by omega)
    unfold codV at hq
    obtain ⟨m, hm⟩ : ∃ m, m = mst b' := ⟨_, rfl⟩
    rw [← hm] at hq
    obtain ⟨f, hf⟩ : ∃ f, f = floatOfInt .f32 (m : Int) := ⟨_, rfl⟩
    rw [← hf] at hq
    have HQ := Lib.hid hq
    clear hq h hf hm
    go_enter Try.func30, Try.ntmps30
    go_wp2_with (first | (go_at_call 65; refine (HQ.out _).mono ?_; rintro e w1 ⟨rfl, hs1⟩; have HS1 := Lib.hid hs1; clear hs1) | (go_at_call 56; refine (implSamples_b _ _ _ _ _ hfew).mono ?_; rintro e w' ⟨rfl, rfl⟩))
    go_ret2
    exact PJB.none_ (HS1.out.trans (since_mono (show World.Since w1.heap.size w1 _ from by (repeat (first | (with_reducible refine Fl.sinDrew ?_) | (with_reducible refine World.Since.drew ?_) | (with_reducible refine Fl.sinSet ?_ ?_; rotate_left) | (with_reducible refine Fl.sinAlloc ?_ ?_; rotate_left) | with_reducible exact World.Since.refl _ _ | with_reducible assumption | (with_reducible refine Fl.sinStep (by with_reducible assumption) ?_))); all_goals (first | omega | (simp; done) | (simp; omega) | (simp [go_sem]; done) | (simp [go_sem]; omega))) HS1.out.size))
theorem lawCodesOf_any (b : Int) (A : Option Addr) (n c : Nat) (xs : List Nat) (w : World) (w1 : (Lit.int .i64 b).wf = true) (h0 : Fs w w.heap.size A n xs) (m0 : n ≤ 9223372036854775807) :
    Calls Try.prog 7 #[.int .i64 b, .slice A n c] w fun e w' => e = .returned (.bool true) ∧ w.Since w.heap.size w' := by
  by_cases b1 : 1048576 < n
  · exact lawCodesOf_big b A n c w b1
  by_cases hok : inB b 2 16 = true ∧ n ≤ 256
  · have hb := hok.1
    simp only [inB, Bool.and_eq_true, decide_eq_true_eq] at hb
    obtain ⟨b', rfl⟩ : ∃ b' : Nat, b = b' := ⟨b.toNat, by omega⟩
    exact lawCodesOf_gen b' A n c xs n _ true w h0 (by omega) (by omega) (fun v g hg => specCodesOf_ok b' _ n _ xs v hg hok.2 (by omega) (by omega)) (fun v g hg => implCodesOf_ok b' _ n _ xs v hg hok.2 (by omega) (by omega))
  · exact lawCodesOf_gen b A n c xs 0 [] false w h0 (by omega) (by omega) (fun v g hg => specCodesOf_no b _ n _ v hok) (fun v g hg => implCodesOf_no b _ n _ v hok)
end Go.Proofs.Ytdibobheggffnaa

/- Bits: codes with noise, the program's. -/
set_option linter.unusedVariables false
set_option linter.unusedSimpArgs false
namespace Go.Proofs.Ytdibobheggffnaa
open Fl Go.RowKit
set_option maxHeartbeats 2000000 in
set_option maxRecDepth 100000 in
theorem witClos_any (m g g1 b2 n2 i : Nat) (ns : List Int) (q : Nat) (X : O) (W : World) (C : Cst m) (hm : 2 ≤ m ∧ m ≤ 32768) (hx : Hid (Fv .f32 q X)) (hg : CodB W g m) (h1 : W.cell? ⟨g1, 0, none⟩ = some (.slice (some ⟨b2, 0, none⟩) n2 n2)) (hA : Is W W.heap.size (some ⟨b2, 0, none⟩) n2 ns) (hi : 2 * i + 1 < n2) (hn : n2 ≤ 512) (hns : areB 0 255 ns n2) :
    Calls Try.prog 72 #[.int .i64 (i : Int), .float .f32 q, .pointer (some ⟨g1, 0, none⟩), .pointer (some ⟨g, 0, none⟩)] W fun e W' => e = .returned (.int .i64 (codO m (opO .add .f64 (wide X) (nsO ns i)))) ∧ W.Since W.heap.size W' := by
  have HN := Lib.hid (fun x X W hx => implNear_any m x X W C hm hx)
  unfold codV at HN
  unfold CodB at hg
  obtain ⟨f, hf⟩ : ∃ f, f = floatOfInt .f32 (m : Int) := ⟨_, rfl⟩
  rw [← hf] at HN hg; clear hf C
  have d0 : W.cell? ⟨g, 0, none⟩ = some (.int .i64 (-(m : Int))) := by simp [World.cell?, hg]
  have d1 : W.cell? ⟨g, 1, none⟩ = some (.int .i64 ((m : Int) - 1)) := by simp [World.cell?, hg]
  have d2 : W.cell? ⟨g, 2, none⟩ = some (.float .f32 f) := by simp [World.cell?, hg]
  have hgl : g < W.heap.size := (Array.getElem?_eq_some_iff.1 hg).1
  obtain ⟨b2', off, e, hb2, hc⟩ := hA.2 (by omega)
  injection e with e
  injection e with e e' _
  subst e; subst e'
  have hc1 := hc (2 * i) (by omega)
  have hc2 := hc (2 * i + 1) hi
  rw [Nat.zero_add] at hc1 hc2
  have hcell2 : W.cell? ⟨b2, 2 * i, none⟩ = some (.int .i64 (wi ns (2 * i))) := hc1
  have hcell3 : W.cell? ⟨b2, 2 * i + 1, none⟩ = some (.int .i64 (wi ns (2 * i + 1))) := hc2
  have hd1 := hns (2 * i) (by omega)
  have hd2 := hns (2 * i + 1) (by omega)
  simp only [inB, Bool.and_eq_true, decide_eq_true_eq] at hd1 hd2
  have f3 := fd_fv (nsD ns i)
  have f4 := fv256
  have eF : Hid (nsO ns i = opO .quo .f64 (some (fd (nsD ns i))) (some 4643211215818981376)) := Lib.hid rfl
  have eD : wi ns (2 * i) - wi ns (2 * i + 1) = nsD ns i := rfl
  generalize nsD ns i = δ at *
  generalize wi ns (2 * i) = a1 at *
  generalize wi ns (2 * i + 1) = a2 at *
  have hsa := fun (W : World) => run_arrayAt (P := Try.prog) W 81 2 2 (some ⟨b2, 2 * i, none⟩) (n2 - 2 * i) (n2 - 2 * i) Try.underlying81 (by omega)
  clear hg hc hc1 hc2 hA hns
  go_enter Try.func72, Try.ntmps72
  go_wp2_with (first | (with_reducible_and_instances refine Lo.wpList_wi _ rfl _ _ _ rfl _ _ rfl (by kernel_rfl) (by kernel_rfl) (by assumption) ?_; intro rr nn hrr) | (with_reducible_and_instances refine Lo.wpList_fo _ rfl _ _ _ _ _ rfl _ _ _ _ _ rfl rfl rfl (by assumption) (by assumption) ?_; intro rr nn hrr) | (go_at_call 70; rw [← eF.out] at hrr; refine (HN.out _ _ _ hrr).mono ?_; rintro e w2 ⟨rfl, hs2⟩; have HS2 := Lib.hid hs2; clear hs2))
  go_ret
  exact ⟨rfl, by (repeat (first | (with_reducible refine Fl.sinDrew ?_) | (with_reducible refine World.Since.drew ?_) | (with_reducible refine Fl.sinSet ?_ ?_; rotate_left) | (with_reducible refine Fl.sinAlloc ?_ ?_; rotate_left) | with_reducible exact World.Since.refl _ _ | with_reducible assumption | (with_reducible refine Fl.sinStep (by with_reducible assumption) ?_))); all_goals (first | omega | (simp; done) | (simp; omega) | (simp [go_sem]; done) | (simp [go_sem]; omega))⟩
theorem ns_small : ∀ a : Nat, a < 511 → (floatBits .quo .f64 (fd ((a : Int) - 255)) 4643211215818981376).map (fun r => decide (rung .f64 r ≤ rung .f64 one64)) = some true := by decide +kernel
theorem nsO_some {ns : List Int} {n2 k : Nat} (h : areB 0 255 ns n2) (hk : 2 * k + 1 < n2) : ∃ d, nsO ns k = some d ∧ rung .f64 d ≤ rung .f64 one64 := by
  have hd1 := h (2 * k) (by omega)
  have hd2 := h (2 * k + 1) (by omega)
  simp only [inB, Bool.and_eq_true, decide_eq_true_eq] at hd1 hd2
  obtain ⟨a, ha, hd⟩ : ∃ a : Nat, a < 511 ∧ nsD ns k = (a : Int) - 255 := ⟨(nsD ns k + 255).toNat, by unfold nsD; omega, by unfold nsD; omega⟩
  have h3 := ns_small a ha
  unfold nsO
  rw [opO_some, hd]
  cases hq : floatBits .quo .f64 (fd ((a : Int) - 255)) 4643211215818981376 with
  | none => rw [hq] at h3; cases h3
  | some d =>
    rw [hq] at h3
    simp only [Option.map_some, Option.some.injEq, decide_eq_true_eq] at h3
    exact ⟨d, rfl, h3⟩
set_option maxHeartbeats 8000000 in
set_option maxRecDepth 100000 in
theorem implWith_ok (b b2 : Nat) (A : Option Addr) (n c n2 : Nat) (xs : List Nat) (ns : List Int) (w : World) (hA : Fs w w.heap.size A n xs) (hA2 : Is w w.heap.size (some ⟨b2, 0, none⟩) n2 ns) (hn : n ≤ 256) (h1 : 2 ≤ b) (h2 : b ≤ 16) (hn2 : n2 = 2 * n) (hns : areB 0 255 ns n2) :
    Calls Try.prog 36 #[.int .i64 b, .slice A n c, .slice (some ⟨b2, 0, none⟩) n2 n2] w (PJB n (codL (witF (mst b) xs ns) n) true w) := by
  have HA := Lib.hid hA; have HA2 := Lib.hid hA2; have HNS := Lib.hid hns
  have hfew : decide ((n : Int) ≤ 256) = true := decide_eq_true (by omega)
  have hm := mst_le h1 h2
  have C := cst_of h1 h2
  have Pw := pw_of h1 h2
  have hq := fun W => coderOf_ok b W h1 h2
  have hmul : ∀ k, k < n → codO (mst b) (opO .add .f64 (wide (opO .mul .f32 (ab .f32 (wd xs k)) (some (fI (mst b : Int))))) (nsO ns k)) = witF (mst b) xs ns k := fun k hk => by
    obtain ⟨d, hd, hds⟩ := nsO_some (k := k) hns (by omega)
    unfold witF
    rw [hd]
    exact cod_add (j := b - 1) rfl hm.2 C Pw _ (rung_small (HA.out.2.1.at_ k)) d hds
  obtain ⟨m, hmm⟩ : ∃ m, m = mst b := ⟨_, rfl⟩
  rw [← hmm] at hq hm C hmul ⊢
  have hby := fun (A : Option Addr) (gr : Nat) (W : World) (g g1 : Nat) => codesBy_any A n c m xs 72 #[.pointer (some ⟨g1, 0, none⟩), .pointer (some ⟨g, 0, none⟩)] gr (fun _ W => CodB W g m ∧ W.heap[g1]? = some (.cells #[.slice (some ⟨b2, 0, none⟩) n2 n2] 34 (0, 0)) ∧ Is W gr (some ⟨b2, 0, none⟩) n2 ns) (witF m xs ns) W
  have HB : Hid (∀ (W : World) (g g1 : Nat), Fs W g1 A n xs → Is W g1 (some ⟨b2, 0, none⟩) n2 ns → g1 < g → g < W.heap.size → CodB W g m → W.heap[g1]? = some (.cells #[.slice (some ⟨b2, 0, none⟩) n2 n2] 34 (0, 0)) → Calls Try.prog 68 #[codV m, .slice A n c, .func (.func 72) #[] #[.pointer (some ⟨g1, 0, none⟩), .pointer (some ⟨g, 0, none⟩)]] W fun e w' => ∃ g', e = .returned (.slice (some ⟨g', 0, none⟩) n n) ∧ IGs 2 w' W.heap.size (some ⟨g', 0, none⟩) n (codL (witF m xs ns) n) ∧ W.Since g1 w') := Lib.hid (fun W g g1 hf hi2 hgg hg hc hc1 =>
    (hby A g1 W g g1 hf (by omega) hn (fun _ _ => rfl) (fun k V V' h3 _ _ h4 => by
      obtain ⟨q1, q2, q3⟩ := h3
      refine ⟨?_, ?_, q3.keep fun gg o hgg' => ?_⟩
      · unfold CodB at *; rw [h4 g hg]; exact q1
      · rw [h4 g1 (by omega)]; exact q2
      · simp only [World.cell?, h4 gg (by omega)]) (fun k q V hk hqq hi hs => by
      obtain ⟨q1, q2, q3⟩ := hi
      refine (witClos_any m g g1 b2 n2 k ns q _ V C hm hqq q1 (by simp [World.cell?, q2]) (q3.more (by omega)) (by omega) (by omega) HNS.out).mono ?_
      rintro e V' ⟨rfl, hs'⟩
      refine ⟨by rw [hmul k hk], ⟨?_, ?_, ?_⟩, On.ofS hs' (by omega)⟩
      · unfold CodB at *
        rw [hs'.block g (by omega)]; exact q1
      · rw [hs'.block g1 (by omega)]; exact q2
      · exact q3.since (since_mono hs' (by omega))) ⟨hc, hc1, hi2⟩).mono fun e w' ⟨g', a, b', _, d⟩ => ⟨g', a, b', d.1⟩)
  unfold codV at hq HB
  unfold CodB at HB
  obtain ⟨f, hf⟩ : ∃ f, f = floatOfInt .f32 (m : Int) := ⟨_, rfl⟩
  rw [← hf] at hq HB
  have HQ := Lib.hid hq
  have hn3 : ((n2 : Int) != 2 * (n : Int)) = false := by simp; omega
  have hn4 : n2 ≤ 512 := by omega
  obtain ⟨W0, hW0⟩ : ∃ W, W = w.alloc (.cells #[.slice (some ⟨b2, 0, none⟩) n2 n2] 34) := ⟨_, rfl⟩
  have S0 : Hid (w.Since w.heap.size W0) := Lib.hid (by rw [hW0]; exact (World.Since.refl _ _).alloc (Nat.le_refl _) _)
  have z0 : W0.heap.size = w.heap.size + 1 := by rw [hW0]; simp
  have N0 : Hid (W0.heap[w.heap.size]? = some (.cells #[.slice (some ⟨b2, 0, none⟩) n2 n2] 34 (0, 0))) := Lib.hid (by rw [hW0]; exact Go.Deep.blk_alloc_new _ _)
  clear hq hf hmm hA hA2 C Pw hmul hby hn2 hns
  go_enter Try.func36, Try.ntmps36
  go_wp2_with fail
  rw [← hW0]
  clear hW0
  go_at_call 65
  refine (HQ.out _).mono ?_; rintro e w1 ⟨rfl, hs1⟩; have HS1 := Lib.hid hs1; clear hs1
  have z1 := HS1.out.size
  have N1 : Hid (w1.heap[w.heap.size]? = some (.cells #[.slice (some ⟨b2, 0, none⟩) n2 n2] 34 (0, 0))) := Lib.hid ((HS1.out.block _ (by omega)).trans N0.out)
  go_wp2_with fail
  obtain ⟨W, hW⟩ : ∃ W, W = w1.alloc (.cells #[.int .i64 (-(m : Int)), .int .i64 ((m : Int) - 1), .float .f32 f] 72) := ⟨_, rfl⟩
  rw [← hW]
  have S1 : Hid (w.Since w.heap.size W) := Lib.hid (since_step S0.out (HS1.out.trans (by rw [hW]; exact (World.Since.refl _ _).alloc HS1.out.size _)))
  have zW : w1.heap.size < W.heap.size := by rw [hW]; simp
  have CB : Hid (W.heap[w1.heap.size]? = some (.cells #[.int .i64 (-(m : Int)), .int .i64 ((m : Int) - 1), .float .f32 f] 72 (0, 0))) := Lib.hid (by rw [hW]; exact Go.Deep.blk_alloc_new _ _)
  have NB : Hid (W.heap[w.heap.size]? = some (.cells #[.slice (some ⟨b2, 0, none⟩) n2 n2] 34 (0, 0))) := Lib.hid (by rw [hW]; exact (((World.Since.refl w1.heap.size w1).alloc (Nat.le_refl _) _).block _ (by omega)).trans N1.out)
  clear hW N0 N1
  have d3 : W.cell? ⟨w.heap.size, 0, none⟩ = some (.slice (some ⟨b2, 0, none⟩) n2 n2) := by simp [World.cell?, NB.out]
  go_wp2_with (first | (go_at_call 56; refine (implSamples_b _ _ _ _ _ hfew).mono ?_; rintro e w' ⟨rfl, rfl⟩) | fail)
  refine (allAllow_any (some ⟨b2, 0, none⟩) n2 n2 ns 0 255 true _ w.heap.size (HA2.out.since S1.out) (by omega) (by omega) ⟨fun _ => HNS.out, fun _ => rfl⟩).mono ?_
  rintro e w2 ⟨rfl, hs2⟩
  have HS2 := Lib.hid hs2; clear hs2
  have S2 : Hid (w.Since w.heap.size w2) := Lib.hid (since_step S1.out HS2.out)
  have zs := HS2.out.size
  have CB2 : Hid (w2.heap[w1.heap.size]? = some (.cells #[.int .i64 (-(m : Int)), .int .i64 ((m : Int) - 1), .float .f32 f] 72 (0, 0))) := Lib.hid ((HS2.out.block _ zW).trans CB.out)
  have NB2 : Hid (w2.heap[w.heap.size]? = some (.cells #[.slice (some ⟨b2, 0, none⟩) n2 n2] 34 (0, 0))) := Lib.hid ((HS2.out.block _ (by omega)).trans NB.out)
  clear d3
  have d0 : w2.cell? ⟨w1.heap.size, 0, none⟩ = some (.int .i64 (-(m : Int))) := by simp [World.cell?, CB2.out]
  have d1 : w2.cell? ⟨w1.heap.size, 1, none⟩ = some (.int .i64 ((m : Int) - 1)) := by simp [World.cell?, CB2.out]
  have d2 : w2.cell? ⟨w1.heap.size, 2, none⟩ = some (.float .f32 f) := by simp [World.cell?, CB2.out]
  go_wp2_with fail
  refine (HB.out w2 w1.heap.size w.heap.size (HA.out.since S2.out) (HA2.out.since S2.out) (by omega) (by omega) CB2.out NB2.out).mono ?_
  rintro e w3 ⟨g', rfl, hg, hs⟩
  have HG := Lib.hid hg; have HS := Lib.hid hs; clear hg hs
  go_wp2
  go_ret2
  exact ⟨⟨some ⟨g', 0, none⟩, n, codL (witF m xs ns) n⟩, n, rfl, rfl, HG.out.less (by omega), rfl, S2.out.trans HS.out⟩
theorem areB_snoc {a b : Int} {xs : List Int} {k : Nat} (h : areB a b xs k) (h2 : inB (wi xs k) a b = true) : areB a b xs (k + 1) := fun j hj => by
  by_cases e : j = k
  · subst e; exact h2
  · exact h j (by omega)
set_option maxHeartbeats 8000000 in
set_option maxRecDepth 100000 in
theorem specWith_no (b : Int) (A A2 : Option Addr) (n c n2 c2 : Nat) (xs : List Nat) (ns : List Int) (w : World) (hA2 : Is w w.heap.size A2 n2 ns) (hn : n ≤ 1048576) (hn2 : n2 ≤ 1048576) (h : ¬ okWit b n n2 ns) :
    Calls Try.prog 35 #[.int .i64 b, .slice A n c, .slice A2 n2 c2] w (PJB 0 [] false w) := by
  have HA2 := Lib.hid hA2; have HN := Lib.hid h
  clear hA2 h
  cases hb : inB b 2 16
  · go_enter Try.func35, Try.ntmps35
    go_wp2_with (first | (go_at_call 62; refine (specBits_b b false _ hb).mono ?_; rintro e w' ⟨rfl, rfl⟩))
    go_ret2
    exact PJB.none_ (by (repeat (first | (with_reducible refine Fl.sinDrew ?_) | (with_reducible refine World.Since.drew ?_) | (with_reducible refine Fl.sinSet ?_ ?_; rotate_left) | (with_reducible refine Fl.sinAlloc ?_ ?_; rotate_left) | with_reducible exact World.Since.refl _ _ | with_reducible assumption | (with_reducible refine Fl.sinStep (by with_reducible assumption) ?_))); all_goals (first | omega | (simp; done) | (simp; omega) | (simp [go_sem]; done) | (simp [go_sem]; omega)))
  cases hfew : decide ((n : Int) ≤ 256)
  · go_enter Try.func35, Try.ntmps35
    go_wp2_with (first | (go_at_call 62; refine (specBits_b b true _ hb).mono ?_; rintro e w' ⟨rfl, rfl⟩) | (go_at_call 49; refine (specFew_any _ _ _ _ _ hfew).mono ?_; rintro e w' ⟨rfl, rfl⟩))
    go_ret2
    exact PJB.none_ (by (repeat (first | (with_reducible refine Fl.sinDrew ?_) | (with_reducible refine World.Since.drew ?_) | (with_reducible refine Fl.sinSet ?_ ?_; rotate_left) | (with_reducible refine Fl.sinAlloc ?_ ?_; rotate_left) | with_reducible exact World.Since.refl _ _ | with_reducible assumption | (with_reducible refine Fl.sinStep (by with_reducible assumption) ?_))); all_goals (first | omega | (simp; done) | (simp; omega) | (simp [go_sem]; done) | (simp [go_sem]; omega)))
  cases hn3 : ((n2 : Int) != 2 * (n : Int))
  · have hno : Hid (¬ areB 0 255 ns n2) := Lib.hid (fun h2 => HN.out ⟨hb, by have := of_decide_eq_true hfew; omega, by simp at hn3; omega, h2⟩)
    clear HN
    go_enter Try.func35, Try.ntmps35
    go_wp2_with (first | (go_at_call 62; refine (specBits_b b true _ hb).mono ?_; rintro e w' ⟨rfl, rfl⟩) | (go_at_call 49; refine (specFew_any _ _ _ _ _ hfew).mono ?_; rintro e w' ⟨rfl, rfl⟩))
    go_loopw [8] (fun i wr => ∃ k : Nat, k ≤ n2 ∧ i = .int .i64 k ∧ areB 0 255 ns k ∧ SameV w wr) (fun i _ => n2 - (intOf i).toNat)
    case atStart => exact ⟨0, Nat.zero_le _, rfl, (fun j hj => by omega), show _ = _ from rfl⟩
    case round =>
      obtain ⟨k, hk, rfl, hz, HW⟩ := hrel
      have hW : w = wr := HW
      subst hW
      have HZ := Lib.hid hz
      clear HW hz
      by_cases hlt : k < n2
      · obtain ⟨g, off, rfl, hg, hc⟩ := HA2.out.2 (by omega)
        have hcell : w.cell? ⟨g, off + k, none⟩ = some (.int .i64 (wi ns k)) := hc k hlt
        clear hc
        cases hin : inB (wi ns k) 0 255
        · go_wp2_with (first | (go_at_call 53; refine (specIn_b _ 0 255 false _ hin).mono ?_; rintro e w' ⟨rfl, rfl⟩))
          go_ret2
          exact PJB.none_ (by (repeat (first | (with_reducible refine Fl.sinDrew ?_) | (with_reducible refine World.Since.drew ?_) | (with_reducible refine Fl.sinSet ?_ ?_; rotate_left) | (with_reducible refine Fl.sinAlloc ?_ ?_; rotate_left) | with_reducible exact World.Since.refl _ _ | with_reducible assumption | (with_reducible refine Fl.sinStep (by with_reducible assumption) ?_))); all_goals (first | omega | (simp; done) | (simp; omega) | (simp [go_sem]; done) | (simp [go_sem]; omega)))
        · have HI := Lib.hid hin
          go_wp2_with (first | (go_at_call 53; refine (specIn_b _ 0 255 true _ hin).mono ?_; rintro e w' ⟨rfl, rfl⟩))
          go_roundw
          case rel => exact ⟨k + 1, by omega, by go_num, areB_snoc HZ.out HI.out, show _ = _ from rfl⟩
          case measure => simp [intOf]; omega
      · obtain rfl : n2 = k := by omega
        exact absurd HZ.out hno.out
  · go_enter Try.func35, Try.ntmps35
    go_wp2_with (first | (go_at_call 62; refine (specBits_b b true _ hb).mono ?_; rintro e w' ⟨rfl, rfl⟩) | (go_at_call 49; refine (specFew_any _ _ _ _ _ hfew).mono ?_; rintro e w' ⟨rfl, rfl⟩))
    go_ret2
    exact PJB.none_ (by (repeat (first | (with_reducible refine Fl.sinDrew ?_) | (with_reducible refine World.Since.drew ?_) | (with_reducible refine Fl.sinSet ?_ ?_; rotate_left) | (with_reducible refine Fl.sinAlloc ?_ ?_; rotate_left) | with_reducible exact World.Since.refl _ _ | with_reducible assumption | (with_reducible refine Fl.sinStep (by with_reducible assumption) ?_))); all_goals (first | omega | (simp; done) | (simp; omega) | (simp [go_sem]; done) | (simp [go_sem]; omega)))
set_option maxHeartbeats 8000000 in
set_option maxRecDepth 100000 in
theorem implWith_no (b : Int) (A A2 : Option Addr) (n c n2 c2 : Nat) (ns : List Int) (w : World) (hA2 : Is w w.heap.size A2 n2 ns) (hn : n ≤ 1048576) (hn2 : n2 ≤ 1048576) (h : ¬ okWit b n n2 ns) :
    Calls Try.prog 36 #[.int .i64 b, .slice A n c, .slice A2 n2 c2] w (PJB 0 [] false w) := by
  have HA2 := Lib.hid hA2; have HN := Lib.hid h
  clear hA2 h
  obtain ⟨W0, hW0⟩ : ∃ W, W = w.alloc (.cells #[.slice A2 n2 c2] 34) := ⟨_, rfl⟩
  have S0 : Hid (w.Since w.heap.size W0) := Lib.hid (by rw [hW0]; exact (World.Since.refl _ _).alloc (Nat.le_refl _) _)
  have z0 : W0.heap.size = w.heap.size + 1 := by rw [hW0]; simp
  have N0 : Hid (W0.heap[w.heap.size]? = some (.cells #[.slice A2 n2 c2] 34 (0, 0))) := Lib.hid (by rw [hW0]; exact Go.Deep.blk_alloc_new _ _)
  cases hb : inB b 2 16
  · have hq := fun W => coderOf_no b W hb
    unfold codZ at hq
    have HQ := Lib.hid hq
    clear hq
    go_enter Try.func36, Try.ntmps36
    go_wp2_with fail
    rw [← hW0]; clear hW0
    go_at_call 65
    refine (HQ.out _).mono ?_; rintro e w1 ⟨rfl, hs1⟩; have HS1 := Lib.hid hs1; clear hs1
    go_wp2
    go_ret2
    exact PJB.none_ (since_step S0.out (HS1.out.trans (since_mono (show World.Since w1.heap.size w1 _ from by (repeat (first | (with_reducible refine Fl.sinDrew ?_) | (with_reducible refine World.Since.drew ?_) | (with_reducible refine Fl.sinSet ?_ ?_; rotate_left) | (with_reducible refine Fl.sinAlloc ?_ ?_; rotate_left) | with_reducible exact World.Since.refl _ _ | with_reducible assumption | (with_reducible refine Fl.sinStep (by with_reducible assumption) ?_))); all_goals (first | omega | (simp; done) | (simp; omega) | (simp [go_sem]; done) | (simp [go_sem]; omega))) HS1.out.size)))
  · have hb2 := hb
    simp only [inB, Bool.and_eq_true, decide_eq_true_eq] at hb2
    obtain ⟨b', rfl⟩ : ∃ b' : Nat, b = b' := ⟨b.toNat, by omega⟩
    have hq := fun W => coderOf_ok b' W (by omega) (by omega)
    unfold codV at hq
    obtain ⟨m, hm⟩ : ∃ m, m = mst b' := ⟨_, rfl⟩
    rw [← hm] at hq
    obtain ⟨f, hf⟩ : ∃ f, f = floatOfInt .f32 (m : Int) := ⟨_, rfl⟩
    rw [← hf] at hq
    have HQ := Lib.hid hq
    clear hq hf hm
    cases hfew : decide ((n : Int) ≤ 256)
    · go_enter Try.func36, Try.ntmps36
      go_wp2_with fail
      rw [← hW0]; clear hW0
      go_at_call 65
      refine (HQ.out _).mono ?_; rintro e w1 ⟨rfl, hs1⟩; have HS1 := Lib.hid hs1; clear hs1
      go_wp2_with (first | (go_at_call 56; refine (implSamples_b _ _ _ _ _ hfew).mono ?_; rintro e w' ⟨rfl, rfl⟩))
      go_ret2
      exact PJB.none_ (since_step S0.out (HS1.out.trans (since_mono (show World.Since w1.heap.size w1 _ from by (repeat (first | (with_reducible refine Fl.sinDrew ?_) | (with_reducible refine World.Since.drew ?_) | (with_reducible refine Fl.sinSet ?_ ?_; rotate_left) | (with_reducible refine Fl.sinAlloc ?_ ?_; rotate_left) | with_reducible exact World.Since.refl _ _ | with_reducible assumption | (with_reducible refine Fl.sinStep (by with_reducible assumption) ?_))); all_goals (first | omega | (simp; done) | (simp; omega) | (simp [go_sem]; done) | (simp [go_sem]; omega))) HS1.out.size)))
    have hno : ((n2 : Int) != 2 * (n : Int)) = false → Hid (¬ areB 0 255 ns n2) := fun hn3 => Lib.hid (fun h2 => HN.out ⟨hb, by have := of_decide_eq_true hfew; omega, by simp at hn3; omega, h2⟩)
    have HNO := Lib.hid hno
    clear hno HN
    go_enter Try.func36, Try.ntmps36
    go_wp2_with fail
    rw [← hW0]; clear hW0
    go_at_call 65
    refine (HQ.out _).mono ?_; rintro e w1 ⟨rfl, hs1⟩; have HS1 := Lib.hid hs1; clear hs1
    have z1 := HS1.out.size
    have N1 : Hid (w1.heap[w.heap.size]? = some (.cells #[.slice A2 n2 c2] 34 (0, 0))) := Lib.hid ((HS1.out.block _ (by omega)).trans N0.out)
    go_wp2_with fail
    obtain ⟨W, hW⟩ : ∃ W, W = w1.alloc (.cells #[.int .i64 (-(m : Int)), .int .i64 ((m : Int) - 1), .float .f32 f] 72) := ⟨_, rfl⟩
    rw [← hW]
    have S1 : Hid (w.Since w.heap.size W) := Lib.hid (since_step S0.out (HS1.out.trans (by rw [hW]; exact (World.Since.refl _ _).alloc HS1.out.size _)))
    have NB : Hid (W.heap[w.heap.size]? = some (.cells #[.slice A2 n2 c2] 34 (0, 0))) := Lib.hid (by rw [hW]; exact (((World.Since.refl w1.heap.size w1).alloc (Nat.le_refl _) _).block _ (by omega)).trans N1.out)
    clear hW N0 N1
    have d3 : W.cell? ⟨w.heap.size, 0, none⟩ = some (.slice A2 n2 c2) := by simp [World.cell?, NB.out]
    have zz := S1.out.size
    cases hn3 : ((n2 : Int) != 2 * (n : Int))
    · go_wp2_with (first | (go_at_call 56; refine (implSamples_b _ _ _ _ _ hfew).mono ?_; rintro e w' ⟨rfl, rfl⟩) | fail)
      refine (allAllow_any A2 n2 c2 ns 0 255 false _ w.heap.size (HA2.out.since S1.out) (by omega) (by omega) ⟨(fun h => by cases h), fun h => absurd h (HNO.out hn3).out⟩).mono ?_
      rintro e w2 ⟨rfl, hs2⟩
      have HS2 := Lib.hid hs2; clear hs2
      go_wp2
      go_ret2
      exact PJB.none_ (since_step S1.out HS2.out)
    · go_wp2_with (first | (go_at_call 56; refine (implSamples_b _ _ _ _ _ hfew).mono ?_; rintro e w' ⟨rfl, rfl⟩))
      go_ret2
      exact PJB.none_ S1.out
end Go.Proofs.Ytdibobheggffnaa

/- Walks of laws whose results are lists. -/
set_option linter.unusedVariables false
set_option linter.unusedSimpArgs false
namespace Go.Proofs.Ytdibobheggffnaa
open Fl Go.RowKit
set_option maxHeartbeats 16000000 in
set_option maxRecDepth 100000 in
theorem lawCodesWith_gen (a0 : Int) (A1 : Option Addr) (n1 c1 : Nat) (x1 : List Nat) (A2 : Option Addr) (n2 c2 : Nat) (x2 : List Int) (rn0 : Nat) (rf0 : List Int) (rb1 : Bool) (w : World)
    (h1 : Fs w w.heap.size A1 n1 x1) (hn1 : n1 ≤ 1048576) (h2 : Is w w.heap.size A2 n2 x2) (hn2 : n2 ≤ 1048576) (hr0 : rn0 ≤ 1048576)
    (hsp : ∀ (v : World) (b1 : Nat) (b2 : Nat), Fs v v.heap.size (some ⟨b1, 0, none⟩) n1 x1 → Is v v.heap.size (some ⟨b2, 0, none⟩) n2 x2 → Calls Try.prog 35 #[.int .i64 a0, .slice (some ⟨b1, 0, none⟩) n1 n1, .slice (some ⟨b2, 0, none⟩) n2 n2] v (PJB rn0 rf0 rb1 v))
    (him : ∀ (v : World) (b1 : Nat) (b2 : Nat), Fs v v.heap.size (some ⟨b1, 0, none⟩) n1 x1 → Is v v.heap.size (some ⟨b2, 0, none⟩) n2 x2 → Calls Try.prog 36 #[.int .i64 a0, .slice (some ⟨b1, 0, none⟩) n1 n1, .slice (some ⟨b2, 0, none⟩) n2 n2] v (PJB rn0 rf0 rb1 v)) :
    Calls Try.prog 9 #[.int .i64 a0, .slice A1 n1 c1, .slice A2 n2 c2] w fun e w' => e = .returned (.bool true) ∧ w.Since w.heap.size w' := by
  have S0 : Hid (w.Since w.heap.size w) := Lib.hid (World.Since.refl _ _)
  have F1 : Hid (Fs w w.heap.size A1 n1 x1) := Lib.hid (h1.now S0.out); clear h1
  have hd1 : decide ((1048576 : Int) < n1) = false := decide_eq_false (by omega)
  have F2 : Hid (Is w w.heap.size A2 n2 x2) := Lib.hid (h2.now S0.out); clear h2
  have hd2 : decide ((1048576 : Int) < n2) = false := decide_eq_false (by omega)
  have HSP := Lib.hid hsp; have HIM := Lib.hid him; clear hsp him
  go_enter Try.func9, Try.ntmps9
  go_wp2_with fail
  have S : Hid (w.Since w.heap.size w) := Lib.hid (World.Since.refl _ _)
  have LV : Hid (Hx w.heap.size w []) := Lib.hid trivial
  go_at_call 16
  refine (toLx_any A1 n1 c1 x1 w _ F1.out S.out hn1).mono ?_
  rintro e v1 ⟨rfl, hg, hs⟩
  have LV' := Lib.hid (LV.out.new hs hg S.out.size); clear LV; have LV := LV'; clear LV'
  have S' := Lib.hid (since_step S.out hs); clear S; have S := S'; clear S'
  clear hs hg
  go_wp2_with fail
  go_at_call 26
  refine (toIx_any A2 n2 c2 x2 w _ F2.out S.out hn2).mono ?_
  rintro e v2 ⟨rfl, hg, hs⟩
  have LV' := Lib.hid (LV.out.new hs hg S.out.size); clear LV; have LV := LV'; clear LV'
  have S' := Lib.hid (since_step S.out hs); clear S; have S := S'; clear S'
  clear hs hg
  go_wp2_with fail
  go_at_call 35
  refine (HSP.out _ _ _ ((LV.out.2.1.1).readF) ((LV.out.1.1).readI)).mono ?_
  rintro e v3 ⟨w0, kw0, rfl, hnw0, hgw0, hfw0, hs⟩
  have LV' := Lib.hid ((LV.out.2.2).new hs hgw0.toX S.out.size); clear LV; have LV := LV'; clear LV'
  have S' := Lib.hid (since_step S.out hs); clear S; have S := S'; clear S'
  have Kw0 := Lib.hid hfw0; have Nw0 := Lib.hid hnw0; clear hfw0 hgw0 hnw0
  clear hs
  go_wp2_with fail
  go_at_call 16
  refine (toLx_any A1 n1 c1 x1 w _ F1.out S.out hn1).mono ?_
  rintro e v4 ⟨rfl, hg, hs⟩
  have LV' := Lib.hid (LV.out.new hs hg S.out.size); clear LV; have LV := LV'; clear LV'
  have S' := Lib.hid (since_step S.out hs); clear S; have S := S'; clear S'
  clear hs hg
  go_wp2_with fail
  go_at_call 26
  refine (toIx_any A2 n2 c2 x2 w _ F2.out S.out hn2).mono ?_
  rintro e v5 ⟨rfl, hg, hs⟩
  have LV' := Lib.hid (LV.out.new hs hg S.out.size); clear LV; have LV := LV'; clear LV'
  have S' := Lib.hid (since_step S.out hs); clear S; have S := S'; clear S'
  clear hs hg
  go_wp2_with fail
  go_at_call 36
  refine (HIM.out _ _ _ ((LV.out.2.1.1).readF) ((LV.out.1.1).readI)).mono ?_
  rintro e v6 ⟨g0, kg0, rfl, hng0, hgg0, hfg0, hs⟩
  have LV' := Lib.hid ((LV.out).new hs hgg0.toX S.out.size); clear LV; have LV := LV'; clear LV'
  have S' := Lib.hid (since_step S.out hs); clear S; have S := S'; clear S'
  have Kg0 := Lib.hid hfg0; have Ng0 := Lib.hid hng0; clear hfg0 hgg0 hng0
  clear hs
  go_wp2_with fail
  go_at_call 28
  refine (eqJ_any g0 w0 _ _ _ _ (LV.out.1.1).readI (LV.out.2.2.2.1.1).readI (by rw [Ng0.out]; exact hr0) (Nw0.out.trans Ng0.out.symm) Kg0.out Kw0.out).mono ?_
  rintro e v7 ⟨rfl, hs⟩
  have S' := Lib.hid (since_step S.out hs); clear S; have S := S'; clear S'
  have LV' := Lib.hid (LV.out.since hs); clear LV; have LV := LV'; clear LV'
  clear hs
  go_wp2_with fail
  go_at_call 16
  refine (toLx_any A1 n1 c1 x1 w _ F1.out S.out hn1).mono ?_
  rintro e v8 ⟨rfl, hg, hs⟩
  have LV' := Lib.hid (LV.out.new hs hg S.out.size); clear LV; have LV := LV'; clear LV'
  have S' := Lib.hid (since_step S.out hs); clear S; have S := S'; clear S'
  clear hs hg
  go_wp2_with fail
  go_at_call 18
  refine (eqL_any ⟨some ⟨v3.heap.size, 0, none⟩, n1, x1⟩ ⟨some ⟨v7.heap.size, 0, none⟩, n1, x1⟩ _ _ _ _ (LV.out.2.2.2.1.1).readF (LV.out.1.1).readF (by omega) rfl (fun _ _ => rfl) (fun _ _ => rfl)).mono ?_
  rintro e v9 ⟨rfl, hs⟩
  have S' := Lib.hid (since_step S.out hs); clear S; have S := S'; clear S'
  have LV' := Lib.hid (LV.out.since hs); clear LV; have LV := LV'; clear LV'
  clear hs
  have LV' := Lib.hid LV.out.2; clear LV; have LV := LV'; clear LV'
  go_wp2_with fail
  go_at_call 26
  refine (toIx_any A2 n2 c2 x2 w _ F2.out S.out hn2).mono ?_
  rintro e v10 ⟨rfl, hg, hs⟩
  have LV' := Lib.hid (LV.out.new hs hg S.out.size); clear LV; have LV := LV'; clear LV'
  have S' := Lib.hid (since_step S.out hs); clear S; have S := S'; clear S'
  clear hs hg
  go_wp2_with fail
  go_at_call 28
  refine (eqJ_any ⟨some ⟨v4.heap.size, 0, none⟩, n2, x2⟩ ⟨some ⟨v9.heap.size, 0, none⟩, n2, x2⟩ _ _ _ _ (LV.out.2.2.1.1).readI (LV.out.1.1).readI (by omega) rfl rfl rfl).mono ?_
  rintro e v11 ⟨rfl, hs⟩
  have S' := Lib.hid (since_step S.out hs); clear S; have S := S'; clear S'
  have LV' := Lib.hid (LV.out.since hs); clear LV; have LV := LV'; clear LV'
  clear hs
  have LV' := Lib.hid LV.out.2; clear LV; have LV := LV'; clear LV'
  go_wp2_with fail
  go_at_call 19
  refine (markLx_any (some ⟨v3.heap.size, 0, none⟩) n1 x1 _ (1) _ _ _ _ (Hx.front [_, _] LV.out) (hn1) (by have := Ng0.out; omega) (by first | rfl | omega | (push_cast; omega))).mono ?_
  rintro e v12 ⟨rfl, hlv, hs⟩
  have LV' := Lib.hid hlv; clear LV hlv; have LV := LV'; clear LV'
  have S' := Lib.hid (since_mark S.out hs); clear S hs; have S := S'; clear S'
  go_wp2_with fail
  go_at_call 31
  refine (markIx_any (some ⟨v4.heap.size, 0, none⟩) n2 x2 _ (1 + n1) _ _ _ _ (Hx.front [_, _] LV.out) (hn2) (by have := Ng0.out; omega) (by first | rfl | omega | (push_cast; omega))).mono ?_
  rintro e v13 ⟨rfl, hlv, hs⟩
  have LV' := Lib.hid hlv; clear LV hlv; have LV := LV'; clear LV'
  have S' := Lib.hid (since_mark S.out hs); clear S hs; have S := S'; clear S'
  go_wp2_with fail
  go_at_call 28
  refine (eqJ_any g0 w0 _ _ _ _ (LV.out.2.2.1.1).readI (LV.out.2.2.2.1.1).readI (by rw [Ng0.out]; exact hr0) (Nw0.out.trans Ng0.out.symm) Kg0.out Kw0.out).mono ?_
  rintro e v14 ⟨rfl, hs⟩
  have S' := Lib.hid (since_step S.out hs); clear S; have S := S'; clear S'
  have LV' := Lib.hid (LV.out.since hs); clear LV; have LV := LV'; clear LV'
  clear hs
  go_wp2_with fail
  go_at_call 31
  refine (markIx_any g0.A g0.n g0.xs _ (1) _ _ _ _ (Hx.front [_, _] LV.out) (by rw [Ng0.out]; exact hr0) (by have := Ng0.out; omega) (by first | rfl | omega | (push_cast; omega))).mono ?_
  rintro e v15 ⟨rfl, hlv, hs⟩
  have LV' := Lib.hid hlv; clear LV hlv; have LV := LV'; clear LV'
  have S' := Lib.hid (since_mark S.out hs); clear S hs; have S := S'; clear S'
  go_wp2_with fail
  go_at_call 32
  refine (heldIx_any g0.A g0.n _ (1) _ _ _ ((LV.out.1.1)) (by rw [Ng0.out]; exact hr0) (by have := Ng0.out; omega) (by first | rfl | omega | (push_cast; omega))).mono ?_
  rintro e v ⟨rfl, rfl⟩
  go_wp2_with fail
  go_at_call 16
  refine (toLx_any A1 n1 c1 x1 w _ F1.out S.out hn1).mono ?_
  rintro e v16 ⟨rfl, hg, hs⟩
  have LV' := Lib.hid (LV.out.new hs hg S.out.size); clear LV; have LV := LV'; clear LV'
  have S' := Lib.hid (since_step S.out hs); clear S; have S := S'; clear S'
  clear hs hg
  go_wp2_with fail
  go_at_call 26
  refine (toIx_any A2 n2 c2 x2 w _ F2.out S.out hn2).mono ?_
  rintro e v17 ⟨rfl, hg, hs⟩
  have LV' := Lib.hid (LV.out.new hs hg S.out.size); clear LV; have LV := LV'; clear LV'
  have S' := Lib.hid (since_step S.out hs); clear S; have S := S'; clear S'
  clear hs hg
  go_wp2_with fail
  go_at_call 36
  refine (HIM.out _ _ _ ((LV.out.2.1.1).readF) ((LV.out.1.1).readI)).mono ?_
  rintro e v18 ⟨h0, kh0, rfl, hnh0, hgh0, hfh0, hs⟩
  have LV' := Lib.hid ((LV.out.2.2).new hs hgh0.toX S.out.size); clear LV; have LV := LV'; clear LV'
  have S' := Lib.hid (since_step S.out hs); clear S; have S := S'; clear S'
  have Kh0 := Lib.hid hfh0; have Nh0 := Lib.hid hnh0; clear hfh0 hgh0 hnh0
  clear hs
  go_wp2_with fail
  go_at_call 28
  refine (eqJ_any h0 w0 _ _ _ _ (LV.out.1.1).readI (LV.out.2.2.2.2.1.1).readI (by rw [Nh0.out]; exact hr0) (Nw0.out.trans Nh0.out.symm) Kh0.out Kw0.out).mono ?_
  rintro e v19 ⟨rfl, hs⟩
  have S' := Lib.hid (since_step S.out hs); clear S; have S := S'; clear S'
  have LV' := Lib.hid (LV.out.since hs); clear LV; have LV := LV'; clear LV'
  clear hs
  go_wp2_with fail
  go_at_call 32
  refine (heldIx_any g0.A g0.n _ (1) _ _ _ ((LV.out.2.1.1)) (by rw [Ng0.out]; exact hr0) (by have := Ng0.out; omega) (by first | rfl | omega | (push_cast; omega))).mono ?_
  rintro e v ⟨rfl, rfl⟩
  go_wp2_with fail
  go_ret
  exact ⟨rfl, S.out⟩
set_option maxHeartbeats 2000000 in
set_option maxRecDepth 100000 in
theorem lawCodesWith_big (a0 : Int) (A1 : Option Addr) (n1 c1 : Nat) (A2 : Option Addr) (n2 c2 : Nat) (w : World) (h : 1048576 < n1 ∨ 1048576 < n2) :
    Calls Try.prog 9 #[.int .i64 a0, .slice A1 n1 c1, .slice A2 n2 c2] w fun e w' => e = .returned (.bool true) ∧ w.Since w.heap.size w' := by
  by_cases b1 : 1048576 < n1
  · have hd1 : decide ((1048576 : Int) < n1) = true := decide_eq_true (by omega)
    go_enter Try.func9, Try.ntmps9
    go_wp2
    go_ret
    exact ⟨rfl, by (repeat (first | (with_reducible refine Fl.sinDrew ?_) | (with_reducible refine World.Since.drew ?_) | (with_reducible refine Fl.sinSet ?_ ?_; rotate_left) | (with_reducible refine Fl.sinAlloc ?_ ?_; rotate_left) | with_reducible exact World.Since.refl _ _ | with_reducible assumption | (with_reducible refine Fl.sinStep (by with_reducible assumption) ?_))); all_goals (first | omega | (simp; done) | (simp; omega) | (simp [go_sem]; done) | (simp [go_sem]; omega))⟩
  · have hd1 : decide ((1048576 : Int) < n1) = false := decide_eq_false (by omega)
    by_cases b2 : 1048576 < n2
    · have hd2 : decide ((1048576 : Int) < n2) = true := decide_eq_true (by omega)
      go_enter Try.func9, Try.ntmps9
      go_wp2
      go_ret
      exact ⟨rfl, by (repeat (first | (with_reducible refine Fl.sinDrew ?_) | (with_reducible refine World.Since.drew ?_) | (with_reducible refine Fl.sinSet ?_ ?_; rotate_left) | (with_reducible refine Fl.sinAlloc ?_ ?_; rotate_left) | with_reducible exact World.Since.refl _ _ | with_reducible assumption | (with_reducible refine Fl.sinStep (by with_reducible assumption) ?_))); all_goals (first | omega | (simp; done) | (simp; omega) | (simp [go_sem]; done) | (simp [go_sem]; omega))⟩
    · have hd2 : decide ((1048576 : Int) < n2) = false := decide_eq_false (by omega)
      omega
set_option maxHeartbeats 16000000 in
set_option maxRecDepth 100000 in
theorem lawCodesShaped_gen (a0 : Int) (A1 : Option Addr) (n1 c1 : Nat) (x1 : List Nat) (a2 : Nat) (rn0 : Nat) (rf0 : List Int) (ro1 : O) (rb2 : Bool) (w : World)
    (h1 : Fs w w.heap.size A1 n1 x1) (hn1 : n1 ≤ 1048576) (hr0 : rn0 ≤ 1048576)
    (hsp : ∀ (v : World) (b1 : Nat), Fs v v.heap.size (some ⟨b1, 0, none⟩) n1 x1 → Calls Try.prog 37 #[.int .i64 a0, .slice (some ⟨b1, 0, none⟩) n1 n1, .float .f32 a2] v (PJVB rn0 rf0 ro1 rb2 v))
    (him : ∀ (v : World) (b1 : Nat), Fs v v.heap.size (some ⟨b1, 0, none⟩) n1 x1 → Calls Try.prog 38 #[.int .i64 a0, .slice (some ⟨b1, 0, none⟩) n1 n1, .float .f32 a2] v (PJVB rn0 rf0 ro1 rb2 v)) :
    Calls Try.prog 10 #[.int .i64 a0, .slice A1 n1 c1, .float .f32 a2] w fun e w' => e = .returned (.bool true) ∧ w.Since w.heap.size w' := by
  have S0 : Hid (w.Since w.heap.size w) := Lib.hid (World.Since.refl _ _)
  have F1 : Hid (Fs w w.heap.size A1 n1 x1) := Lib.hid (h1.now S0.out); clear h1
  have hd1 : decide ((1048576 : Int) < n1) = false := decide_eq_false (by omega)
  have HSP := Lib.hid hsp; have HIM := Lib.hid him; clear hsp him
  go_enter Try.func10, Try.ntmps10
  go_wp2_with fail
  have S : Hid (w.Since w.heap.size w) := Lib.hid (World.Since.refl _ _)
  have LV : Hid (Hx w.heap.size w []) := Lib.hid trivial
  go_at_call 16
  refine (toLx_any A1 n1 c1 x1 w _ F1.out S.out hn1).mono ?_
  rintro e v1 ⟨rfl, hg, hs⟩
  have LV' := Lib.hid (LV.out.new hs hg S.out.size); clear LV; have LV := LV'; clear LV'
  have S' := Lib.hid (since_step S.out hs); clear S; have S := S'; clear S'
  clear hs hg
  go_wp2_with fail
  go_at_call 37
  refine (HSP.out _ _ ((LV.out.1.1).readF)).mono ?_
  rintro e v2 ⟨w0, kw0, w1, rfl, hnw0, hgw0, hfw0, how1, hs⟩
  have LV' := Lib.hid ((LV.out.2).new hs hgw0.toX S.out.size); clear LV; have LV := LV'; clear LV'
  have S' := Lib.hid (since_step S.out hs); clear S; have S := S'; clear S'
  have Kw0 := Lib.hid hfw0; have Nw0 := Lib.hid hnw0; clear hfw0 hgw0 hnw0
  clear hs
  have Vw1 := Lib.hid how1; have Lw1 := Lib.hid how1.out.1; clear how1
  go_wp2_with fail
  go_at_call 16
  refine (toLx_any A1 n1 c1 x1 w _ F1.out S.out hn1).mono ?_
  rintro e v3 ⟨rfl, hg, hs⟩
  have LV' := Lib.hid (LV.out.new hs hg S.out.size); clear LV; have LV := LV'; clear LV'
  have S' := Lib.hid (since_step S.out hs); clear S; have S := S'; clear S'
  clear hs hg
  go_wp2_with fail
  go_at_call 38
  refine (HIM.out _ _ ((LV.out.1.1).readF)).mono ?_
  rintro e v4 ⟨g0, kg0, g1, rfl, hng0, hgg0, hfg0, hog1, hs⟩
  have LV' := Lib.hid ((LV.out).new hs hgg0.toX S.out.size); clear LV; have LV := LV'; clear LV'
  have S' := Lib.hid (since_step S.out hs); clear S; have S := S'; clear S'
  have Kg0 := Lib.hid hfg0; have Ng0 := Lib.hid hng0; clear hfg0 hgg0 hng0
  clear hs
  have Vg1 := Lib.hid hog1; have Lg1 := Lib.hid hog1.out.1; clear hog1
  go_wp2_with fail
  go_at_call 28
  refine (eqJ_any g0 w0 _ _ _ _ (LV.out.1.1).readI (LV.out.2.2.1.1).readI (by rw [Ng0.out]; exact hr0) (Nw0.out.trans Ng0.out.symm) Kg0.out Kw0.out).mono ?_
  rintro e v5 ⟨rfl, hs⟩
  have S' := Lib.hid (since_step S.out hs); clear S; have S := S'; clear S'
  have LV' := Lib.hid (LV.out.since hs); clear LV; have LV := LV'; clear LV'
  clear hs
  have Q1 := fun (w : World) => run_wide (P := Try.prog) 46 50 g1 (by kernel_rfl) (by kernel_rfl) w; have Q2 := fun (w : World) => run_wide (P := Try.prog) 46 50 w1 (by kernel_rfl) (by kernel_rfl) w
  go_wp2_with fail
  clear Q1 Q2
  go_at_call 39
  refine (sameFloat_any _ _ _ _ (wv_fv g1 _) (by rw [Vg1.out.out.2, ← Vw1.out.out.2]; exact wv_fv w1 _)).mono ?_
  rintro e w' ⟨rfl, m5, rfl⟩
  have hs : World.Since v5.heap.size v5 (v5.drewN (wn g1 + wn w1 + m5)) := since_drewN (World.Since.refl _ _) _
  simp only [World.drewN_drewN]
  generalize hV : World.drewN v5 (wn g1 + wn w1 + m5) = v6 at hs ⊢
  clear hV
  have S' := Lib.hid (since_step S.out hs); clear S; have S := S'; clear S'
  have LV' := Lib.hid (LV.out.since hs); clear LV; have LV := LV'; clear LV'
  clear hs
  go_wp2_with fail
  go_at_call 16
  refine (toLx_any A1 n1 c1 x1 w _ F1.out S.out hn1).mono ?_
  rintro e v7 ⟨rfl, hg, hs⟩
  have LV' := Lib.hid (LV.out.new hs hg S.out.size); clear LV; have LV := LV'; clear LV'
  have S' := Lib.hid (since_step S.out hs); clear S; have S := S'; clear S'
  clear hs hg
  go_wp2_with fail
  go_at_call 18
  refine (eqL_any ⟨some ⟨v2.heap.size, 0, none⟩, n1, x1⟩ ⟨some ⟨v6.heap.size, 0, none⟩, n1, x1⟩ _ _ _ _ (LV.out.2.2.1.1).readF (LV.out.1.1).readF (by omega) rfl (fun _ _ => rfl) (fun _ _ => rfl)).mono ?_
  rintro e v8 ⟨rfl, hs⟩
  have S' := Lib.hid (since_step S.out hs); clear S; have S := S'; clear S'
  have LV' := Lib.hid (LV.out.since hs); clear LV; have LV := LV'; clear LV'
  clear hs
  have LV' := Lib.hid LV.out.2; clear LV; have LV := LV'; clear LV'
  go_wp2_with fail
  go_at_call 19
  refine (markLx_any (some ⟨v2.heap.size, 0, none⟩) n1 x1 _ (1) _ _ _ _ (Hx.front [_] LV.out) (hn1) (by have := Ng0.out; omega) (by first | rfl | omega | (push_cast; omega))).mono ?_
  rintro e v9 ⟨rfl, hlv, hs⟩
  have LV' := Lib.hid hlv; clear LV hlv; have LV := LV'; clear LV'
  have S' := Lib.hid (since_mark S.out hs); clear S hs; have S := S'; clear S'
  go_wp2_with fail
  go_at_call 28
  refine (eqJ_any g0 w0 _ _ _ _ (LV.out.2.1.1).readI (LV.out.2.2.1.1).readI (by rw [Ng0.out]; exact hr0) (Nw0.out.trans Ng0.out.symm) Kg0.out Kw0.out).mono ?_
  rintro e v10 ⟨rfl, hs⟩
  have S' := Lib.hid (since_step S.out hs); clear S; have S := S'; clear S'
  have LV' := Lib.hid (LV.out.since hs); clear LV; have LV := LV'; clear LV'
  clear hs
  have Q1 := fun (w : World) => run_wide (P := Try.prog) 46 50 g1 (by kernel_rfl) (by kernel_rfl) w; have Q2 := fun (w : World) => run_wide (P := Try.prog) 46 50 w1 (by kernel_rfl) (by kernel_rfl) w
  go_wp2_with fail
  clear Q1 Q2
  go_at_call 39
  refine (sameFloat_any _ _ _ _ (wv_fv g1 _) (by rw [Vg1.out.out.2, ← Vw1.out.out.2]; exact wv_fv w1 _)).mono ?_
  rintro e w' ⟨rfl, m5, rfl⟩
  have hs : World.Since v10.heap.size v10 (v10.drewN (wn g1 + wn w1 + m5)) := since_drewN (World.Since.refl _ _) _
  simp only [World.drewN_drewN]
  generalize hV : World.drewN v10 (wn g1 + wn w1 + m5) = v11 at hs ⊢
  clear hV
  have S' := Lib.hid (since_step S.out hs); clear S; have S := S'; clear S'
  have LV' := Lib.hid (LV.out.since hs); clear LV; have LV := LV'; clear LV'
  clear hs
  go_wp2_with fail
  go_at_call 31
  refine (markIx_any g0.A g0.n g0.xs _ (1) _ _ _ _ (Hx.front [_] LV.out) (by rw [Ng0.out]; exact hr0) (by have := Ng0.out; omega) (by first | rfl | omega | (push_cast; omega))).mono ?_
  rintro e v12 ⟨rfl, hlv, hs⟩
  have LV' := Lib.hid hlv; clear LV hlv; have LV := LV'; clear LV'
  have S' := Lib.hid (since_mark S.out hs); clear S hs; have S := S'; clear S'
  go_wp2_with fail
  go_at_call 32
  refine (heldIx_any g0.A g0.n _ (1) _ _ _ ((LV.out.1.1)) (by rw [Ng0.out]; exact hr0) (by have := Ng0.out; omega) (by first | rfl | omega | (push_cast; omega))).mono ?_
  rintro e v ⟨rfl, rfl⟩
  go_wp2_with fail
  go_at_call 16
  refine (toLx_any A1 n1 c1 x1 w _ F1.out S.out hn1).mono ?_
  rintro e v13 ⟨rfl, hg, hs⟩
  have LV' := Lib.hid (LV.out.new hs hg S.out.size); clear LV; have LV := LV'; clear LV'
  have S' := Lib.hid (since_step S.out hs); clear S; have S := S'; clear S'
  clear hs hg
  go_wp2_with fail
  go_at_call 38
  refine (HIM.out _ _ ((LV.out.1.1).readF)).mono ?_
  rintro e v14 ⟨h0, kh0, h1, rfl, hnh0, hgh0, hfh0, hoh1, hs⟩
  have LV' := Lib.hid ((LV.out.2).new hs hgh0.toX S.out.size); clear LV; have LV := LV'; clear LV'
  have S' := Lib.hid (since_step S.out hs); clear S; have S := S'; clear S'
  have Kh0 := Lib.hid hfh0; have Nh0 := Lib.hid hnh0; clear hfh0 hgh0 hnh0
  clear hs
  have Vh1 := Lib.hid hoh1; have Lh1 := Lib.hid hoh1.out.1; clear hoh1
  go_wp2_with fail
  go_at_call 28
  refine (eqJ_any h0 w0 _ _ _ _ (LV.out.1.1).readI (LV.out.2.2.2.1.1).readI (by rw [Nh0.out]; exact hr0) (Nw0.out.trans Nh0.out.symm) Kh0.out Kw0.out).mono ?_
  rintro e v15 ⟨rfl, hs⟩
  have S' := Lib.hid (since_step S.out hs); clear S; have S := S'; clear S'
  have LV' := Lib.hid (LV.out.since hs); clear LV; have LV := LV'; clear LV'
  clear hs
  have Q1 := fun (w : World) => run_wide (P := Try.prog) 46 50 h1 (by kernel_rfl) (by kernel_rfl) w; have Q2 := fun (w : World) => run_wide (P := Try.prog) 46 50 w1 (by kernel_rfl) (by kernel_rfl) w
  go_wp2_with fail
  clear Q1 Q2
  go_at_call 39
  refine (sameFloat_any _ _ _ _ (wv_fv h1 _) (by rw [Vh1.out.out.2, ← Vw1.out.out.2]; exact wv_fv w1 _)).mono ?_
  rintro e w' ⟨rfl, m5, rfl⟩
  have hs : World.Since v15.heap.size v15 (v15.drewN (wn h1 + wn w1 + m5)) := since_drewN (World.Since.refl _ _) _
  simp only [World.drewN_drewN]
  generalize hV : World.drewN v15 (wn h1 + wn w1 + m5) = v16 at hs ⊢
  clear hV
  have S' := Lib.hid (since_step S.out hs); clear S; have S := S'; clear S'
  have LV' := Lib.hid (LV.out.since hs); clear LV; have LV := LV'; clear LV'
  clear hs
  go_wp2_with fail
  go_at_call 32
  refine (heldIx_any g0.A g0.n _ (1) _ _ _ ((LV.out.2.1.1)) (by rw [Ng0.out]; exact hr0) (by have := Ng0.out; omega) (by first | rfl | omega | (push_cast; omega))).mono ?_
  rintro e v ⟨rfl, rfl⟩
  go_wp2_with fail
  go_ret
  exact ⟨rfl, S.out⟩
set_option maxHeartbeats 2000000 in
set_option maxRecDepth 100000 in
theorem lawCodesShaped_big (a0 : Int) (A1 : Option Addr) (n1 c1 : Nat) (a2 : Nat) (w : World) (h : 1048576 < n1) :
    Calls Try.prog 10 #[.int .i64 a0, .slice A1 n1 c1, .float .f32 a2] w fun e w' => e = .returned (.bool true) ∧ w.Since w.heap.size w' := by
  by_cases b1 : 1048576 < n1
  · have hd1 : decide ((1048576 : Int) < n1) = true := decide_eq_true (by omega)
    go_enter Try.func10, Try.ntmps10
    go_wp2
    go_ret
    exact ⟨rfl, by (repeat (first | (with_reducible refine Fl.sinDrew ?_) | (with_reducible refine World.Since.drew ?_) | (with_reducible refine Fl.sinSet ?_ ?_; rotate_left) | (with_reducible refine Fl.sinAlloc ?_ ?_; rotate_left) | with_reducible exact World.Since.refl _ _ | with_reducible assumption | (with_reducible refine Fl.sinStep (by with_reducible assumption) ?_))); all_goals (first | omega | (simp; done) | (simp; omega) | (simp [go_sem]; done) | (simp [go_sem]; omega))⟩
  · have hd1 : decide ((1048576 : Int) < n1) = false := decide_eq_false (by omega)
    omega
end Go.Proofs.Ytdibobheggffnaa

/- A slice of integers that came in. -/
set_option linter.unusedVariables false
set_option linter.unusedSimpArgs false
namespace Go.Proofs.Ytdibobheggffnaa
namespace Fl
open Go.ChangeShapes Go.WideShapes Go.RowKit Go.WideMaps Go.WideElems
section
variable {H : Type} {enc : TypeId × Value → H} {P : Program}
theorem trod_in {w : World} {base : Nat} {spare : Nat → Bool} {held : Bool} {fuel : Nat} {t : TypeId} {k : IntKind} {cs : List Value} {x : DataW H × List MemPlace} (ht : P.underlying t = some (.int k))
    (h : DataW.trod enc P w base spare held fuel t cs = some x) : ∃ b, cs = [.int k b] ∧ (Lit.int k b).wf = true := by
  cases fuel with
  | zero => simp [DataW.trod] at h
  | succ n =>
    unfold DataW.trod at h
    rw [ht] at h
    split at h <;> simp_all
theorem open_is {W : World} {base b0 : Nat} {r : Reach} {t e : TypeId} {v : Value} {d : DataW H} {ps : List MemPlace} (ht : P.underlying t = some (.slice e)) (he : P.underlying e = some (.int .i64)) (hc : P.cellsOf e = 1)
    (hval : Value.okWide P W r b0 t v) (h : DataW.Trod enc P W base (fun _ => true) true t v d ps) :
    ∃ (A : Option Addr) (n c : Nat) (xs : List Int), v = .slice A n c ∧ (Is W W.heap.size A n xs ∧ ∀ k, k < n → (Lit.int .i64 (wi xs k)).wf = true) ∧ n ≤ 9223372036854775807 := by
  obtain ⟨A, n, c, rfl⟩ := okWide_slice ht hval
  obtain ⟨fuel, hf⟩ := h
  rcases Go.Deep.open_slice ht hf with ⟨hcs, _⟩ | ⟨a, len, cap, m, k, D, Pl, hcs, _, hl, hm, hmm, _, hi⟩
  · simp only [Value.cells, Array.toList] at hcs
    injection hcs with hcs _
    injection hcs with h1 h2 h3
    subst h1; subst h2; subst h3
    exact ⟨none, 0, 0, [], rfl, ⟨⟨rfl, (fun h => by omega)⟩, (fun k h => by omega)⟩, by omega⟩
  · simp only [Value.cells, Array.toList] at hcs
    injection hcs with hcs _
    injection hcs with h1 h2 h3
    subst h1; subst h2; subst h3
    rw [if_pos rfl] at hmm
    subst hmm
    have hcell : ∀ i, i < m → ∃ b : Int, W.cell? (a.add i) = some (.int .i64 b) ∧ (Lit.int .i64 b).wf = true := by
      intro i him
      obtain ⟨cs', hcs', htr⟩ := hi i him
      rw [hc, Nat.mul_one] at hcs'
      obtain ⟨_, hlen, hat⟩ := World.cells?_some hcs'
      obtain ⟨b, hb, hw⟩ := trod_in he htr
      have h0 := hat 0 (by omega)
      rw [hb] at h0
      refine ⟨b, ?_, hw⟩
      have e : (a.add i).add 0 = a.add i := by simp [Addr.add]
      rw [e] at h0
      exact h0
    let f : Nat → Int := fun i => if h : i < m then Classical.choose (hcell i h) else 0
    have hfs : ∀ i (h : i < m), W.cell? (a.add i) = some (.int .i64 (f i)) ∧ (Lit.int .i64 (f i)).wf = true := by
      intro i h
      have := Classical.choose_spec (hcell i h)
      simp only [f, dif_pos h]
      exact this
    refine ⟨some a, n, m, (List.range n).map f, rfl, ⟨⟨by simp, ?_⟩, ?_⟩, by unfold maxLen at hm; omega⟩
    · intro hn
      obtain ⟨g, off, spot⟩ := a
      have h0 := (hfs 0 (by omega)).1
      have hspot : spot = none := by simpa [Addr.add] using World.cell?_spot h0
      subst hspot
      refine ⟨g, off, rfl, ?_, fun k hk => ?_⟩
      · have h1 : W.cell? ⟨g, off, none⟩ = some (.int .i64 (f 0)) := by simpa [Addr.add] using h0
        rcases Nat.lt_or_ge g W.heap.size with h2 | h2
        · exact h2
        · simp [World.cell?, Array.getElem?_eq_none h2] at h1
      · have h1 := (hfs k (by omega)).1
        rw [Go.WideShapes.add_plain] at h1
        rw [h1]
        unfold iv wi
        simp [hk]
    · intro k hk
      have h1 := (hfs k (by omega)).2
      unfold wi
      simpa [hk] using h1
end
end Fl
end Go.Proofs.Ytdibobheggffnaa

/- The law of CodesWith. -/
set_option linter.unusedVariables false
set_option linter.unusedSimpArgs false
namespace Go.Proofs.Ytdibobheggffnaa
open Fl Go.RowKit
theorem lawCodesWith_any (b : Int) (A : Option Addr) (n c : Nat) (xs : List Nat) (A2 : Option Addr) (n2 c2 : Nat) (ns : List Int) (w : World) (w1 : (Lit.int .i64 b).wf = true) (h0 : Fs w w.heap.size A n xs) (m0 : n ≤ 9223372036854775807) (h2 : Is w w.heap.size A2 n2 ns) (hx : ∀ k, k < n2 → (Lit.int .i64 (wi ns k)).wf = true) (m2 : n2 ≤ 9223372036854775807) :
    Calls Try.prog 9 #[.int .i64 b, .slice A n c, .slice A2 n2 c2] w fun e w' => e = .returned (.bool true) ∧ w.Since w.heap.size w' := by
  by_cases b1 : 1048576 < n
  · exact lawCodesWith_big b A n c A2 n2 c2 w (.inl b1)
  by_cases b2 : 1048576 < n2
  · exact lawCodesWith_big b A n c A2 n2 c2 w (.inr b2)
  by_cases hok : okWit b n n2 ns
  · obtain ⟨hb, k1, k2, k3⟩ := hok
    simp only [inB, Bool.and_eq_true, decide_eq_true_eq] at hb
    obtain ⟨b', rfl⟩ : ∃ b' : Nat, b = b' := ⟨b.toNat, by omega⟩
    exact lawCodesWith_gen b' A n c xs A2 n2 c2 ns n _ true w h0 (by omega) h2 (by omega) (by omega) (fun v g1 g2 hg hg2 => specWith_ok b' _ _ n _ n2 _ xs ns v hg hg2 k1 (by omega) (by omega) k2 k3) (fun v g1 g2 hg hg2 => implWith_ok b' g2 _ n _ n2 xs ns v hg hg2 k1 (by omega) (by omega) k2 k3)
  · exact lawCodesWith_gen b A n c xs A2 n2 c2 ns 0 [] false w h0 (by omega) h2 (by omega) (by omega) (fun v g1 g2 hg hg2 => specWith_no b _ _ n _ n2 _ xs ns v hg2 (by omega) (by omega) hok) (fun v g1 g2 hg hg2 => implWith_no b _ _ n _ n2 _ ns v hg2 (by omega) (by omega) hok)
end Go.Proofs.Ytdibobheggffnaa

/- Bits: codes that carry their errors on, the model's. -/
set_option linter.unusedVariables false
set_option linter.unusedSimpArgs false
namespace Go.Proofs.Ytdibobheggffnaa
open Fl Go.RowKit
def finO : O → Bool
  | none => false
  | some b => finB b
theorem finO_fv {q : Nat} {E : O} (h : Hid (Fv .f32 q E)) : finB q = finO E := by
  have h2 := h.out.2
  unfold ab at h2
  rw [ir32, sw32] at h2
  split at h2
  · subst h2; unfold finB finO; exact decide_eq_false (by omega)
  · subst h2; rfl
theorem specFinR_any (x : Nat) (b : Bool) (w : World) (hx : x < 4294967296) (h : finB x = b) :
    Calls Try.prog 73 #[.float .f32 x] w fun e w' => e = .returned (.bool b) ∧ ∃ n, w' = w.drewN n := by
  subst h
  go_enter Try.func73, Try.ntmps73
  go_wp2_with (first | (with_reducible_and_instances refine wpList_fop _ rfl _ _ _ _ _ rfl _ _ _ rfl rfl rfl ?_; intro r n hr))
  go_ret
  refine ⟨ret_bool ?_, n, rfl⟩
  rw [order_ab, hr.2, sub_self_any, rung32, ir32]
  unfold finB
  by_cases h : x % 2147483648 < 2139095040
  · rw [if_pos h, decide_eq_true h]; rfl
  · rw [if_neg h, decide_eq_false h]; rfl
def shX (m : Nat) (X E : O) : O := opO .sub .f32 (opO .mul .f32 X (some (fI (m : Int)))) E
def shC (m : Nat) (x : O) : Int := codO m (wide x)
def shR (m : Nat) (S x : O) : O := opO .mul .f32 S (opO .sub .f32 (some (fI (shC m x))) x)
def shE (m : Nat) (S x : O) : O := if finO (shR m S x) then shR m S x else some 0
def shS (m : Nat) (S : O) (F : Nat → O) : Nat → O
  | 0 => some 0
  | k + 1 => shE m S (shX m (F k) (shS m S F k))
def shF (m : Nat) (S : O) (F : Nat → O) (k : Nat) : Int := shC m (shX m (F k) (shS m S F k))
set_option maxHeartbeats 8000000 in
set_option maxRecDepth 100000 in
theorem specShaped_ok (b s : Nat) (S : O) (A : Option Addr) (n c : Nat) (xs : List Nat) (w : World) (hA : Fs w w.heap.size A n xs) (hn : n ≤ 256) (h1 : 2 ≤ b) (h2 : b ≤ 16) (hs : Hid (Fv .f32 s S)) :
    Calls Try.prog 37 #[.int .i64 b, .slice A n c, .float .f32 s] w (PJVB n (codL (shF (mst b) S (fun k => ab .f32 (wd xs k))) n) (shS (mst b) S (fun k => ab .f32 (wd xs k)) n) true w) := by
  have HA := Lib.hid hA
  have hb : inB (b : Int) 2 16 = true := by simp [inB]; omega
  have hfew : decide ((n : Int) ≤ 256) = true := decide_eq_true (by omega)
  have hm := mst_le h1 h2
  have hq : ∀ W, Calls Try.prog 64 #[.int .i64 b] W fun e w' => e = .returned (.int .i64 (mst b : Nat)) ∧ w' = W := fun W => (specMost_any b W h1 h2).mono fun _ _ ⟨a, b⟩ => ⟨a, b.symm⟩
  have hcd : ∀ (x : Nat) (X : O) (W : World), Hid (Fv .f64 x X) → Calls Try.prog 67 #[.int .i64 b, .float .f64 x] W fun e w2 => e = .returned (.int .i64 (codO (mst b) X)) ∧ W = w2 := fun x X W hx => specCode_any b x X W h1 h2 hx
  obtain ⟨m, hmm⟩ : ∃ m, m = mst b := ⟨_, rfl⟩
  rw [← hmm] at hq hcd hm ⊢
  have HQ := Lib.hid hq; have HC := Lib.hid hcd
  have f2 := fI_fv (m : Int)
  clear hA hq hcd hmm
  go_enter Try.func37, Try.ntmps37
  go_wp2_with (first | (go_at_call 62; refine (specBits_b b true _ hb).mono ?_; rintro e w' ⟨rfl, rfl⟩) | (go_at_call 49; refine (specFew_any _ _ _ _ _ hfew).mono ?_; rintro e w' ⟨rfl, rfl⟩))
  go_loopw [9, 10, 11] (fun v ev i wr => ∃ k q : Nat, k ≤ n ∧ i = .int .i64 k ∧ ev = .float .f32 q ∧ Hid (Fv .f32 q (shS m S (fun k => ab .f32 (wd xs k)) k)) ∧ RwI w.heap.size wr v (codL (shF m S (fun k => ab .f32 (wd xs k))) k) ∧ w.Since w.heap.size wr) (fun _ _ i _ => n - (intOf i).toNat)
  case atStart => exact ⟨0, 0, Nat.zero_le _, rfl, rfl, fv0, RwI.start w _ (Nat.le_refl _), (World.Since.refl _ _).alloc (Nat.le_refl _) _⟩
  case round =>
    obtain ⟨k, q, hk, rfl, rfl, hq, hr, hs'⟩ := hrel
    have HR := Lib.hid hr; have HS := Lib.hid hs'
    clear hr hs'
    by_cases hlt : k < n
    · obtain ⟨g, off, rfl, hg, hc⟩ := HA.out.2.2 (by omega)
      have hcell : wr.cell? ⟨g, off + k, none⟩ = some (.float .f32 (wd xs k)) := (HS.out.cell (a := ⟨g, off + k, none⟩) hg).trans (hc k hlt)
      have hx : Hid (Fv .f32 (wd xs k) (ab .f32 (wd xs k))) := Lib.hid ⟨HA.out.2.1.at_ k, rfl⟩
      have hsz := HS.out.size
      have hl := codL_len (shF m S (fun k => ab .f32 (wd xs k))) k
      have eL := Lib.hid (codL_snoc (shF m S (fun k => ab .f32 (wd xs k))) k)
      have eX : Hid (shX m (ab .f32 (wd xs k)) (shS m S (fun k => ab .f32 (wd xs k)) k) = opO .sub .f32 (opO .mul .f32 (ab .f32 (wd xs k)) (some (fI (m : Int)))) (shS m S (fun k => ab .f32 (wd xs k)) k)) := Lib.hid rfl
      have eF : Hid (shF m S (fun k => ab .f32 (wd xs k)) k = shC m (shX m (ab .f32 (wd xs k)) (shS m S (fun k => ab .f32 (wd xs k)) k))) := Lib.hid rfl
      have eS : Hid (shS m S (fun k => ab .f32 (wd xs k)) (k + 1) = shE m S (shX m (ab .f32 (wd xs k)) (shS m S (fun k => ab .f32 (wd xs k)) k))) := Lib.hid rfl
      clear hc
      go_wp2_with fail
      refine Lo.wp_loose_all [37,38,39,12] (by kernel_rfl) (by kernel_rfl) ?_
      repeat (first
        | (refine Lo.wpL_move rfl _ (.inl rfl) (by decide) ?_; simp only [Act.put, List.setIfInBounds_toArray, List.set_cons_succ, List.set_cons_zero])
        | (refine Lo.wpL_move rfl _ (.inr rfl) (by decide) ?_; simp only [Act.put, List.setIfInBounds_toArray, List.set_cons_succ, List.set_cons_zero])
        | (refine Lo.wpL_fop rfl _ _ _ _ rfl rfl (by decide) _ _ _ _ _ rfl rfl (by assumption) (by assumption) ?_; intro rr hrr; simp only [Act.put, List.setIfInBounds_toArray, List.set_cons_succ, List.set_cons_zero])
        | (refine Lo.wpL_wide rfl _ _ _ rfl (by decide) _ _ rfl (by kernel_rfl) (by kernel_rfl) (by assumption) ?_; intro rr hrr; simp only [Act.put, List.setIfInBounds_toArray, List.set_cons_succ, List.set_cons_zero])
        | (refine Lo.wpL_quiet rfl (by decide) (fun K hK => ?_); go_big_quiet_op; first | (refine hK _ ?_; clear hK K) | (apply Exists.intro; refine ⟨fun _ => ?_, hK _ ?_⟩; (first | (go_at_call 64; exact (HQ.out _).mono fun _ _ ⟨h1, h2⟩ => ⟨h1, _, h2⟩)); clear hK K)))
      refine Lo.wpL_nil ?_
      refine Lo.after_fl rfl (by assumption) ?_; intro q37 h37; simp only [Act.put, List.setIfInBounds_toArray, List.set_cons_succ, List.set_cons_zero]
      refine Lo.after_fl rfl (by assumption) ?_; intro q38 h38; simp only [Act.put, List.setIfInBounds_toArray, List.set_cons_succ, List.set_cons_zero]
      refine Lo.after_fl rfl (by assumption) ?_; intro q39 h39; simp only [Act.put, List.setIfInBounds_toArray, List.set_cons_succ, List.set_cons_zero]
      refine Lo.after_fl rfl (by assumption) ?_; intro q12 h12; simp only [Act.put, List.setIfInBounds_toArray, List.set_cons_succ, List.set_cons_zero]
      refine Lo.after_nil ?_; intro nq
      rw [← eX.out] at h12 h39
      clear h37 h38 h39 eX
      generalize shX m (ab .f32 (wd xs k)) (shS m S (fun k => ab .f32 (wd xs k)) k) = x at *
      have hCx : Hid (codO m (wide x) = shC m x) := Lib.hid rfl
      have eR : Hid (opO .mul .f32 S (opO .sub .f32 (some (fI (shC m x))) x) = shR m S x) := Lib.hid rfl
      have f3 := fI_fv (shC m x)
      go_wp2_with (first | (with_reducible_and_instances refine Lo.wpList_wi _ rfl _ _ _ rfl _ _ rfl (by kernel_rfl) (by kernel_rfl) (by assumption) ?_; intro rr nn hrr) | fail)
      refine (HC.out _ _ _ hrr).mono ?_
      rintro e w1 ⟨rfl, rfl⟩
      clear hrr
      rw [hCx.out]
      go_wp2_with (first | (with_reducible_and_instances refine Lo.wpList_fo _ rfl _ _ _ _ _ rfl _ _ _ _ _ rfl rfl rfl (by assumption) (by assumption) ?_; intro rr nn hrr) | (at_builtin; refine wpList_app1I rfl (.tmp 44) (.tmp 46) rfl w.heap.size _ (codL (shF m S (fun k => ab .f32 (wd xs k))) k) rfl _ (shC m x) rfl (by simp [go_sem]) (by omega) (by simp; omega) (HR.out.alloc _) ?_; intro v' w3 hR3 hS3) | fail)
      rw [eR.out] at hrr
      have hfin := finO_fv hrr
      have eE : Hid (shE m S x = if finO (shR m S x) then shR m S x else some 0) := Lib.hid rfl
      have SS : Hid (w.Since w.heap.size w3) := Lib.hid (HS.out.trans ((since_drewN ((World.Since.refl _ _).alloc hsz _) _).trans hS3.out))
      cases hF : finO (shR m S x)
      · rw [hF] at hfin eE
        refine (specFinR_any _ false _ hrr.out.1 hfin).mono ?_
        rintro e w4 ⟨rfl, n4, rfl⟩
        go_wp2
        go_roundw
        case rel => exact ⟨k + 1, 0, by omega, by go_num, rfl, by rw [eS.out, eE.out]; exact fv0, by rw [eL.out, eF.out]; exact (hR3.out.drewN _), since_drewN SS.out _⟩
        case measure => simp [intOf]; omega
      · rw [hF] at hfin eE
        refine (specFinR_any _ true _ hrr.out.1 hfin).mono ?_
        rintro e w4 ⟨rfl, n4, rfl⟩
        go_wp2
        go_roundw
        case rel => exact ⟨k + 1, rr, by omega, by go_num, rfl, by rw [eS.out, eE.out]; exact hrr, by rw [eL.out, eF.out]; exact (hR3.out.drewN _), since_drewN SS.out _⟩
        case measure => simp [intOf]; omega
    · obtain rfl : k = n := by omega
      obtain ⟨p', cp, rfl, hpn, hg, hxs⟩ := HR.out.done
      rw [codL_len] at hpn
      have HG := Lib.hid hg; have HXS := Lib.hid hxs; have HN := Lib.hid hpn; clear hg hxs hpn
      go_wp2
      go_ret3
      exact ⟨p', cp, q, rfl, HN.out, HG.out, HXS.out, hq, HS.out⟩
end Go.Proofs.Ytdibobheggffnaa

/- Bits: codes that carry their errors on, the program's. -/
set_option linter.unusedVariables false
set_option linter.unusedSimpArgs false
namespace Go.Proofs.Ytdibobheggffnaa
open Fl Go.RowKit
/-- the error in block gc, the coder in block g, the share in block gs -/
structure ShB (W : World) (gc g gs m s : Nat) (E : O) : Prop where
  e : ∃ q, W.heap[gc]? = some (.cells #[.float .f32 q] 46 (0, 0)) ∧ Hid (Fv .f32 q E)
  c : CodB W g m
  s : W.heap[gs]? = some (.cells #[.float .f32 s] 46 (0, 0))
theorem ShB.since {W W' : World} {gc g gs m s : Nat} {E : O} (h : ShB W gc g gs m s E) (S : W.Since W.heap.size W') (h1 : gs < g) (h2 : g < gc) : ShB W' gc g gs m s E := by
  obtain ⟨⟨q, a, b⟩, c, d⟩ := h
  have l : gc < W.heap.size := (Array.getElem?_eq_some_iff.1 a).1
  refine ⟨⟨q, (S.block _ l).trans a, b⟩, ?_, (S.block _ (by omega)).trans d⟩
  unfold CodB at *
  exact (S.block _ (by omega)).trans c
theorem ShB.keep {W W' : World} {gc g gs m s : Nat} {E : O} (h : ShB W gc g gs m s E) (e : ∀ b, b ≤ gc → W'.heap[b]? = W.heap[b]?) (h1 : gs < g) (h2 : g < gc) : ShB W' gc g gs m s E := by
  obtain ⟨⟨q, a, b⟩, c, d⟩ := h
  refine ⟨⟨q, (e _ (Nat.le_refl _)).trans a, b⟩, ?_, (e _ (by omega)).trans d⟩
  unfold CodB at *
  exact (e _ (by omega)).trans c
theorem ShB.put {W : World} {gc g gs m s : Nat} {E E' : O} (h : ShB W gc g gs m s E) {v : Nat} (hv : Hid (Fv .f32 v E')) (h1 : gs < g) (h2 : g < gc) : ShB (W.setCell ⟨gc, 0, none⟩ (.float .f32 v)) gc g gs m s E' := by
  obtain ⟨⟨q, a, b⟩, c, d⟩ := h
  refine ⟨⟨v, by simp [World.setCell, Array.getElem?_modify, a], hv⟩, ?_, (Go.Deep.blk_setCell_other _ _ _ _ (show gs ≠ gc by omega)).trans d⟩
  unfold CodB at *
  exact (Go.Deep.blk_setCell_other _ _ _ _ (show g ≠ gc by omega)).trans c
theorem ShB.drewN {W : World} {gc g gs m s : Nat} {E : O} (h : ShB W gc g gs m s E) (k : Nat) : ShB (W.drewN k) gc g gs m s E := ⟨h.e, h.c, h.s⟩
set_option maxHeartbeats 4000000 in
set_option maxRecDepth 100000 in
theorem shClos_any (m gc g gs s i : Nat) (q : Nat) (X E S : O) (W : World) (C : Cst m) (hm : 2 ≤ m ∧ m ≤ 32768) (hx : Hid (Fv .f32 q X)) (hS : Hid (Fv .f32 s S)) (hI : ShB W gc g gs m s E) (h1 : gs < g) (h2 : g < gc) :
    Calls Try.prog 74 #[.int .i64 (i : Int), .float .f32 q, .pointer (some ⟨gc, 0, none⟩), .pointer (some ⟨g, 0, none⟩), .pointer (some ⟨gs, 0, none⟩)] W fun e W' => e = .returned (.int .i64 (shC m (opO .sub .f32 X E))) ∧ ShB W' gc g gs m s (shE m S (opO .sub .f32 X E)) ∧ On gc W W' := by
  have HN := Lib.hid (fun x X W hx => implNear_any m x X W C hm hx)
  unfold codV at HN
  have HI := Lib.hid hI
  obtain ⟨⟨eq, hgc, hE⟩, hg, hgs⟩ := hI
  unfold CodB at hg
  obtain ⟨f, hf⟩ : ∃ f, f = floatOfInt .f32 (m : Int) := ⟨_, rfl⟩
  rw [← hf] at HN hg
  clear hf C
  have lc : gc < W.heap.size := (Array.getElem?_eq_some_iff.1 hgc).1
  have d0 : W.cell? ⟨g, 0, none⟩ = some (.int .i64 (-(m : Int))) := by simp [World.cell?, hg]
  have d1 : W.cell? ⟨g, 1, none⟩ = some (.int .i64 ((m : Int) - 1)) := by simp [World.cell?, hg]
  have d2 : W.cell? ⟨g, 2, none⟩ = some (.float .f32 f) := by simp [World.cell?, hg]
  have e0 : W.cell? ⟨gc, 0, none⟩ = some (.float .f32 eq) := by simp [World.cell?, hgc]
  have s0 : W.cell? ⟨gs, 0, none⟩ = some (.float .f32 s) := by simp [World.cell?, hgs]
  have HGC := Lib.hid hgc; have HGS := Lib.hid hgs; have HG := Lib.hid hg
  clear hg hgc hgs
  obtain ⟨x, hxx⟩ : ∃ x, x = opO .sub .f32 X E := ⟨_, rfl⟩
  rw [← hxx]
  have HX := Lib.hid hxx.symm
  clear hxx
  have hCx : Hid (codO m (wide x) = shC m x) := Lib.hid rfl
  have eR : Hid (opO .mul .f32 S (opO .sub .f32 (some (fI (shC m x))) x) = shR m S x) := Lib.hid rfl
  have eE : Hid (shE m S x = if finO (shR m S x) then shR m S x else some 0) := Lib.hid rfl
  have f3 := fI_fv (shC m x)
  go_enter Try.func74, Try.ntmps74
  go_wp2_with (first | (with_reducible_and_instances refine Lo.wpList_fo _ rfl _ _ _ _ _ rfl _ _ _ _ _ rfl rfl rfl (by assumption) (by assumption) ?_; intro rr nn hrr) | (with_reducible_and_instances refine Lo.wpList_wi _ rfl _ _ _ rfl _ _ rfl (by kernel_rfl) (by kernel_rfl) (by assumption) ?_; intro rr nn hrr) | fail)
  rw [HX.out] at hrr
  refine (HN.out _ _ _ hrr).mono ?_
  rintro e w2 ⟨rfl, hs2⟩
  rw [hCx.out]
  have S2 : Hid (W.Since W.heap.size w2) := Lib.hid (since_step (by (repeat (first | (with_reducible refine Fl.sinDrew ?_) | (with_reducible refine World.Since.drew ?_) | (with_reducible refine Fl.sinSet ?_ ?_; rotate_left) | (with_reducible refine Fl.sinAlloc ?_ ?_; rotate_left) | with_reducible exact World.Since.refl _ _ | with_reducible assumption | (with_reducible refine Fl.sinStep (by with_reducible assumption) ?_))); all_goals (first | omega | (simp; done) | (simp; omega) | (simp [go_sem]; done) | (simp [go_sem]; omega))) hs2)
  clear hs2
  have lz := S2.out.size
  have GC2 : Hid (w2.heap[gc]? = some (.cells #[.float .f32 eq] 46 (0, 0))) := Lib.hid ((S2.out.block _ lc).trans HGC.out)
  have GS2 : Hid (w2.heap[gs]? = some (.cells #[.float .f32 s] 46 (0, 0))) := Lib.hid ((S2.out.block _ (by omega)).trans HGS.out)
  have G2 : Hid (w2.heap[g]? = some (.cells #[.int .i64 (-(m : Int)), .int .i64 ((m : Int) - 1), .float .f32 f] 72 (0, 0))) := Lib.hid ((S2.out.block _ (by omega)).trans HG.out)
  clear d0 d1 d2 e0 s0
  have e0 : w2.cell? ⟨gc, 0, none⟩ = some (.float .f32 eq) := by simp [World.cell?, GC2.out]
  have s0 : w2.cell? ⟨gs, 0, none⟩ = some (.float .f32 s) := by simp [World.cell?, GS2.out]
  have fz : w2.frozen? ⟨gc, 0, none⟩ = false := by simp [World.frozen?, GC2.out]
  have hfin := finO_fv (q := 0) fv0
  have I2 := Lib.hid (HI.out.since S2.out h1 h2)
  have O2 := Lib.hid (On.ofS S2.out (show gc ≤ W.heap.size by omega))
  go_wp2_with (first | (with_reducible_and_instances refine Lo.wpList_fo _ rfl _ _ _ _ _ rfl _ _ _ _ _ rfl rfl rfl (by assumption) (by assumption) ?_; intro rr nn hrr) | fail)
  rw [HX.out, eR.out] at hrr
  have hfin := finO_fv hrr
  have I3 := Lib.hid (I2.out.put hrr h1 h2)
  have O3 := Lib.hid (O2.out.set 0 (.float .f32 rr))
  cases hF : finO (shR m S x)
  · rw [hF] at hfin eE
    refine (implFinite_any _ _ hrr.out.1).mono ?_
    rw [hfin]
    rintro e w4 ⟨rfl, rfl⟩
    have fz2 : (w2.setCell ⟨gc, 0, none⟩ (.float .f32 rr)).frozen? ⟨gc, 0, none⟩ = false := by
      obtain ⟨⟨q, a, _⟩, _, _⟩ := I3.out
      simp [World.frozen?, a]
    have fc2 : (w2.setCell ⟨gc, 0, none⟩ (.float .f32 rr)).cell? ⟨gc, 0, none⟩ = some (.float .f32 rr) := by
      simp [World.cell?, World.setCell, Array.getElem?_modify, GC2.out]
    generalize hW3 : w2.setCell ⟨gc, 0, none⟩ (.float .f32 rr) = W3 at *
    clear hW3
    go_wp2
    go_ret
    refine ⟨rfl, ?_, ?_⟩
    · rw [eE.out]; exact (I3.out.put fv0 h1 h2).drewN _
    · exact (O3.out.set 0 _).drewN _
  · rw [hF] at hfin eE
    refine (implFinite_any _ _ hrr.out.1).mono ?_
    rw [hfin]
    rintro e w4 ⟨rfl, rfl⟩
    go_wp2
    go_ret
    refine ⟨rfl, ?_, ?_⟩
    · rw [eE.out]; exact I3.out.drewN _
    · exact O3.out.drewN _
end Go.Proofs.Ytdibobheggffnaa

/- Bits: codes that carry their errors on, the program's run. -/
set_option linter.unusedVariables false
set_option linter.unusedSimpArgs false
namespace Go.Proofs.Ytdibobheggffnaa
open Fl Go.RowKit
set_option maxHeartbeats 8000000 in
set_option maxRecDepth 100000 in
theorem implShaped_ok (b s : Nat) (S : O) (A : Option Addr) (n c : Nat) (xs : List Nat) (w : World) (hA : Fs w w.heap.size A n xs) (hn : n ≤ 256) (h1 : 2 ≤ b) (h2 : b ≤ 16) (hs : Hid (Fv .f32 s S)) :
    Calls Try.prog 38 #[.int .i64 b, .slice A n c, .float .f32 s] w (PJVB n (codL (shF (mst b) S (fun k => ab .f32 (wd xs k))) n) (shS (mst b) S (fun k => ab .f32 (wd xs k)) n) true w) := by
  have HA := Lib.hid hA
  have hfew : decide ((n : Int) ≤ 256) = true := decide_eq_true (by omega)
  have hm := mst_le h1 h2
  have C := cst_of h1 h2
  have hq := fun W => coderOf_ok b W h1 h2
  obtain ⟨m, hmm⟩ : ∃ m, m = mst b := ⟨_, rfl⟩
  rw [← hmm] at hq hm C ⊢
  obtain ⟨F, hF⟩ : ∃ F : Nat → O, F = fun k => ab .f32 (wd xs k) := ⟨_, rfl⟩
  rw [← hF]
  have hFk : ∀ k, ab .f32 (wd xs k) = F k := fun k => by rw [hF]
  have hby := fun (W : World) (gc g gs : Nat) => codesBy_any A n c m xs 74 #[.pointer (some ⟨gc, 0, none⟩), .pointer (some ⟨g, 0, none⟩), .pointer (some ⟨gs, 0, none⟩)] gc (fun k W => ShB W gc g gs m s (shS m S F k)) (shF m S F) W
  have HB : Hid (∀ (W : World) (gc g gs : Nat), Fs W gc A n xs → gs < g → g < gc → gc < W.heap.size → ShB W gc g gs m s (some 0) → Calls Try.prog 68 #[codV m, .slice A n c, .func (.func 74) #[] #[.pointer (some ⟨gc, 0, none⟩), .pointer (some ⟨g, 0, none⟩), .pointer (some ⟨gs, 0, none⟩)]] W fun e w' => ∃ g', e = .returned (.slice (some ⟨g', 0, none⟩) n n) ∧ IGs 2 w' W.heap.size (some ⟨g', 0, none⟩) n (codL (shF m S F) n) ∧ ShB w' gc g gs m s (shS m S F n) ∧ W.Since gc w') := Lib.hid (fun W gc g gs hf h3 h4 h5 hI =>
    (hby W gc g gs hf h5 hn (fun _ _ => rfl) (fun k V V' h6 _ _ h7 => h6.keep (fun b hb => h7 b (by omega)) h3 h4) (fun k q V hk hqq hi hs' => by
      rw [hFk] at hqq
      refine (shClos_any m gc g gs s k q _ _ S V C hm hqq hs hi h3 h4).mono ?_
      rintro e V' ⟨rfl, q1, q2⟩
      exact ⟨rfl, q1, q2⟩) hI).mono fun e w' ⟨g', a, b', i, d⟩ => ⟨g', a, b', i, d.1⟩)
  unfold codV at hq HB
  have HSB : Hid (∀ (W : World) (gc g gs : Nat), (∃ q, W.heap[gc]? = some (.cells #[.float .f32 q] 46 (0, 0)) ∧ Hid (Fv .f32 q (some 0))) → W.heap[g]? = some (.cells #[.int .i64 (-(m : Int)), .int .i64 ((m : Int) - 1), .float .f32 (floatOfInt .f32 (m : Int))] 72 (0, 0)) → W.heap[gs]? = some (.cells #[.float .f32 s] 46 (0, 0)) → ShB W gc g gs m s (some 0)) := Lib.hid (fun W gc g gs a b c => ⟨a, b, c⟩)
  obtain ⟨f, hf⟩ : ∃ f, f = floatOfInt .f32 (m : Int) := ⟨_, rfl⟩
  rw [← hf] at hq HSB HB
  have HQ := Lib.hid hq
  obtain ⟨W0, hW0⟩ : ∃ W, W = w.alloc (.cells #[.float .f32 s] 46) := ⟨_, rfl⟩
  have S0 : Hid (w.Since w.heap.size W0) := Lib.hid (by rw [hW0]; exact (World.Since.refl _ _).alloc (Nat.le_refl _) _)
  have z0 : W0.heap.size = w.heap.size + 1 := by rw [hW0]; simp
  have N0 : Hid (W0.heap[w.heap.size]? = some (.cells #[.float .f32 s] 46 (0, 0))) := Lib.hid (by rw [hW0]; exact Go.Deep.blk_alloc_new _ _)
  clear hq hf hmm hA C hby hF hFk
  go_enter Try.func38, Try.ntmps38
  go_wp2_with fail
  rw [← hW0]
  clear hW0
  go_at_call 65
  refine (HQ.out _).mono ?_; rintro e w1 ⟨rfl, hs1⟩; have HS1 := Lib.hid hs1; clear hs1
  have z1 := HS1.out.size
  have N1 : Hid (w1.heap[w.heap.size]? = some (.cells #[.float .f32 s] 46 (0, 0))) := Lib.hid ((HS1.out.block _ (by omega)).trans N0.out)
  go_wp2_with fail
  obtain ⟨W, hW⟩ : ∃ W, W = w1.alloc (.cells #[.int .i64 (-(m : Int)), .int .i64 ((m : Int) - 1), .float .f32 f] 72) := ⟨_, rfl⟩
  rw [← hW]
  have S1 : Hid (w.Since w.heap.size W) := Lib.hid (since_step S0.out (HS1.out.trans (by rw [hW]; exact (World.Since.refl _ _).alloc HS1.out.size _)))
  have zW : W.heap.size = w1.heap.size + 1 := by rw [hW]; simp
  have CB : Hid (W.heap[w1.heap.size]? = some (.cells #[.int .i64 (-(m : Int)), .int .i64 ((m : Int) - 1), .float .f32 f] 72 (0, 0))) := Lib.hid (by rw [hW]; exact Go.Deep.blk_alloc_new _ _)
  have NB : Hid (W.heap[w.heap.size]? = some (.cells #[.float .f32 s] 46 (0, 0))) := Lib.hid (by rw [hW]; exact (((World.Since.refl w1.heap.size w1).alloc (Nat.le_refl _) _).block _ (by omega)).trans N1.out)
  clear hW N0 N1
  obtain ⟨W2, hW2⟩ : ∃ V, V = W.alloc (.cells #[.float .f32 0] 46) := ⟨_, rfl⟩
  have S2 : Hid (w.Since w.heap.size W2) := Lib.hid (S1.out.trans (by rw [hW2]; exact (World.Since.refl _ _).alloc S1.out.size _))
  have zW2 : W2.heap.size = W.heap.size + 1 := by rw [hW2]; simp
  have E2 : Hid (W2.heap[W.heap.size]? = some (.cells #[.float .f32 0] 46 (0, 0))) := Lib.hid (by rw [hW2]; exact Go.Deep.blk_alloc_new _ _)
  have C2 : Hid (W2.heap[w1.heap.size]? = some (.cells #[.int .i64 (-(m : Int)), .int .i64 ((m : Int) - 1), .float .f32 f] 72 (0, 0))) := Lib.hid (by rw [hW2]; exact (((World.Since.refl W.heap.size W).alloc (Nat.le_refl _) _).block _ (by omega)).trans CB.out)
  have N2 : Hid (W2.heap[w.heap.size]? = some (.cells #[.float .f32 s] 46 (0, 0))) := Lib.hid (by rw [hW2]; exact (((World.Since.refl W.heap.size W).alloc (Nat.le_refl _) _).block _ (by omega)).trans NB.out)
  have lg : w1.heap.size < W.heap.size := by omega
  have d0 : W.cell? ⟨w1.heap.size, 0, none⟩ = some (.int .i64 (-(m : Int))) := by simp [World.cell?, CB.out]
  have d1 : W.cell? ⟨w1.heap.size, 1, none⟩ = some (.int .i64 ((m : Int) - 1)) := by simp [World.cell?, CB.out]
  have d2 : W.cell? ⟨w1.heap.size, 2, none⟩ = some (.float .f32 f) := by simp [World.cell?, CB.out]
  go_wp2_with (first | (go_at_call 56; refine (implSamples_b _ _ _ _ _ hfew).mono ?_; rintro e w' ⟨rfl, rfl⟩) | fail)
  rw [← hW2]
  clear hW2
  refine (HB.out W2 (w1.heap.size + 1) w1.heap.size w.heap.size ((HA.out.since S2.out).more (by omega)) (by omega) (by omega) (by omega) (HSB.out _ _ _ _ ⟨0, (by rw [← zW]; exact E2.out), fv0⟩ C2.out N2.out)).mono ?_
  rintro e w3 ⟨g', rfl, hg, hsh, hs'⟩
  have HG := Lib.hid hg; have HS := Lib.hid hs'
  obtain ⟨q, e1, hq⟩ := hsh.e
  clear hg hs' hsh d0 d1 d2
  have e0 : w3.cell? ⟨w1.heap.size + 1, 0, none⟩ = some (.float .f32 q) := by simp [World.cell?, e1]
  clear e1
  go_wp2_with fail
  go_quiet (fail)
  go_wp2
  go_ret3
  exact ⟨⟨some ⟨g', 0, none⟩, n, codL (shF m S F) n⟩, n, q, rfl, rfl, HG.out.less (by omega), rfl, hq, since_drewN (S2.out.trans (since_mono HS.out (by omega))) _⟩
end Go.Proofs.Ytdibobheggffnaa

/- The law of CodesShaped. -/
set_option linter.unusedVariables false
set_option linter.unusedSimpArgs false
namespace Go.Proofs.Ytdibobheggffnaa
open Fl Go.RowKit
theorem PJVB.none_ {w w' : World} (s : w.Since w.heap.size w') : PJVB 0 [] (some 0) false w (.returned (.tuple #[.slice none 0 0, .float .f32 0, .bool false])) w' :=
  ⟨⟨none, 0, []⟩, 0, 0, rfl, rfl, IGs.nil_, rfl, fv0, s⟩
set_option maxHeartbeats 2000000 in
theorem specShaped_no (b : Int) (A : Option Addr) (n c s : Nat) (w : World) (h : ¬ (inB b 2 16 = true ∧ n ≤ 256)) : Calls Try.prog 37 #[.int .i64 b, .slice A n c, .float .f32 s] w (PJVB 0 [] (some 0) false w) := by
  cases hb : inB b 2 16
  · go_enter Try.func37, Try.ntmps37
    go_wp2_with (go_at_call 62; refine (specBits_b b false _ hb).mono ?_; rintro e w' ⟨rfl, rfl⟩)
    go_ret3
    exact PJVB.none_ (by (repeat (first | (with_reducible refine Fl.sinDrew ?_) | (with_reducible refine World.Since.drew ?_) | (with_reducible refine Fl.sinSet ?_ ?_; rotate_left) | (with_reducible refine Fl.sinAlloc ?_ ?_; rotate_left) | with_reducible exact World.Since.refl _ _ | with_reducible assumption | (with_reducible refine Fl.sinStep (by with_reducible assumption) ?_))); all_goals (first | omega | (simp; done) | (simp; omega) | (simp [go_sem]; done) | (simp [go_sem]; omega)))
  · have hfew : decide ((n : Int) ≤ 256) = false := decide_eq_false (fun h2 => h ⟨hb, by omega⟩)
    go_enter Try.func37, Try.ntmps37
    go_wp2_with (first | (go_at_call 62; refine (specBits_b b true _ hb).mono ?_; rintro e w' ⟨rfl, rfl⟩) | (go_at_call 49; refine (specFew_any _ _ _ _ _ hfew).mono ?_; rintro e w' ⟨rfl, rfl⟩))
    go_ret3
    exact PJVB.none_ (by (repeat (first | (with_reducible refine Fl.sinDrew ?_) | (with_reducible refine World.Since.drew ?_) | (with_reducible refine Fl.sinSet ?_ ?_; rotate_left) | (with_reducible refine Fl.sinAlloc ?_ ?_; rotate_left) | with_reducible exact World.Since.refl _ _ | with_reducible assumption | (with_reducible refine Fl.sinStep (by with_reducible assumption) ?_))); all_goals (first | omega | (simp; done) | (simp; omega) | (simp [go_sem]; done) | (simp [go_sem]; omega)))
set_option maxHeartbeats 2000000 in
theorem implShaped_no (b : Int) (A : Option Addr) (n c s : Nat) (w : World) (h : ¬ (inB b 2 16 = true ∧ n ≤ 256)) : Calls Try.prog 38 #[.int .i64 b, .slice A n c, .float .f32 s] w (PJVB 0 [] (some 0) false w) := by
  obtain ⟨W0, hW0⟩ : ∃ W, W = w.alloc (.cells #[.float .f32 s] 46) := ⟨_, rfl⟩
  have S0 : Hid (w.Since w.heap.size W0) := Lib.hid (by rw [hW0]; exact (World.Since.refl _ _).alloc (Nat.le_refl _) _)
  cases hb : inB b 2 16
  · have hq := fun W => coderOf_no b W hb
    unfold codZ at hq
    have HQ := Lib.hid hq
    clear hq
    go_enter Try.func38, Try.ntmps38
    go_wp2_with fail
    rw [← hW0]
    clear hW0
    go_wp2_with (first | (go_at_call 65; refine (HQ.out _).mono ?_; rintro e w1 ⟨rfl, hs1⟩; have HS1 := Lib.hid hs1; clear hs1))
    go_ret3
    exact PJVB.none_ (S0.out.trans (since_mono (HS1.out.trans (since_mono (show World.Since w1.heap.size w1 _ from by (repeat (first | (with_reducible refine Fl.sinDrew ?_) | (with_reducible refine World.Since.drew ?_) | (with_reducible refine Fl.sinSet ?_ ?_; rotate_left) | (with_reducible refine Fl.sinAlloc ?_ ?_; rotate_left) | with_reducible exact World.Since.refl _ _ | with_reducible assumption | (with_reducible refine Fl.sinStep (by with_reducible assumption) ?_))); all_goals (first | omega | (simp; done) | (simp; omega) | (simp [go_sem]; done) | (simp [go_sem]; omega))) HS1.out.size)) S0.out.size))
  · have hb2 := hb
    simp only [inB, Bool.and_eq_true, decide_eq_true_eq] at hb2
    obtain ⟨b', rfl⟩ : ∃ b' : Nat, b = b' := ⟨b.toNat, by omega⟩
    have hfew : decide ((n : Int) ≤ 256) = false := decide_eq_false (fun h2 => h ⟨hb, by omega⟩)
    have hq := fun W => coderOf_ok b' W (by omega) (by omega)
    unfold codV at hq
    obtain ⟨m, hm⟩ : ∃ m, m = mst b' := ⟨_, rfl⟩
    rw [← hm] at hq
    obtain ⟨f, hf⟩ : ∃ f, f = floatOfInt .f32 (m : Int) := ⟨_, rfl⟩
    rw [← hf] at hq
    have HQ := Lib.hid hq
    clear hq h hf hm
    go_enter Try.func38, Try.ntmps38
    go_wp2_with fail
    rw [← hW0]
    clear hW0
    go_wp2_with (first | (go_at_call 65; refine (HQ.out _).mono ?_; rintro e w1 ⟨rfl, hs1⟩; have HS1 := Lib.hid hs1; clear hs1) | (go_at_call 56; refine (implSamples_b _ _ _ _ _ hfew).mono ?_; rintro e w' ⟨rfl, rfl⟩))
    go_ret3
    exact PJVB.none_ (S0.out.trans (since_mono (HS1.out.trans (since_mono (show World.Since w1.heap.size w1 _ from by (repeat (first | (with_reducible refine Fl.sinDrew ?_) | (with_reducible refine World.Since.drew ?_) | (with_reducible refine Fl.sinSet ?_ ?_; rotate_left) | (with_reducible refine Fl.sinAlloc ?_ ?_; rotate_left) | with_reducible exact World.Since.refl _ _ | with_reducible assumption | (with_reducible refine Fl.sinStep (by with_reducible assumption) ?_))); all_goals (first | omega | (simp; done) | (simp; omega) | (simp [go_sem]; done) | (simp [go_sem]; omega))) HS1.out.size)) S0.out.size))
theorem lawCodesShaped_any (b : Int) (A : Option Addr) (n c : Nat) (xs : List Nat) (s : Nat) (w : World) (w1 : (Lit.int .i64 b).wf = true) (h0 : Fs w w.heap.size A n xs) (m0 : n ≤ 9223372036854775807) (hs : Hid (Fv .f32 s (ab .f32 s))) :
    Calls Try.prog 10 #[.int .i64 b, .slice A n c, .float .f32 s] w fun e w' => e = .returned (.bool true) ∧ w.Since w.heap.size w' := by
  by_cases b1 : 1048576 < n
  · exact lawCodesShaped_big b A n c s w b1
  by_cases hok : inB b 2 16 = true ∧ n ≤ 256
  · have hb := hok.1
    simp only [inB, Bool.and_eq_true, decide_eq_true_eq] at hb
    obtain ⟨b', rfl⟩ : ∃ b' : Nat, b = b' := ⟨b.toNat, by omega⟩
    exact lawCodesShaped_gen b' A n c xs s n _ _ true w h0 (by omega) (by omega) (fun v g hg => specShaped_ok b' s _ _ n _ xs v hg hok.2 (by omega) (by omega) hs) (fun v g hg => implShaped_ok b' s _ _ n _ xs v hg hok.2 (by omega) (by omega) hs)
  · exact lawCodesShaped_gen b A n c xs s 0 [] (some 0) false w h0 (by omega) (by omega) (fun v g hg => specShaped_no b _ n _ s v hok) (fun v g hg => implShaped_no b _ n _ s v hok)
end Go.Proofs.Ytdibobheggffnaa

