/- Joined: Vw Ea Rg Dl Dm Rz Ec Ed Di Dr Ds Ee Ef Eg Eh Va En Eo Lw Vb Vq Vx Jo Il Lx Ep Ly Ja Jb Jh Jp Jq Jr Js Ua Vy Vz Wd We Ca Ft Fs L2 L3 L4 L5 L6 -/
import Derived.Test.YtecgipilamefmaaSr
import Derived.Test.YtecgipilamefmaaFe
import Derived.Test.YtecgipilamefmaaFw
import Derived.Test.YtecgipilamefmaaLq
import Derived.Test.YtecgipilamefmaaFj
import Derived.Test.YtecgipilamefmaaGa
import Derived.Test.YtecgipilamefmaaSc
import Derived.Test.YtecgipilamefmaaFk
import Derived.Test.YtecgipilamefmaaSm
import Derived.Test.YtecgipilamefmaaDa
import Derived.Test.YtecgipilamefmaaSh
import Derived.Test.YtecgipilamefmaaLv
import Derived.StillTailTactics
import Derived.Deep.QuietTactic
import Derived.BigQuiet
import Derived.IntWalk
import Derived.Laws.CopyOwn
import Derived.Deep.MidRow
import Derived.Test.YtecgipilamefmaaFi
import Derived.Test.YtecgipilamefmaaSg
import Derived.Test.YtecgipilamefmaaL1
import Derived.Test.YtecgipilamefmaaWb
/- Sines of phases: both sides. -/
set_option linter.unusedVariables false
set_option linter.unusedSimpArgs false
namespace Go.Proofs.Ytecgipilamefmaa
open Fl Go.RowKit Ieee
theorem cutz (s : Bool) (n d : Nat) (h : n < 2 ^ d) : Toward.zero.cut s n d = 0 := by
  unfold Toward.cut
  dsimp only
  rw [Nat.shiftLeft_eq, Nat.one_mul]
  rw [Nat.div_eq_of_lt ?_]
  · rfl
  · rcases Nat.le_total d (n.log2 + 2) with h1 | h1
    · rw [Nat.min_eq_left h1]; exact h
    · rw [Nat.min_eq_right h1]
      exact Nat.lt_trans Nat.lt_log2_self (Nat.pow_lt_pow_right (by decide) (by omega))
theorem toInt_small {y : Nat} (h : rung .f64 y < rung .f64 cOne) : floatToIntVal .f64 y .i64 = some 0 := by
  have hf : rung .f64 y < FloatKind.f64.format.infRung := Nat.lt_trans h (by decide)
  obtain ⟨m, e, hr, hz⟩ := read_fin .f64 hf
  obtain ⟨D, hD⟩ : ∃ D : Nat, D = 1074 := ⟨_, rfl⟩
  have h1 : zv .f64 (rung .f64 cOne) = 2 ^ D := by rw [hD]; decide +kernel
  have h2 : FloatKind.f64.format.leastPlace = -(D : Int) := by rw [hD]; decide
  have h3 : m * 2 ^ e < 2 ^ D := by rw [← hz, ← h1]; exact (zv_lt .f64).2 h
  clear hD h1
  have hd : FloatKind.f64.decode y = .number (sgn .f64 y) m (-(D : Int) + e) := by rw [← h2]; exact hr
  have hi : (Datum.number (sgn .f64 y) m (-(D : Int) + e)).toInt .zero = some 0 := by
    unfold Datum.toInt Datum.integral
    dsimp only
    have hc : Toward.zero.cut (sgn .f64 y) (m <<< (-(D : Int) + e).toNat) (-(-(D : Int) + e)).toNat = 0 := by
      refine cutz _ _ _ ?_
      rw [Nat.shiftLeft_eq]
      rcases Nat.le_total e D with h4 | h4
      · rw [show (-(D : Int) + e).toNat = 0 by omega, show (-(-(D : Int) + e)).toNat = D - e by omega, Nat.pow_zero, Nat.mul_one]
        have h5 : 2 ^ D = 2 ^ (D - e) * 2 ^ e := by rw [← Nat.pow_add]; congr 1; omega
        rw [h5] at h3
        exact Nat.lt_of_mul_lt_mul_right h3
      · have h5 : 2 ^ D ≤ 2 ^ e := Nat.pow_le_pow_right (by decide) h4
        have h6 : m = 0 := by
          rcases Nat.eq_zero_or_pos m with h6 | h6
          · exact h6
          · have := Nat.le_mul_of_pos_left (2 ^ e) h6
            omega
        subst h6
        rw [Nat.zero_mul]
        exact Nat.two_pow_pos _
    rw [hc]
    simp [signed]
  unfold floatToIntVal
  rw [hd, hi]
  rfl
def p2 (k : Nat) : Nat := (1023 + k) * 4503599627370496
theorem mulC {x y c d M : Nat} (hx : rung .f64 x ≤ rung .f64 c) (hy : rung .f64 y ≤ rung .f64 d) (hc : Fin .f64 c) (hd : Fin .f64 d) (hM : (floatBits .mul .f64 c d).map (fun m => decide (rung .f64 m ≤ rung .f64 M)) = some true) : ∃ m, opO .mul .f64 (some x) (some y) = some m ∧ rung .f64 m ≤ rung .f64 M := by
  obtain ⟨m, m', hm, hm', hle⟩ := mul_size .f64 (Nat.lt_of_le_of_lt hx hc) (Nat.lt_of_le_of_lt hy hd) hc hd hx hy
  rw [hm'] at hM
  exact ⟨m, hm, Nat.le_trans hle (by simpa using hM)⟩
theorem addC {x y c d M : Nat} (hx : rung .f64 x ≤ rung .f64 c) (hy : rung .f64 y ≤ rung .f64 d) (hc : Fin .f64 c) (hd : Fin .f64 d) (sc : sgn .f64 c = false) (sd : sgn .f64 d = false) (hM : (floatBits .add .f64 c d).map (fun m => decide (rung .f64 m ≤ rung .f64 M)) = some true) : ∃ m, opO .add .f64 (some x) (some y) = some m ∧ rung .f64 m ≤ rung .f64 M := by
  obtain ⟨m, m', hm, hm', hle⟩ := add_size .f64 (Nat.lt_of_le_of_lt hx hc) (Nat.lt_of_le_of_lt hy hd) hc hd sc sd hx hy
  rw [hm'] at hM
  exact ⟨m, hm, Nat.le_trans hle (by simpa using hM)⟩
theorem subC {x y c d M : Nat} (hx : rung .f64 x ≤ rung .f64 c) (hy : rung .f64 y ≤ rung .f64 d) (hc : Fin .f64 c) (hd : Fin .f64 d) (sc : sgn .f64 c = false) (sd : sgn .f64 d = false) (hM : (floatBits .add .f64 c d).map (fun m => decide (rung .f64 m ≤ rung .f64 M)) = some true) : ∃ m, opO .sub .f64 (some x) (some y) = some m ∧ rung .f64 m ≤ rung .f64 M := by
  obtain ⟨m, m', hm, hm', hle⟩ := sub_size .f64 (Nat.lt_of_le_of_lt hx hc) (Nat.lt_of_le_of_lt hy hd) hc hd sc sd hx hy
  rw [hm'] at hM
  exact ⟨m, hm, Nat.le_trans hle (by simpa using hM)⟩
theorem divC {x y c : Nat} (hx : rung .f64 x ≤ rung .f64 c) (hc : Fin .f64 c) (hy : rung .f64 cOne ≤ rung .f64 y) (hf : Fin .f64 y) : ∃ q, opO .quo .f64 (some x) (some y) = some q ∧ rung .f64 q ≤ rung .f64 c := by
  refine div_size .f64 (x := x) (y := y) (t := c) (Nat.lt_of_le_of_lt hx hc) hf hc (by
    have : 0 < rung .f64 cOne := by decide
    omega) 1074 (by decide) ?_
  have e1 := (zv_le .f64).2 hy
  rw [show zv .f64 (rung .f64 cOne) = 2 ^ 1074 by decide +kernel] at e1
  exact Nat.mul_le_mul ((zv_le .f64).2 hx) e1
def sinK (i : Nat) : Int := ((2 * (8 - i) * (2 * (8 - i) + 1) : Nat) : Int)
def sinP (u : O) : Nat → O
  | 0 => some cOne
  | i + 1 => opO .sub .f64 (some cOne) (opO .quo .f64 (opO .mul .f64 u (sinP u i)) (some (floatOfInt .f64 (sinK i))))
theorem sinW : ∀ i < 8, (floatBits .mul .f64 (p2 10) (p2 (11 * i))).map (fun m => decide (rung .f64 m ≤ rung .f64 (p2 (11 * i + 10)))) = some true ∧ (floatBits .add .f64 cOne (p2 (11 * i + 10))).map (fun m => decide (rung .f64 m ≤ rung .f64 (p2 (11 * (i + 1))))) = some true
    ∧ rung .f64 (p2 (11 * i)) < FloatKind.f64.format.infRung ∧ rung .f64 (p2 (11 * i + 10)) < FloatKind.f64.format.infRung ∧ sgn .f64 (p2 (11 * i + 10)) = false ∧ rung .f64 (floatOfInt .f64 (sinK i)) < FloatKind.f64.format.infRung ∧ rung .f64 cOne ≤ rung .f64 (floatOfInt .f64 (sinK i)) := by decide +kernel
theorem sinP_size {u : Nat} (h : rung .f64 u ≤ rung .f64 (p2 10)) : ∀ i, i ≤ 8 → ∃ p, sinP (some u) i = some p ∧ rung .f64 p ≤ rung .f64 (p2 (11 * i))
  | 0, _ => ⟨cOne, rfl, by decide⟩
  | i + 1, hi => by
    obtain ⟨p, hp, hb⟩ := sinP_size h i (by omega)
    obtain ⟨w1, w2, w3, w4, w5, w6, w7⟩ := sinW i (by omega)
    obtain ⟨m, hm, hmb⟩ := mulC h hb (by decide : rung .f64 (p2 10) < _) w3 w1
    obtain ⟨q, hq, hqb⟩ := divC hmb w4 w7 w6
    obtain ⟨r, hr, hrb⟩ := subC (c := cOne) (Nat.le_refl (rung .f64 cOne)) hqb (by decide : rung .f64 cOne < _) w4 (by decide) w5 w2
    refine ⟨r, ?_, hrb⟩
    unfold sinP
    rw [hp, hm, hq, hr]
def ser (z : O) : O := opO .mul .f64 z (sinP (opO .mul .f64 z z) 8)
theorem ser_size {z : Nat} (h : rung .f64 z ≤ rung .f64 (p2 5)) : ∃ r, ser (some z) = some r ∧ rung .f64 r ≤ rung .f64 w100 := by
  obtain ⟨u, hu, hub⟩ := mulC (M := p2 10) h h (by decide : rung .f64 (p2 5) < _) (by decide : rung .f64 (p2 5) < _) (by decide +kernel)
  obtain ⟨p, hp, hpb⟩ := sinP_size hub 8 (Nat.le_refl _)
  obtain ⟨r, hr, hrb⟩ := mulC (M := w100) h hpb (by decide : rung .f64 (p2 5) < _) (by decide : rung .f64 (p2 (11 * 8)) < _) (by decide +kernel)
  refine ⟨r, ?_, hrb⟩
  unfold ser
  rw [hu, hp, hr]
def cHalf : Nat := 4602678819172646912
def cQuar : Nat := 4598175219545276416
def c2pi : Nat := 4618760256179416344
def lt64 (a b : O) : Bool := ordO .f64 a b == some .lt
def gt64 (a b : O) : Bool := ordO .f64 a b == some .gt
def eq64 (a b : O) : Bool := ordO .f64 a b == some .eq
def ge64 (a b : O) : Bool := gt64 a b || eq64 a b
def sinF1 (f : O) : O := if lt64 f (some 0) then opO .add .f64 f (some cOne) else f
def sinB (f : O) : Bool := ge64 f (some cHalf)
def sinF2 (f : O) : O := if sinB f then opO .sub .f64 f (some cHalf) else f
def sinF3 (f : O) : O := if gt64 f (some cQuar) then opO .sub .f64 (some cHalf) f else f
def sinS (f1 : O) : O := ser (opO .mul .f64 (sinF3 (sinF2 f1)) (some c2pi))
def sinR (f0 : O) : O := if sinB (sinF1 f0) then (sinS (sinF1 f0)).map (Op.negFloat .f64) else sinS (sinF1 f0)
def w25 : Nat := 4612811918334230528
def w3 : Nat := 4613937818241073152
theorem sinS_size {f : Nat} (h : rung .f64 f ≤ rung .f64 (p2 1)) : ∃ r, sinS (some f) = some r ∧ rung .f64 r ≤ rung .f64 w100 := by
  obtain ⟨a, ha, hab⟩ : ∃ a, sinF2 (some f) = some a ∧ rung .f64 a ≤ rung .f64 w25 := by
    unfold sinF2
    split
    · exact subC h (Nat.le_refl (rung .f64 cHalf)) (by decide : rung .f64 (p2 1) < _) (by decide : rung .f64 cHalf < _) (by decide) (by decide) (by decide +kernel)
    · exact ⟨f, rfl, Nat.le_trans h (by decide)⟩
  obtain ⟨b, hb, hbb⟩ : ∃ b, sinF3 (some a) = some b ∧ rung .f64 b ≤ rung .f64 w3 := by
    unfold sinF3
    split
    · exact subC (Nat.le_refl (rung .f64 cHalf)) hab (by decide : rung .f64 cHalf < _) (by decide : rung .f64 w25 < _) (by decide) (by decide) (by decide +kernel)
    · exact ⟨a, rfl, Nat.le_trans hab (by decide)⟩
  obtain ⟨z, hz, hzb⟩ := mulC (M := p2 5) hbb (Nat.le_refl (rung .f64 c2pi)) (by decide : rung .f64 w3 < _) (by decide : rung .f64 c2pi < _) (by decide +kernel)
  unfold sinS
  rw [ha, hb, hz]
  exact ser_size hzb
theorem sinF1_size {f : Nat} (h : rung .f64 f ≤ rung .f64 cOne) : ∃ a, sinF1 (some f) = some a ∧ rung .f64 a ≤ rung .f64 (p2 1) := by
  unfold sinF1
  split
  · exact addC h (Nat.le_refl (rung .f64 cOne)) (by decide : rung .f64 cOne < _) (by decide : rung .f64 cOne < _) (by decide) (by decide) (by decide +kernel)
  · exact ⟨f, rfl, Nat.le_trans h (by decide)⟩
theorem sinR_size {f : Nat} (h : rung .f64 f ≤ rung .f64 cOne) : ∃ r, sinR (some f) = some r ∧ rung .f64 r ≤ rung .f64 w100 := by
  obtain ⟨a, ha, hab⟩ := sinF1_size h
  obtain ⟨r, hr, hrb⟩ := sinS_size hab
  unfold sinR
  rw [ha, hr]
  split
  · refine ⟨_, rfl, ?_⟩
    unfold rung at *
    rw [neg_mod]; exact hrb
  · exact ⟨r, rfl, hrb⟩
theorem fits_sin {f r : Nat} (h : rung .f64 f ≤ rung .f64 cOne) (hr : Fv .f64 r (sinR (some f))) : Fits .f64 .f32 r := by
  obtain ⟨q, e, hql⟩ := sinR_size h
  have h3 := hr.2
  rw [e] at h3
  obtain rfl := ab_some h3
  exact fits_size hql
end Go.Proofs.Ytecgipilamefmaa

/- Dynamics: sizes, gains, clipped and bent numbers: both sides, modulo the bits of not-a-numbers. -/
set_option linter.unusedVariables false
set_option linter.unusedSimpArgs false
namespace Go.Proofs.Ytecgipilamefmaa
open Fl Go.RowKit
abbrev qu (a b : O) : O := opO .quo .f32 a b
def sizeO (x : O) : O := x.map sizeN
theorem sizeN_fv {b : Nat} {X : O} (h : Hid (Fv .f32 b X)) : Hid (Fv .f32 (sizeN b) (sizeO X)) := by
  obtain ⟨h1, h2⟩ := h
  refine Lib.hid ⟨sizeN_lt b, ?_⟩
  rw [← h2, ab32, ab32]
  unfold sizeN sizeO
  by_cases e : 2139095040 < b % 2147483648
  · rw [if_pos (by omega), if_pos e]; rfl
  · rw [if_neg (by omega), if_neg e]; rfl
/-- the model's size -/
def sizeS (b : Nat) : Nat := if nanB b then b else sizeN b
theorem sizeS_fv {b : Nat} {X : O} (h : Hid (Fv .f32 b X)) : Hid (Fv .f32 (sizeS b) (sizeO X)) := by
  unfold sizeS
  cases e : nanB b
  · exact sizeN_fv h
  · obtain ⟨h1, h2⟩ := h
    have h3 := ab_of_nan' e
    rw [h3] at h2
    subst h2
    exact Lib.hid ⟨h1, h3⟩
theorem sizeS_lt {b : Nat} (h : b < 4294967296) : sizeS b < 4294967296 := by unfold sizeS; split; exact h; exact sizeN_lt b
theorem ord_fv {k : FloatKind} {p q : Nat} {P Q : O} (hp : Hid (Fv k p P)) (hq : Hid (Fv k q Q)) : k.format.order p q = ordO k P Q := by rw [order_ab, hp.out.2, hq.out.2]
def gtO (x y : O) : Bool := ordO .f32 x y == some .gt
def ltO (x y : O) : Bool := ordO .f32 x y == some .lt
theorem gt_fv {p q : Nat} {P Q : O} (hp : Hid (Fv .f32 p P)) (hq : Hid (Fv .f32 q Q)) : (FloatKind.f32.format.order p q == some .gt) = gtO P Q := by rw [ord_fv hp hq]; rfl
theorem lt_fv {p q : Nat} {P Q : O} (hp : Hid (Fv .f32 p P)) (hq : Hid (Fv .f32 q Q)) : (FloatKind.f32.format.order p q == some .lt) = ltO P Q := by rw [ord_fv hp hq]; rfl
theorem fvc {b : Nat} (h : b < 4294967296) (h2 : b % 2147483648 ≤ 2139095040) : Hid (Fv .f32 b (some b)) := Lib.hid ⟨h, by rw [ab32, if_neg (by omega)]⟩
theorem fv0 : Hid (Fv .f32 0 (some 0)) := fvc (by decide) (by decide)
theorem fv1 : Hid (Fv .f32 1065353216 (some 1065353216)) := fvc (by decide) (by decide)
theorem fvm1 : Hid (Fv .f32 3212836864 (some 3212836864)) := fvc (by decide) (by decide)
theorem fvh : Hid (Fv .f32 1056964608 (some 1056964608)) := fvc (by decide) (by decide)
theorem fvoh : Hid (Fv .f32 1069547520 (some 1069547520)) := fvc (by decide) (by decide)
theorem negN_fv {b : Nat} {X : O} (h : Hid (Fv .f32 b X)) : Hid (Fv .f32 (negN b) (X.map negN)) := Lib.hid ⟨negN_lt h.out.1, by unfold negN; rw [ab_neg, h.out.2]⟩
theorem negN_big {b : Nat} (h : b < 4294967296) (h2 : 2147483648 ≤ b) : negN b = sizeN b := by
  unfold negN sizeN Op.negFloat
  have e2 := neg_mod .f32 b
  rw [sw32] at e2
  unfold Op.negFloat at e2
  have e3 : (b ^^^ (2 ^ (FloatKind.f32.format.exponentBits + FloatKind.f32.format.fractionBits))) / 2147483648 = 0 := by
    rw [show (2 : Nat) ^ (FloatKind.f32.format.exponentBits + FloatKind.f32.format.fractionBits) = 2 ^ 31 by decide, show (2147483648 : Nat) = 2 ^ 31 by decide, ← Nat.shiftRight_eq_div_pow, Nat.shiftRight_xor_distrib, Nat.shiftRight_eq_div_pow, show b / 2 ^ 31 = 1 by omega]
    rfl
  omega
/-- which of the two branches a size takes -/
theorem sizeS_case {b : Nat} (hb : b < 4294967296) : ((FloatKind.f32.format.order b 0 == some .lt) = true ∧ sizeS b = negN b) ∨ ((FloatKind.f32.format.order b 0 == some .lt) = false ∧ (((bitsO (ab .f32 b) : Int) == 2147483648) = true ∧ sizeS b = negN b ∨ ((bitsO (ab .f32 b) : Int) == 2147483648) = false ∧ sizeS b = b)) := by
  unfold sizeS
  cases e : nanB b
  · have h := ab_of_nan e
    have ho := ord_zero32 hb h
    rw [h]
    simp only [bitsO]
    by_cases h1 : b < 2147483648
    · refine .inr ⟨?_, .inr ⟨?_, ?_⟩⟩
      · rw [ho]; by_cases h2 : b % 2147483648 = 0
        · rw [if_pos h2]; rfl
        · rw [if_neg h2, if_pos h1]; rfl
      · simp; omega
      · simp only [Bool.false_eq_true, if_false]; unfold sizeN; omega
    · have hs : sizeN b = negN b := (negN_big hb (by omega)).symm
      by_cases h2 : b % 2147483648 = 0
      · refine .inr ⟨?_, .inl ⟨?_, hs⟩⟩
        · rw [ho, if_pos h2]; rfl
        · simp; omega
      · refine .inl ⟨?_, hs⟩
        rw [ho, if_neg h2, if_neg h1]; rfl
  · have h := ab_of_nan' e
    rw [ord_none h, h]
    exact .inr ⟨rfl, .inr ⟨rfl, rfl⟩⟩
/-- a gain, and a bent number -/
def gainO (l t r : O) : O := if gtO l t then qu (ad t (qu (su l t) r)) l else some 1065353216
/-- a clipped number -/
def clipO (x l : O) : O := if gtO (sizeO x) l then (if ltO x (some 0) then l.map negN else l) else x
/-- a bent number -/
def bendR (x : O) : O := mu x (su (some 1069547520) (mu (some 1056964608) (mu x x)))
def eqO (x y : O) : Bool := ordO .f32 x y == some .eq
theorem eq_fv {p q : Nat} {P Q : O} (hp : Hid (Fv .f32 p P)) (hq : Hid (Fv .f32 q Q)) : (FloatKind.f32.format.order p q == some .eq) = eqO P Q := by rw [ord_fv hp hq]; rfl
def geO (x y : O) : Bool := gtO x y || eqO x y
def leO (x y : O) : Bool := ltO x y || eqO x y
def bendO (x : O) : O := if geO x (some 1065353216) then some 1065353216 else if leO x (some 3212836864) then some 3212836864 else bendR x
end Go.Proofs.Ytecgipilamefmaa

/- Lines: what they have taken, as a stream; rings. Plain mathematics. -/
set_option linter.unusedVariables false
set_option linter.unusedSimpArgs false
namespace Go.Proofs.Ytecgipilamefmaa
namespace Ln
abbrev Ov := Option Nat
/-- the numbers of a line of length n + 1, and those that it takes behind them: v x b is taken where b is the oldest number -/
def st (n : Nat) (l : Nat → Ov) (v : Ov → Ov → Ov) (x : Nat → Ov) (j : Nat) : Ov :=
  if j < n + 1 then l j else v (x (j - (n + 1))) (st n l v x (j - (n + 1)))
termination_by j
decreasing_by omega
theorem st_old {n : Nat} {l : Nat → Ov} {v : Ov → Ov → Ov} {x : Nat → Ov} {j : Nat} (h : j < n + 1) : st n l v x j = l j := by rw [st, if_pos h]
theorem st_new {n : Nat} {l : Nat → Ov} {v : Ov → Ov → Ov} {x : Nat → Ov} (k : Nat) : st n l v x (n + 1 + k) = v (x k) (st n l v x k) := by
  rw [st, if_neg (by omega), show n + 1 + k - (n + 1) = k by omega]
/-- the place in the stream of what lies at place j of a ring of n behind k numbers -/
def ix (n k j : Nat) : Nat := k + (j + n - k % n) % n
theorem ix_lt {n k j : Nat} (hn : 0 < n) : k ≤ ix n k j ∧ ix n k j < k + n := by
  unfold ix
  have := Nat.mod_lt (j + n - k % n) hn
  omega
theorem ix_zero {n j : Nat} (hj : j < n) : ix n 0 j = j := by
  unfold ix
  rw [Nat.zero_mod, Nat.sub_zero, Nat.add_mod_right, Nat.mod_eq_of_lt hj]; omega
theorem ix_mod {n k j : Nat} (hj : j < n) : ix n k j % n = j := by
  unfold ix
  have hm := Nat.mod_lt k (show 0 < n by omega)
  have e : k = n * (k / n) + k % n := (Nat.div_add_mod k n).symm
  rcases Nat.lt_or_ge j (k % n) with h | h
  · rw [Nat.mod_eq_of_lt (show j + n - k % n < n by omega)]
    have e2 : k + (j + n - k % n) = j + n * (k / n + 1) := by rw [Nat.mul_add]; omega
    rw [e2, Nat.add_mul_mod_self_left, Nat.mod_eq_of_lt hj]
  · have e1 : j + n - k % n = (j - k % n) + n := by omega
    rw [e1, Nat.add_mod_right, Nat.mod_eq_of_lt (show j - k % n < n by omega)]
    have e2 : k + (j - k % n) = j + n * (k / n) := by omega
    rw [e2, Nat.add_mul_mod_self_left, Nat.mod_eq_of_lt hj]
/-- one number in each stretch of n has a remainder -/
theorem ix_of {n k m : Nat} (h1 : k ≤ m) (h2 : m < k + n) : ix n k (m % n) = m := by
  have hn : 0 < n := by omega
  have h3 := ix_mod (n := n) (k := k) (Nat.mod_lt m hn)
  have h4 := ix_lt (n := n) (k := k) (j := m % n) hn
  generalize ix n k (m % n) = a at *
  have ea := Nat.div_add_mod a n
  have em := Nat.div_add_mod m n
  have : a / n = m / n := by
    rcases Nat.lt_trichotomy (a / n) (m / n) with h | h | h
    · have : n * (a / n + 1) ≤ n * (m / n) := Nat.mul_le_mul_left _ h
      rw [Nat.mul_add] at this; omega
    · exact h
    · have : n * (m / n + 1) ≤ n * (a / n) := Nat.mul_le_mul_left _ h
      rw [Nat.mul_add] at this; omega
  rw [this] at ea; omega
theorem ix_step {n k j : Nat} (hj : j < n) : ix n (k + 1) j = if j = k % n then k + n else ix n k j := by
  have hn : 0 < n := by omega
  by_cases h : j = k % n
  · rw [if_pos h, h]
    have := ix_of (n := n) (k := k + 1) (m := k + n) (by omega) (by omega)
    rwa [Nat.add_mod_right] at this
  · rw [if_neg h]
    have h1 := ix_lt (n := n) (k := k) (j := j) hn
    have h2 := ix_mod (n := n) (k := k) hj
    have h3 : ix n k j ≠ k := fun e => h (by rw [← h2, e])
    have := ix_of (n := n) (k := k + 1) (m := ix n k j) (by omega) (by omega)
    rwa [h2] at this
theorem mod_step {n k : Nat} (hn : 0 < n) : (k % n + 1) % n = (k + 1) % n := by rw [Nat.add_mod, Nat.mod_mod, ← Nat.add_mod]
/-- place o + i of a ring (round) whose oldest place is o = k % n -/
theorem ix_at {n k i : Nat} (hi : i < n) : ix n k ((k % n + i) % n) = k + i := by
  rw [Nat.mod_add_mod]
  exact ix_of (by omega) (by omega)
/-- the oldest place -/
theorem ix_old {n k : Nat} (hn : 0 < n) : ix n k (k % n) = k := ix_of (Nat.le_refl _) (by omega)
end Ln
end Go.Proofs.Ytecgipilamefmaa

/- Delays: the model's lines. -/
set_option linter.unusedVariables false
set_option linter.unusedSimpArgs false
namespace Go.Proofs.Ytecgipilamefmaa
namespace Fl
/-- only block g, among those that there are, may have changed -/
def On (g : Nat) (w w' : World) : Prop := w.Since g w' ∧ ∀ b, b < w.heap.size → b ≠ g → w'.heap[b]? = w.heap[b]?
theorem On.refl (g : Nat) (w : World) : On g w w := ⟨World.Since.refl _ _, fun _ _ _ => rfl⟩
theorem On.trans {g : Nat} {a b c : World} (h : On g a b) (k : On g b c) : On g a c :=
  ⟨h.1.trans k.1, fun i hi hn => (k.2 i (Nat.lt_of_lt_of_le hi h.1.size) hn).trans (h.2 i hi hn)⟩
theorem On.drewN {g : Nat} {a b : World} (h : On g a b) (n : Nat) : On g a (b.drewN n) := ⟨since_drewN h.1 n, h.2⟩
theorem On.set {g : Nat} {a b : World} (h : On g a b) (o : Nat) (v : Value) : On g a (b.setCell ⟨g, o, none⟩ v) :=
  ⟨h.1.setCell (Nat.le_refl _) v, fun i hi hn => by rw [Go.Deep.blk_setCell_other _ _ _ _ hn]; exact h.2 i hi hn⟩
theorem On.alloc {g : Nat} {a b : World} (h : On g a b) (hg : g ≤ b.heap.size) (o : Obj) : On g a (b.alloc o) :=
  ⟨h.1.alloc hg o, fun i hi hn => by
    have hlt : i < b.heap.size := Nat.lt_of_lt_of_le hi h.1.size
    have e : (b.alloc o).heap[i]? = b.heap[i]? := by
      show (b.heap.push o)[i]? = _
      rw [Array.getElem?_push_lt hlt]; exact (Array.getElem?_eq_getElem hlt).symm
    rw [e]; exact h.2 i hi hn⟩
theorem On.since {g lo : Nat} {a b : World} (h : On g a b) (hl : lo ≤ g) : a.Since lo b := since_mono h.1 hl
theorem On.from {g lo : Nat} {w a b : World} (s : w.Since lo a) (h : On g a b) (hl : lo ≤ g) : w.Since lo b := s.trans (h.since hl)
theorem Gs.on {T : TypeId} {w w' : World} {lo n g : Nat} {A : Option Addr} {xs : List Nat} (h : Gs T w lo A n xs) (o : On g w w') (hd : ∀ s t, A ≠ some ⟨g, s, t⟩) : Gs T w' lo A n xs :=
  ⟨h.1, h.2.1, fun hn => by
    obtain ⟨b, cs, e, hb, hh, hc⟩ := h.2.2 hn
    refine ⟨b, cs, e, hb, (o.2 b (Array.getElem?_eq_some_iff.1 hh).1 ?_).trans hh, hc⟩
    rintro rfl
    exact hd _ _ e⟩
theorem Fs.on {w w' : World} {B n g : Nat} {A : Option Addr} {xs : List Nat} (h : Fs w B A n xs) (o : On g w w') (hB : B ≤ g) : Fs w' B A n xs := h.since (o.since hB)
theorem own_on {T : TypeId} {w w' : World} {lo n s g : Nat} {v : Value} {xs : List Value} (h : w.ownsRow lo T s v n xs) (o : On g w w') (hl : g < lo) : w'.ownsRow lo T s v n xs := by
  obtain ⟨h1, h2⟩ := h
  refine ⟨h1, ?_⟩
  rcases h2 with h2 | ⟨b, cap, cur, e, hb, hh, r⟩
  · exact .inl h2
  · exact .inr ⟨b, cap, cur, e, hb, (o.2 b (Array.getElem?_eq_some_iff.1 hh).1 (by omega)).trans hh, r⟩
/-- the words of a list stand for these -/
def Are' (n : Nat) (xs : List Nat) (f : Nat → Option Nat) : Prop := ∀ k, k < n → ab .f32 (wd xs k) = f k
theorem wd_shift {ys : List Nat} {x n : Nat} (h : ys.length = n) (hn : 0 < n) (j : Nat) (hj : j < n) : wd (ys.drop 1 ++ [x]) j = if j + 1 < n then wd ys (j + 1) else x := by
  rw [wd_snoc (n := n - 1) (by simp [h])]
  by_cases e : j + 1 < n
  · rw [if_pos (by omega), if_pos e]
    unfold wd
    simp [Nat.add_comm]
  · rw [if_neg (by omega), if_pos (by omega), if_neg e]
theorem Small.shift {ys : List Nat} {x : Nat} (h : Small ys) (hx : x < 4294967296) : Small (ys.drop 1 ++ [x]) := Small.snoc (fun y hy => h y (List.mem_of_mem_drop hy)) hx
end Fl
open Fl Go.RowKit
/-- a line whose first numbers have been moved -/
def shifted (ys : List Nat) (i j : Nat) : Value := if j + 1 < i then fv ys (j + 1) else fv ys j
def GCells (w : World) (g : Nat) (n : Nat) (f : Nat → Value) : Prop := ∃ cs, w.heap[g]? = some (.cells cs 22 (0, 0)) ∧ ∀ j, j < n → cs[j]? = some (f j)
theorem GCells.cell {w : World} {g n : Nat} {f : Nat → Value} (h : GCells w g n f) {j : Nat} (hj : j < n) : w.cell? ⟨g, j, none⟩ = some (f j) := by
  obtain ⟨cs, hb, hc⟩ := h
  simp only [World.cell?, hb]
  simpa using hc j hj
theorem GCells.free {w : World} {g n : Nat} {f : Nat → Value} (h : GCells w g n f) (j : Nat) : w.frozen? ⟨g, j, none⟩ = false := by
  obtain ⟨cs, hb, hc⟩ := h
  simp [World.frozen?, hb]
theorem GCells.set {w : World} {g n : Nat} {f : Nat → Value} (h : GCells w g n f) (k : Nat) (v : Value) : GCells (w.setCell ⟨g, k, none⟩ v) g n (fun j => if j = k then v else f j) := by
  obtain ⟨cs, hb, hc⟩ := h
  refine ⟨cs.setIfInBounds k v, by simp [World.setCell, Array.getElem?_modify, hb], fun j hj => ?_⟩
  rw [Array.getElem?_setIfInBounds]
  have hsz2 : j < cs.size := (Array.getElem?_eq_some_iff.1 (hc j hj)).1
  show _ = some (if j = k then v else f j)
  by_cases e : k = j
  · subst e; rw [if_pos rfl, if_pos hsz2, if_pos rfl]
  · rw [if_neg e, if_neg (Ne.symm e)]; exact hc j hj
theorem GCells.congr {w : World} {g n : Nat} {f f' : Nat → Value} (h : GCells w g n f) (e : ∀ j, j < n → f j = f' j) : GCells w g n f' := by
  obtain ⟨cs, hb, hc⟩ := h
  exact ⟨cs, hb, fun j hj => by rw [← e j hj]; exact hc j hj⟩
theorem GCells.drewN {w : World} {g n : Nat} {f : Nat → Value} (h : GCells w g n f) (k : Nat) : GCells (w.drewN k) g n f := h
theorem GCells.lt {w : World} {g n : Nat} {f : Nat → Value} (h : GCells w g n f) : g < w.heap.size := by
  obtain ⟨cs, hb, hc⟩ := h
  exact (Array.getElem?_eq_some_iff.1 hb).1

structure DelAt (w : World) (g : Nat) (d : DelN) : Prop where
  lt : g < w.heap.size
  l : w.cell? ⟨g, 0, none⟩ = some (.int .i64 d.l)
  fb : w.cell? ⟨g, 1, none⟩ = some (.float .f32 d.fb)
  dry : w.cell? ⟨g, 2, none⟩ = some (.float .f32 d.dry)
  wet : w.cell? ⟨g, 3, none⟩ = some (.float .f32 d.wet)
  fl : w.cell? ⟨g, 4, none⟩ = some (.bool d.fl)
theorem cell_of_block {w w' : World} {b : Nat} (h : w'.heap[b]? = w.heap[b]?) (o : Nat) : w'.cell? ⟨b, o, none⟩ = w.cell? ⟨b, o, none⟩ := by simp only [World.cell?, h]
theorem DelAt.of {w w' : World} {g : Nat} {d : DelN} (h : DelAt w g d) (hs : w.heap.size ≤ w'.heap.size) (e : w'.heap[g]? = w.heap[g]?) : DelAt w' g d :=
  ⟨Nat.lt_of_lt_of_le h.lt hs, (cell_of_block e _).trans h.l, (cell_of_block e _).trans h.fb, (cell_of_block e _).trans h.dry, (cell_of_block e _).trans h.wet, (cell_of_block e _).trans h.fl⟩
theorem DelAt.on {w w' : World} {g b : Nat} {d : DelN} (h : DelAt w g d) (o : On b w w') (hn : g ≠ b) : DelAt w' g d := h.of o.1.size (o.2 g h.lt hn)
/-- words of a delay stand for these -/
structure Del where
  fb : O
  dry : O
  wet : O
structure FvD (d : DelN) (D : Del) : Prop where
  fb : Hid (Fv .f32 d.fb D.fb)
  dry : Hid (Fv .f32 d.dry D.dry)
  wet : Hid (Fv .f32 d.wet D.wet)
def DelY (D : Del) (x b : O) : O := delY D.dry D.wet x b
def DelV (fu : Bool) (D : Del) (x b : O) : O := delV fu D.fb x b
/-- what a line is behind a number that it has taken -/
def took (n : Nat) (L : Nat → O) (v : O) (i : Nat) : O := if i + 1 < n then L (i + 1) else v

theorem on_cells {g b : Nat} {w w' : World} (h : On g w w') (hb : b < w.heap.size) (hn : b ≠ g) : (∀ o, w'.cell? ⟨b, o, none⟩ = w.cell? ⟨b, o, none⟩) ∧ (∀ o, w'.frozen? ⟨b, o, none⟩ = w.frozen? ⟨b, o, none⟩) :=
  ⟨fun o => cell_of_block (h.2 b hb hn) o, fun o => by simp only [World.frozen?, h.2 b hb hn]⟩
theorem DelAt.drewN {w : World} {g : Nat} {d : DelN} (h : DelAt w g d) (k : Nat) : DelAt (w.drewN k) g d := ⟨h.lt, h.l, h.fb, h.dry, h.wet, h.fl⟩
theorem Fl.On.before {g : Nat} {w w' : World} {m : Nat} (h : On g (w.drewN m) w') (n : Nat) : On g w (w'.drewN n) := ⟨⟨h.1.os, h.1.tape, h.1.output, h.1.size, h.1.block⟩, h.2⟩
theorem specDelay_end {w w1 : World} {lo g n r v : Nat} {ys : List Nat} {L : Nat → O} {Y V : O} {e : Ending} (he : e = .returned (.float .f32 r)) (hr : Hid (Fv .f32 r Y)) (h : Gs 22 w1 lo (some ⟨g, 0, none⟩) n (ys.drop 1 ++ [v]))
    (hl : ys.length = n) (h0 : 0 < n) (hL : Are' n ys L) (hv : Hid (Fv .f32 v V)) (ho : On g w w1) :
    ∃ (r : Nat) (zs : List Nat), e = .returned (.float .f32 r) ∧ Hid (Fv .f32 r Y) ∧ Gs 22 w1 lo (some ⟨g, 0, none⟩) n zs ∧ Are' n zs (took n L V) ∧ On g w w1 :=
  ⟨r, _, he, hr, h, fun i hi => by
    rw [wd_shift hl h0 i hi]
    unfold took
    by_cases e : i + 1 < n
    · rw [if_pos e, if_pos e]; exact hL _ e
    · rw [if_neg e, if_neg e]; exact hv.out.2, ho⟩

theorem fvl_one (xs : List Nat) : ∀ v ∈ fvl xs, v.oneCell' = true := fun v hv => by
  obtain ⟨x, _, rfl⟩ := List.mem_map.1 hv
  rfl
theorem fvl_cells {w w1 : World} {A : Option Addr} {n : Nat} {xs : List Nat} (h : Fs w w.heap.size A n xs) (s : w.Since w.heap.size w1) (h0 : 0 < n) : ∃ ad, A = some ad ∧ ∀ j v, (fvl xs)[j]? = some v → w1.cell? (ad.add j) = some v := by
  obtain ⟨g, off, rfl, hg, hc⟩ := h.2.2 h0
  refine ⟨_, rfl, fun j v hj => ?_⟩
  unfold fvl at hj
  rw [List.getElem?_map] at hj
  cases hx : xs[j]? with
  | none => rw [hx] at hj; cases hj
  | some x =>
    rw [hx] at hj
    injection hj with hj
    subst hj
    have hjn : j < n := by rw [← h.1]; exact (List.getElem?_eq_some_iff.1 hx).1
    have e : (({ block := g, off := off } : Addr).add j) = ⟨g, off + j, none⟩ := by simp [Addr.add]
    rw [e]
    refine (s.cell (a := ⟨g, off + j, none⟩) hg).trans ((hc j hjn).trans ?_)
    unfold fv wd
    simp [hx]
end Go.Proofs.Ytecgipilamefmaa

/- Delays: the model's run. -/
set_option linter.unusedVariables false
set_option linter.unusedSimpArgs false
namespace Go.Proofs.Ytecgipilamefmaa
open Fl Go.RowKit
/-- two lists and a yes -/
def PLLB (n0 : Nat) (f0 : Nat → Option Nat) (n1 : Nat) (f1 : Nat → Option Nat) (b : Bool) (w : World) (e : Ending) (w' : World) : Prop :=
  ∃ (p q : Ls) (c d : Nat), e = .returned (.tuple #[.slice p.A p.n c, .slice q.A q.n d, .bool b]) ∧ p.n = n0 ∧ q.n = n1 ∧ Gs 22 w' w.heap.size p.A p.n p.xs ∧ Gs 22 w' w.heap.size q.A q.n q.xs ∧ Are p f0 ∧ Are q f1 ∧ Dj p q ∧ w.Since w.heap.size w'
theorem PLLB.none_ {w w' : World} (s : w.Since w.heap.size w') (f0 f1 : Nat → Option Nat) : PLLB 0 f0 0 f1 false w (.returned (.tuple #[.slice none 0 0, .slice none 0 0, .bool false])) w' :=
  ⟨⟨none, 0, []⟩, ⟨none, 0, []⟩, 0, 0, rfl, rfl, rfl, Gs.nil_, Gs.nil_, (fun k hk => by simp at hk), (fun k hk => by simp at hk), (fun h => by simp at h), s⟩
def Sd (fu : Bool) (D : Del) (n : Nat) (xs ys : List Nat) : Nat → O := Ln.st (n - 1) (fun j => ab .f32 (wd xs j)) (DelV fu D) (fun j => ab .f32 (wd ys j))
theorem Sd_old {fu : Bool} {D : Del} {n : Nat} {xs ys : List Nat} {j : Nat} (h : j < n) : Sd fu D n xs ys j = ab .f32 (wd xs j) := Ln.st_old (by omega)
theorem Sd_new {fu : Bool} {D : Del} {n : Nat} {xs ys : List Nat} (hn : 0 < n) (k : Nat) : Sd fu D n xs ys (k + n) = DelV fu D (ab .f32 (wd ys k)) (Sd fu D n xs ys k) := by
  have := Ln.st_new (n := n - 1) (l := fun j => ab .f32 (wd xs j)) (v := DelV fu D) (x := fun j => ab .f32 (wd ys j)) k
  rw [show n - 1 + 1 + k = k + n by omega] at this
  exact this
theorem took_step {n k : Nat} {S : Nat → O} {V : O} (hV : S (k + n) = V) : ∀ i, i < n → took n (fun i => S (k + i)) V i = S (k + 1 + i) := fun i hi => by
  unfold took
  by_cases e : i + 1 < n
  · rw [if_pos e]
    show S (k + (i + 1)) = _
    rw [show k + (i + 1) = k + 1 + i by omega]
  · rw [if_neg e, ← hV, show k + 1 + i = k + n by omega]
theorem Gs.under {T : TypeId} {w w' : World} {lo n g B : Nat} {xs : List Nat} (h : Gs T w lo (some ⟨g, 0, none⟩) n xs) (s : w.Since B w') (hg : g < B) : Gs T w' lo (some ⟨g, 0, none⟩) n xs :=
  ⟨h.1, h.2.1, fun hn => by
    obtain ⟨b, cs, e, hb, hh, hc⟩ := h.2.2 hn
    injection e with e; injection e with e1 _ _; subst e1
    exact ⟨g, cs, rfl, hb, (s.block g hg).trans hh, hc⟩⟩
theorem since_mono_trans {B g C : Nat} {w a b c : World} (h : w.Since B a) (o : On g a b) (k : b.Since C c) (h1 : B ≤ g) (h2 : B ≤ C) : w.Since B c := (h.trans (o.since h1)).trans (since_mono k h2)
end Go.Proofs.Ytecgipilamefmaa

/- What the functions of a law give: lists, numbers, a yes or no. -/
set_option linter.unusedVariables false
set_option linter.unusedSimpArgs false
namespace Go.Proofs.Ytecgipilamefmaa
open Fl Go.RowKit
def PB (b : Bool) (w : World) (e : Ending) (w' : World) : Prop := e = .returned (.bool b) ∧ w.Since w.heap.size w'
def PVB (F : Option Nat) (b : Bool) (w : World) (e : Ending) (w' : World) : Prop := ∃ r, e = .returned (.tuple #[.float .f32 r, .bool b]) ∧ Hid (Fv .f32 r F) ∧ w.Since w.heap.size w'
def PIB (i : Int) (b : Bool) (w : World) (e : Ending) (w' : World) : Prop := e = .returned (.tuple #[.int .i64 i, .bool b]) ∧ w.Since w.heap.size w'
def PLB (n0 : Nat) (f0 : Nat → Option Nat) (b : Bool) (w : World) (e : Ending) (w' : World) : Prop :=
  ∃ (p : Ls) (c : Nat), e = .returned (.tuple #[.slice p.A p.n c, .bool b]) ∧ p.n = n0 ∧ Gs 22 w' w.heap.size p.A p.n p.xs ∧ Are p f0 ∧ w.Since w.heap.size w'
def PL (n0 : Nat) (f0 : Nat → Option Nat) (w : World) (e : Ending) (w' : World) : Prop :=
  ∃ (p : Ls) (c : Nat), e = .returned (.slice p.A p.n c) ∧ p.n = n0 ∧ Gs 22 w' w.heap.size p.A p.n p.xs ∧ Are p f0 ∧ w.Since w.heap.size w'
theorem PLB.none_ {w w' : World} (s : w.Since w.heap.size w') (f0 : Nat → Option Nat) : PLB 0 f0 false w (.returned (.tuple #[.slice none 0 0, .bool false])) w' :=
  ⟨⟨none, 0, []⟩, 0, rfl, rfl, Gs.nil_, (fun k hk => by simp at hk), s⟩
end Go.Proofs.Ytecgipilamefmaa

/- Rows of floats that a loop appends to, one number a round. -/
set_option linter.unusedVariables false
set_option linter.unusedSimpArgs false
namespace Go.Proofs.Ytecgipilamefmaa
open Fl Go.RowKit
/-- v is a row of the loop's own, from block lo on, whose k numbers stand for F -/
def Rw (lo : Nat) (w : World) (v : Value) (k : Nat) (F : Nat → O) : Prop := ∃ os, w.ownsRow lo 22 1 v k (fvl os) ∧ Small os ∧ ∀ j, j < k → ab .f32 (wd os j) = F j
theorem Rw.start (w : World) (lo : Nat) (h : lo ≤ w.heap.size) (F : Nat → O) : Rw lo (w.alloc (.cells #[] 22)) (.slice (some ⟨w.heap.size, 0, none⟩) 0 0) 0 F :=
  ⟨[], ⟨rfl, .inr ⟨w.heap.size, 0, #[], rfl, h, Go.Deep.blk_alloc_new _ _, Nat.le_refl _, Nat.zero_le _, rfl, rfl⟩⟩, (fun x hx => by cases hx), fun j hj => by omega⟩
theorem Rw.keep {lo : Nat} {w w' : World} {v : Value} {k : Nat} {F : Nat → O} (h : Rw lo w v k F) (e : ∀ b, lo ≤ b → b < w.heap.size → w'.heap[b]? = w.heap[b]?) : Rw lo w' v k F := by
  obtain ⟨os, ⟨h1, h2⟩, hs, hf⟩ := h
  refine ⟨os, ⟨h1, ?_⟩, hs, hf⟩
  rcases h2 with h2 | ⟨g, cap, cur, e1, h3, h4, r⟩
  · exact .inl h2
  · exact .inr ⟨g, cap, cur, e1, h3, (e g h3 (Array.getElem?_eq_some_iff.1 h4).1).trans h4, r⟩
theorem Rw.since {lo : Nat} {w w' : World} {v : Value} {k : Nat} {F : Nat → O} (h : Rw lo w v k F) (s : w.Since w.heap.size w') : Rw lo w' v k F := h.keep fun b _ hb => s.block b hb
theorem Rw.on {lo g : Nat} {w w' : World} {v : Value} {k : Nat} {F : Nat → O} (h : Rw lo w v k F) (o : On g w w') (hg : g < lo) : Rw lo w' v k F := h.keep fun b hb hl => o.2 b hl (by omega)
theorem Rw.drewN {lo : Nat} {w : World} {v : Value} {k : Nat} {F : Nat → O} (h : Rw lo w v k F) (n : Nat) : Rw lo (w.drewN n) v k F := h
theorem Rw.alloc {lo : Nat} {w : World} {v : Value} {k : Nat} {F : Nat → O} (h : Rw lo w v k F) (o : Obj) : Rw lo (w.alloc o) v k F := h.since ((World.Since.refl _ _).alloc (Nat.le_refl _) _)
/-- what it is in the end -/
theorem Rw.done {lo : Nat} {w : World} {v : Value} {k : Nat} {F : Nat → O} (h : Rw lo w v k F) : ∃ (p : Ls) (c : Nat), v = .slice p.A p.n c ∧ p.n = k ∧ Gs 22 w lo p.A p.n p.xs ∧ Are p F := by
  obtain ⟨os, h1, hs, hf⟩ := h
  have hf' : v = .slice none 0 0 ∧ k = 0 ∨ ∃ g cap, v = .slice (some ⟨g, 0, none⟩) k cap := by
    rcases h1.2 with h2 | ⟨g, cap, cur, e, _⟩
    · exact .inl h2
    · exact .inr ⟨g, cap, e⟩
  rcases hf' with ⟨rfl, rfl⟩ | ⟨g, cap, rfl⟩
  · exact ⟨⟨none, 0, os⟩, 0, rfl, rfl, Gs.of_own h1 hs, hf⟩
  · exact ⟨⟨some ⟨g, 0, none⟩, k, os⟩, cap, rfl, rfl, Gs.of_own h1 hs, hf⟩
theorem wpList_app1 {ops : Array Oper} {rest : List Oper} {o : Oper} {a : Act} {Q : Exit → Act → World → Prop} {w : World} (hgd : o.guard = none) (s x : Operand)
    (ho : o.op = .call { callee := .builtin .append, args := #[s, x], argTypes := #[36, 36] }) (lo : Nat) (v : Value) (k : Nat) (F : Nat → O) (hs : a.eval s = v) (b r : Nat)
    (hx : a.eval x = .slice (some ⟨b, 0, none⟩) 1 1) (hc : w.cell? ⟨b, 0, none⟩ = some (.float .f32 r)) (hk : k < 1048576) (hlo : lo ≤ w.heap.size) (hr : Hid (Fv .f32 r (F k))) (hR : Rw lo w v k F)
    (h : ∀ v' w', Hid (Rw lo w' v' (k + 1) F) → Hid (w.Since lo w') → wpList Try.prog ops Q rest (a.put o.dst v') w') : wpList Try.prog ops Q (o :: rest) a w := by
  obtain ⟨os, h1, h2, h3⟩ := hR
  obtain ⟨i0, hi, hz0, hz1, hz2⟩ := info_parts Try.infoF
  refine wpList_append_own (P := Try.prog) w hgd s x 36 ho lo 22 i0 (.float .f32 0) 1 4 Try.underlying36 hi hz0 hz1 hz2 rfl (by omega) v k (fvl os) hs h1 ⟨b, 0, none⟩ 1 1 [.float .f32 r] hx rfl ?_ ?_ ?_ ?_ hlo ?_
  · intro j u hj
    rcases j with _ | j
    · simp at hj; subst hj; simpa [Addr.add] using hc
    · simp at hj
  · intro u hu; simp at hu; subst hu; rfl
  · unfold maxLen; omega
  · omega
  · intro v' w' hown hg _
    refine h v' w' (Lib.hid ⟨os ++ [r], ?_, h2.snoc hr.out.1, fun j hj => ?_⟩) (Lib.hid ⟨hg.os, hg.tape, hg.output, hg.size, fun i hi => ?_⟩)
    · rw [← fvl_snoc]; exact hown
    · have hyl : os.length = k := by simpa [fvl] using h1.1
      rw [wd_snoc hyl]
      by_cases e : j < k
      · rw [if_pos e]; exact h3 j e
      · obtain rfl : j = k := by omega
        rw [if_neg e, if_pos rfl]; exact hr.out.2
    · refine hg.block i (by omega) fun e => ?_
      have := own_lo h1 i e.symm
      omega
end Go.Proofs.Ytecgipilamefmaa

/- Dynamics: the model's lists: clipped samples, a fade. -/
set_option linter.unusedVariables false
set_option linter.unusedSimpArgs false
namespace Go.Proofs.Ytecgipilamefmaa
open Fl Go.RowKit
end Go.Proofs.Ytecgipilamefmaa

/- Delays: the program's rings. -/
set_option linter.unusedVariables false
set_option linter.unusedSimpArgs false
namespace Go.Proofs.Ytecgipilamefmaa
open Fl Go.RowKit
theorem blk_set {w : World} {g k : Nat} {cs : List Value} {T : TypeId} {v : Value} (h : w.heap[g]? = some (.cells cs.toArray T (0, 0))) : (w.setCell ⟨g, k, none⟩ v).heap[g]? = some (.cells (cs.set k v).toArray T (0, 0)) := by
  simp [World.setCell, Array.getElem?_modify, h]
theorem tmodN (o n : Nat) : ((o : Int) + 1) % (n : Int) = (((o + 1) % n : Nat) : Int) := by rw [Int.natCast_emod]; rfl
theorem heap_drewN {w : World} {g : Nat} {x : Option Obj} (h : w.heap[g]? = x) (n : Nat) : (w.drewN n).heap[g]? = x := h
theorem below_drewN {B : Nat} {a w : World} (h : Below B a w) (n : Nat) : Below B a (w.drewN n) := ⟨h.os, h.tape, h.output, h.size, h.block⟩
theorem since_below {B : Nat} {w w' : World} (h : Below B w w') : w.Since B w' := ⟨h.os, h.tape, h.output, h.size, h.block⟩
theorem sl_own (B n o : Nat) (ho : o < n) (W : World) : ∃ P : Nat, (0 < o → P = n - o) ∧ ∀ W, (Instr.sliceAt 36 (.slice (some ⟨B, 0, none⟩) n n) (some (.int .i64 ((n - o : Nat) : Int))) none none).run Try.prog W = .ok (.slice (some ⟨B, P, none⟩) o o) W := by
  refine ⟨if o = 0 then 0 else n - o, fun h => by rw [if_neg (by omega)], fun W => ?_⟩
  have hs : ((sizeOf (Try.prog.elem 36)).run Try.prog W) = .ok 1 W := by kernel_rfl
  rw [run_sliceAt_slice W _ _ _ _ _ (by kernel_rfl), run_slice_l W _ _ _ _ (by kernel_rfl) .i64 _ (by omega) (by omega), hs]
  simp only [Result.andThen, sliced, Int.toNat_natCast]
  by_cases h : o = 0
  · subst h; simp
  · rw [if_neg h]
    have h1 : ¬ n = n - o := by omega
    have h2 : n - (n - o) = o := by omega
    simp [h1, h2, Addr.add]
    all_goals omega
theorem part_ring {n o : Nat} (ho : o < n) {f : Nat → Nat} {z : List Value} (hz : z.length = n) (i : Nat) (hi : i < n) :
    (splice (splice z 0 ((List.range (n - o)).map fun j => Value.float .f32 (f (o + j)))) (n - o) ((List.range o).map fun j => Value.float .f32 (f (0 + j))))[i]? = some (.float .f32 (f ((o + i) % n))) := by
  unfold splice
  simp only [List.take_zero, List.nil_append, List.length_map, List.length_range, Nat.zero_add]
  by_cases h : i < n - o
  · rw [List.getElem?_append_left (by simp <;> omega), List.getElem?_take_of_lt h, List.getElem?_append_left (by simp <;> omega)]
    rw [Nat.mod_eq_of_lt (show o + i < n by omega)]
    simp [h]
  · have e : (o + i) % n = i - (n - o) := by
      rw [show o + i = (i - (n - o)) + n by omega, Nat.add_mod_right]
      exact Nat.mod_eq_of_lt (by omega)
    rw [List.getElem?_append_right (by rw [List.length_take]; omega)]
    have e2 : (List.take (n - o) ((List.range (n - o)).map (fun j => Value.float .f32 (f (o + j))) ++ List.drop (n - o) z)).length = n - o := by rw [List.length_take]; simp <;> omega
    rw [e2, List.getElem?_append_left (by simp <;> omega), e]
    rw [List.getElem?_map, List.getElem?_range (by omega)]; simp
theorem floats_one {m : Nat} {q : Nat → Nat} : ∀ v ∈ (List.range m).map fun j => Value.float .f32 (q j), v.oneCell' = true := fun v hv => by
  obtain ⟨x, _, rfl⟩ := List.mem_map.1 hv
  rfl
end Go.Proofs.Ytecgipilamefmaa

/- What a step makes of all samples; lines of one kind. -/
set_option linter.unusedVariables false
set_option linter.unusedSimpArgs false
namespace Go.Proofs.Ytecgipilamefmaa
open Fl Go.RowKit
/-- words as a list -/
def lst (n : Nat) (r : Nat → Nat) : List Nat := (List.range n).map r
theorem lst_wd {n : Nat} {r : Nat → Nat} {i : Nat} (h : i < n) : wd (lst n r) i = r i := by unfold lst wd; simp [h]
theorem lst_len (n : Nat) (r : Nat → Nat) : (lst n r).length = n := by simp [lst]
theorem On.setNew {g p o : Nat} {a b : World} {v : Value} (h : On g a b) (hp : a.heap.size ≤ p) (hg : g ≤ p) : On g a (b.setCell ⟨p, o, none⟩ v) :=
  ⟨h.1.setCell hg v, fun i hi hn => by rw [Go.Deep.blk_setCell_other _ _ _ _ (show i ≠ p by omega)]; exact h.2 i hi hn⟩
theorem GCells.on {w w' : World} {g b n : Nat} {f : Nat → Value} (h : GCells w g n f) (o : On b w w') (hn : g ≠ b) : GCells w' g n f := by
  have hl := h.lt
  obtain ⟨cs, hb, hc⟩ := h
  exact ⟨cs, (o.2 g hl hn).trans hb, hc⟩
def partial_ (k : Nat) (r : Nat → Nat) (j : Nat) : Value := .float .f32 (if j < k then r j else 0)
end Go.Proofs.Ytecgipilamefmaa

/- Lines of one kind: the program's run of a delay. -/
set_option linter.unusedVariables false
set_option linter.unusedSimpArgs false
namespace Go.Proofs.Ytecgipilamefmaa
open Fl Go.RowKit
theorem implSamples_b (B : Option Addr) (m c : Nat) (b : Bool) (w : World) (h : decide ((m : Int) ≤ 256) = b) :
    Calls Try.prog 53 #[.slice B m c] w fun e w' => e = .returned (.bool b) ∧ w = w' := by
  go_enter Try.func53, Try.ntmps53
  go_wp2
  go_ret
  exact ⟨rfl, rfl⟩
theorem DelAt.of2 {w w' : World} {g : Nat} {d : DelN} (h : DelAt w g d) (hs : g < w'.heap.size) (e : w'.heap[g]? = w.heap[g]?) : DelAt w' g d :=
  ⟨hs, (cell_of_block e _).trans h.l, (cell_of_block e _).trans h.fb, (cell_of_block e _).trans h.dry, (cell_of_block e _).trans h.wet, (cell_of_block e _).trans h.fl⟩
theorem PLLB.up {n0 n1 : Nat} {f0 f1 : Nat → Option Nat} {b : Bool} {w w1 w2 : World} {e : Ending} (s : w.Since w.heap.size w1) (h : PLLB n0 f0 n1 f1 b w1 e w2) : PLLB n0 f0 n1 f1 b w e w2 := by
  obtain ⟨p, q, c, d, he, hp, hq, g1, g2, a1, a2, dj, hs⟩ := h
  exact ⟨p, q, c, d, he, hp, hq, g1.less s.size, g2.less s.size, a1, a2, dj, since_step s hs⟩
/-! where a run fails -/
end Go.Proofs.Ytecgipilamefmaa

/- Dynamics: the program's lists: clipped samples. -/
set_option linter.unusedVariables false
set_option linter.unusedSimpArgs false
namespace Go.Proofs.Ytecgipilamefmaa
open Fl Go.RowKit
end Go.Proofs.Ytecgipilamefmaa

/- What a step makes of all samples, for bound methods; products of samples and gains. -/
set_option linter.unusedVariables false
set_option linter.unusedSimpArgs false
namespace Go.Proofs.Ytecgipilamefmaa
open Fl Go.RowKit
end Go.Proofs.Ytecgipilamefmaa

/- Dynamics: fades. -/
set_option linter.unusedVariables false
set_option linter.unusedSimpArgs false
namespace Go.Proofs.Ytecgipilamefmaa
open Fl Go.RowKit
def fI (k : Int) : Nat := floatOfInt .f32 k
theorem fI_fv (k : Int) : Hid (Fv .f32 (floatOfInt .f32 k) (some (fI k))) := Lib.hid (fv_write .f32 (d := .number (decide (k < 0)) k.natAbs 0) rfl)
def fadeG (f t : O) (i n : Int) : O := ad f (mu (su t f) (qu (some (fI i)) (some (fI n))))
/-! the gate -/
def PLIB (n0 : Nat) (f0 : Nat → Option Nat) (i : Int) (b : Bool) (w : World) (e : Ending) (w' : World) : Prop :=
  ∃ (p : Ls) (c : Nat), e = .returned (.tuple #[.slice p.A p.n c, .int .i64 i, .bool b]) ∧ p.n = n0 ∧ Gs 22 w' w.heap.size p.A p.n p.xs ∧ Are p f0 ∧ w.Since w.heap.size w'
theorem PLIB.none_ {w w' : World} (s : w.Since w.heap.size w') (f0 : Nat → Option Nat) : PLIB 0 f0 0 false w (.returned (.tuple #[.slice none 0 0, .int .i64 0, .bool false])) w' :=
  ⟨⟨none, 0, []⟩, 0, rfl, rfl, Gs.nil_, (fun k hk => by simp at hk), s⟩
def gateH (X : Nat → O) (T : O) (hold held : Int) : Nat → Int
  | 0 => held
  | k + 1 => if geO (sizeO (X k)) T then hold else if 0 < gateH X T hold held k then gateH X T hold held k - 1 else gateH X T hold held k
def gateY (X : Nat → O) (T : O) (hold held : Int) (k : Nat) : O := if geO (sizeO (X k)) T then X k else if 0 < gateH X T hold held k then X k else some 0
theorem gateH_in {X : Nat → O} {T : O} {hold held : Int} (h1 : 0 ≤ held) (h2 : held ≤ hold) (k : Nat) : 0 ≤ gateH X T hold held k ∧ gateH X T hold held k ≤ hold := by
  induction k with
  | zero => exact ⟨h1, h2⟩
  | succ k ih => unfold gateH; split; omega; split <;> omega
def okHold (hold held : Int) : Bool := inB hold 0 10000 && inB held 0 hold
theorem allow_any (a b x : Int) (w : World) :
    Calls Try.prog 54 #[.agg #[.int .i64 a, .int .i64 b], .int .i64 x] w fun e w' => e = .returned (.bool (inB x a b)) ∧ w.Since w.heap.size w' := by
  by_cases h : a ≤ x
  all_goals
    go_enter Try.func54, Try.ntmps54
    go_wp2
    go_ret
    exact ⟨ret_bool (by simp [inB]; omega), by (repeat (first | (with_reducible refine Fl.sinDrew ?_) | (with_reducible refine World.Since.drew ?_) | (with_reducible refine Fl.sinSet ?_ ?_; rotate_left) | (with_reducible refine Fl.sinAlloc ?_ ?_; rotate_left) | with_reducible exact World.Since.refl _ _ | with_reducible assumption | (with_reducible refine Fl.sinStep (by with_reducible assumption) ?_))); all_goals (first | omega | (simp; done) | (simp; omega) | (simp [go_sem]; done) | (simp [go_sem]; omega))⟩
end Go.Proofs.Ytecgipilamefmaa

/- Dynamics: the gate. -/
set_option linter.unusedVariables false
set_option linter.unusedSimpArgs false
namespace Go.Proofs.Ytecgipilamefmaa
open Fl Go.RowKit
/-- what the closure of a gate finds in its boxes -/
structure GateI (b t : Nat) (hold H : Int) (W : World) : Prop where
  lt : b + 1 + 1 < W.heap.size
  t : W.cell? ⟨b, 0, none⟩ = some (.float .f32 t)
  ho : W.cell? ⟨b + 1, 0, none⟩ = some (.int .i64 hold)
  he : W.heap[b + 1 + 1]? = some (.cells #[.int .i64 H] 2 (0, 0))
theorem GateI.of {b t : Nat} {hold H : Int} {W W' : World} (h : GateI b t hold H W) (hs : W.heap.size ≤ W'.heap.size) (e : ∀ i, i ≤ b + 1 + 1 → W'.heap[i]? = W.heap[i]?) : GateI b t hold H W' :=
  ⟨Nat.lt_of_lt_of_le h.lt hs, (cell_of_block (e _ (by omega)) _).trans h.t, (cell_of_block (e _ (by omega)) _).trans h.ho, (e _ (by omega)).trans h.he⟩
theorem GateI.set {b t : Nat} {hold H H' : Int} {W : World} (h : GateI b t hold H W) : GateI b t hold H' (W.setCell ⟨b + 1 + 1, 0, none⟩ (.int .i64 H')) :=
  ⟨by rw [Go.Deep.nblk_setCell]; exact h.lt, (cell_of_block (Go.Deep.blk_setCell_other _ _ _ _ (show b ≠ b + 1 + 1 by omega)) _).trans h.t, (cell_of_block (Go.Deep.blk_setCell_other _ _ _ _ (show b + 1 ≠ b + 1 + 1 by omega)) _).trans h.ho, by
    simp [World.setCell, Array.getElem?_modify, h.he]⟩
end Go.Proofs.Ytecgipilamefmaa

/- Voices: envelopes and notes by value: valid ones, and their ends. -/
set_option linter.unusedVariables false
set_option linter.unusedSimpArgs false
namespace Go.Proofs.Ytecgipilamefmaa
open Fl Go.RowKit
/-- words of an envelope, of a note, of an oscillator -/
structure EnvN where
  a : Int
  d : Int
  s : Nat
  r : Int
structure NotN where
  st : Int
  h : Int
  p : Int
  g : Nat
structure OscN where
  k : Int
  st : Nat
  ph : Nat
def EnvN.val (e : EnvN) : Value := .agg #[.int .i64 e.a, .int .i64 e.d, .float .f32 e.s, .int .i64 e.r]
def NotN.val (e : NotN) : Value := .agg #[.int .i64 e.st, .int .i64 e.h, .int .i64 e.p, .float .f32 e.g]
def OscN.val (e : OscN) : Value := .agg #[.int .i64 e.k, .float .f32 e.st, .float .f32 e.ph]
def okEnv (a d r : Int) : Bool := inB a 0 1000 && inB d 0 1000 && inB r 0 1000
def okNote (s h p : Int) : Bool := inB s 0 1000 && inB h 0 1000 && inB p 0 127
theorem allowX_any (a b x : Int) (w : World) :
    Calls Try.prog 54 #[.agg #[.int .i64 a, .int .i64 b], .int .i64 x] w fun e w' => e = .returned (.bool (inB x a b)) ∧ w.alloc (.cells #[.int .i64 a, .int .i64 b] 55) = w' := by
  by_cases h : a ≤ x
  all_goals
    go_enter Try.func54, Try.ntmps54
    go_wp2
    go_ret
    exact ⟨ret_bool (by simp [inB]; omega), rfl⟩
def lim (a b : Int) : Obj := .cells #[.int .i64 a, .int .i64 b] 55
/-- an envelope, a note, an oscillator in a box -/
structure EnvAt (w : World) (g : Nat) (e : EnvN) : Prop where
  lt : g < w.heap.size
  a : w.cell? ⟨g, 0, none⟩ = some (.int .i64 e.a)
  d : w.cell? ⟨g, 1, none⟩ = some (.int .i64 e.d)
  s : w.cell? ⟨g, 2, none⟩ = some (.float .f32 e.s)
  r : w.cell? ⟨g, 3, none⟩ = some (.int .i64 e.r)
structure NotAt (w : World) (g : Nat) (e : NotN) : Prop where
  lt : g < w.heap.size
  st : w.cell? ⟨g, 0, none⟩ = some (.int .i64 e.st)
  h : w.cell? ⟨g, 1, none⟩ = some (.int .i64 e.h)
  p : w.cell? ⟨g, 2, none⟩ = some (.int .i64 e.p)
  g : w.cell? ⟨g, 3, none⟩ = some (.float .f32 e.g)
theorem EnvAt.since {w w' : World} {g B : Nat} {e : EnvN} (h : EnvAt w g e) (s : w.Since B w') (hg : g < B) : EnvAt w' g e :=
  ⟨Nat.lt_of_lt_of_le h.lt s.size, (s.cell (a := ⟨g, 0, none⟩) hg).trans h.a, (s.cell (a := ⟨g, 1, none⟩) hg).trans h.d, (s.cell (a := ⟨g, 2, none⟩) hg).trans h.s, (s.cell (a := ⟨g, 3, none⟩) hg).trans h.r⟩
theorem NotAt.since {w w' : World} {g B : Nat} {e : NotN} (h : NotAt w g e) (s : w.Since B w') (hg : g < B) : NotAt w' g e :=
  ⟨Nat.lt_of_lt_of_le h.lt s.size, (s.cell (a := ⟨g, 0, none⟩) hg).trans h.st, (s.cell (a := ⟨g, 1, none⟩) hg).trans h.h, (s.cell (a := ⟨g, 2, none⟩) hg).trans h.p, (s.cell (a := ⟨g, 3, none⟩) hg).trans h.g⟩
def endR (e : EnvN) (n : NotN) (b : Bool) : Int := if b then n.st + n.h + e.r else 0
end Go.Proofs.Ytecgipilamefmaa

/- Dynamics: a follower's step, both sides. -/
set_option linter.unusedVariables false
set_option linter.unusedSimpArgs false
namespace Go.Proofs.Ytecgipilamefmaa
open Fl Go.RowKit
/-- a follower's three words lie in block g from place o on -/
structure FolAt (w : World) (g : Nat) (a r l : Nat) : Prop where
  lt : g < w.heap.size
  a : w.cell? ⟨g, 0, none⟩ = some (.float .f32 a)
  r : w.cell? ⟨g, 1, none⟩ = some (.float .f32 r)
  l : w.cell? ⟨g, 2, none⟩ = some (.float .f32 l)
theorem FolAt.of {w w' : World} {g a r l : Nat} (h : FolAt w g a r l) (hs : w.heap.size ≤ w'.heap.size) (e : w'.heap[g]? = w.heap[g]?) : FolAt w' g a r l :=
  ⟨Nat.lt_of_lt_of_le h.lt hs, (cell_of_block e _).trans h.a, (cell_of_block e _).trans h.r, (cell_of_block e _).trans h.l⟩
theorem flushH {x : Nat} {F : O} (h : Hid (Fv .f32 x F)) : Hid (Fv .f32 (flushN x) (F.map flushN)) := Lib.hid (flushN_fv h.out)
/-- a level behind a sample -/
def folO (A R L X : O) : O := (ad L (mu (if gtO (sizeO X) L then A else R) (su (sizeO X) L))).map flushN
end Go.Proofs.Ytecgipilamefmaa

/- Dynamics: levels, the model's. -/
set_option linter.unusedVariables false
set_option linter.unusedSimpArgs false
namespace Go.Proofs.Ytecgipilamefmaa
namespace Lo
open Fl Ieee
section
variable {P : Program} {ops : Array Oper} {rest : List Oper} {o : Oper} {a : Act} {Q : Act → Prop} {ds : List Nat}
theorem keeps (ts : List Nat) (vs : List Value) (hv : ts.map (fun t => a.tmps.getD t undef) = vs) (ht : ts.all (fun t => !ds.contains t) = true) (b : Act) (h : AR (fun i => ds.contains i) a b) : (ts.map Operand.tmp).map b.eval = vs := by
  subst hv
  rw [List.map_map]
  refine List.map_congr_left fun t hm => ?_
  have h1 := List.all_eq_true.1 ht t hm
  exact (h.2.2 t).2 (by simpa using h1)
/-- a call of a Go function, of nothing that the statement computes, which gives a float -/
theorem wpL_callF {w : World} (hg : o.guard = none) (f : FuncId) (ys : List Operand) (vs : List Value) (tys : Array TypeId) (hop : o.op = Op.call ⟨.value (.func f), ys.toArray, tys⟩) (hd : ∀ d, o.dst = some d → ds.contains d = true)
    (henter : ∀ args w2, (callFunc f args).run P w2 = .ok (.enter f args) w2)
    (k2 : FloatKind) (F : Option Nat) (hys : ∀ b, AR (fun i => ds.contains i) a b → ys.map b.eval = vs)
    (hc : ∀ m, Calls P f vs.toArray (w.drewN m) fun e w2 => ∃ r n, e = .returned (.float k2 r) ∧ Fv k2 r F ∧ w2 = w.drewN n)
    (hex : ∃ r, Fv k2 r F)
    (hK : ∀ r, RowKit.Hid (Fv k2 r F) → wpL P ops (fun v => ∃ n, v = w.drewN n) (fun i => ds.contains i) Q rest (a.put o.dst (.float k2 r))) :
    wpL P ops (fun v => ∃ n, v = w.drewN n) (fun i => ds.contains i) Q (o :: rest) a := by
  obtain ⟨r, hr⟩ := hex
  refine wpL_of_loose hg (fun b hab w2 hw => ?_) (hK r hr)
  have e : (execOp b.eval o).run P w2 = .ok (.enter f vs.toArray) w2 := by
    have h1 := hys b hab
    have ef : b.eval (.func f) = .func (.func f) #[] #[] := rfl
    simp [execOp, hop, resolve, ef, h1, invoke, Deferred.ofValue, henter, Result.andThen]
  rw [e]
  obtain ⟨m, rfl⟩ := hw
  refine ⟨⟨m, rfl⟩, (hc m).mono fun e2 w3 ⟨r2, n, he, hr2, hw3⟩ => ⟨_, he, ⟨.inr ⟨k2, r, r2, rfl, rfl, hr.1, hr2.1, by rw [hr.2, hr2.2]⟩, fun d hd2 hf2 => by have := hd d hd2; simp_all⟩, n, hw3⟩⟩
end
end Lo
open Fl Go.RowKit
theorem FolAt.drewN {w : World} {g a r l : Nat} (h : FolAt w g a r l) (m : Nat) : FolAt (w.drewN m) g a r l := ⟨h.lt, h.a, h.r, h.l⟩
theorem _root_.Go.Proofs.Ytecgipilamefmaa.Fl.Gs.onLow {T : TypeId} {w w' : World} {lo n g : Nat} {A : Option Addr} {xs : List Nat} (h : Gs T w lo A n xs) (o : On g w w') (hd : g < lo) : Gs T w' lo A n xs :=
  ⟨h.1, h.2.1, fun hn => by
    obtain ⟨b, cs, e, hb, hh, hc⟩ := h.2.2 hn
    exact ⟨b, cs, e, hb, (o.2 b (Array.getElem?_eq_some_iff.1 hh).1 (by omega)).trans hh, hc⟩⟩
theorem blk_keep {w : World} {b : Nat} (o : Obj) (h : b < w.heap.size) : (w.alloc o).heap[b]? = w.heap[b]? := ((World.Since.refl w.heap.size w).alloc (Nat.le_refl _) o).block b h
structure FolN where
  a : Nat
  r : Nat
  l : Nat
structure Fol where
  a : O
  r : O
  l : O
def FolN.val (d : FolN) : Value := .agg #[.float .f32 d.a, .float .f32 d.r, .float .f32 d.l]
structure FvFol (d : FolN) (D : Fol) : Prop where
  a : Hid (Fv .f32 d.a D.a)
  r : Hid (Fv .f32 d.r D.r)
  l : Hid (Fv .f32 d.l D.l)
def PLFB (n0 : Nat) (f0 : Nat → Option Nat) (S : Fol) (b : Bool) (w : World) (e : Ending) (w' : World) : Prop :=
  ∃ (p : Ls) (c : Nat) (s : FolN), e = .returned (.tuple #[.slice p.A p.n c, s.val, .bool b]) ∧ p.n = n0 ∧ Gs 22 w' w.heap.size p.A p.n p.xs ∧ Are p f0 ∧ FvFol s S ∧ w.Since w.heap.size w'
def levO (D : Fol) (X : Nat → O) : Nat → O
  | 0 => D.l
  | k + 1 => folO D.a D.r (levO D X k) (X k)
theorem folO_ex {A R L X : O} {a r l x : Nat} (ha : Hid (Fv .f32 a A)) (hr : Hid (Fv .f32 r R)) (hl : Hid (Fv .f32 l L)) (hx : Hid (Fv .f32 x X)) : ∃ q, Fv .f32 q (folO A R L X) := by
  unfold folO
  obtain ⟨d, hd⟩ := Lo.fv_ex (op := .sub) rfl .f32 _ _ _ _ (sizeN_fv hx).out hl.out
  cases gtO (sizeO X) L
  · obtain ⟨p, hp⟩ := Lo.fv_ex (op := .mul) rfl .f32 _ _ _ _ hr.out hd
    obtain ⟨s, hs⟩ := Lo.fv_ex (op := .add) rfl .f32 _ _ _ _ hl.out hp
    exact ⟨_, flushN_fv hs⟩
  · obtain ⟨p, hp⟩ := Lo.fv_ex (op := .mul) rfl .f32 _ _ _ _ ha.out hd
    obtain ⟨s, hs⟩ := Lo.fv_ex (op := .add) rfl .f32 _ _ _ _ hl.out hp
    exact ⟨_, flushN_fv hs⟩
end Go.Proofs.Ytecgipilamefmaa

/- Loose regions whose callees make memory: worlds that grow. -/
set_option linter.unusedVariables false
set_option linter.unusedSimpArgs false
namespace Go.Proofs.Ytecgipilamefmaa
namespace Lo
open Fl Ieee
/-- a world with more blocks behind, and some draws -/
def mkW (w : World) (hs : Array Obj) (d : Nat) : World := { w with heap := w.heap ++ hs, drawn := d }
@[go_sem] theorem mkW_drewN (w : World) (hs : Array Obj) (d m : Nat) : (mkW w hs d).drewN m = mkW w hs (d + m) := rfl
theorem mkW_self (w : World) (d : Nat) : { w with drawn := d } = mkW w #[] d := by simp [mkW]
theorem mkW_since (w : World) (hs : Array Obj) (d : Nat) : w.Since w.heap.size (mkW w hs d) :=
  ⟨rfl, rfl, rfl, by simp [mkW], fun k hk => by simp [mkW, Array.getElem?_append_left hk]⟩
theorem sinceG {w v : World} {hs : Array Obj} {d : Nat} (h : mkW w hs d = v) : w.Since w.heap.size v := h ▸ mkW_since w hs d
theorem mkW_of {w v : World} (h : w.Since w.heap.size v) : ∃ hs d, v = mkW w hs d := by
  refine ⟨v.heap.extract w.heap.size v.heap.size, v.drawn, ?_⟩
  obtain ⟨h1, h2, h3, h4, h5⟩ := h
  obtain ⟨vh, vt, vd, vo, vp⟩ := v
  simp only at h1 h2 h3 h4 h5
  unfold mkW
  simp only [h1, h2, h3, World.mk.injEq, and_true, true_and]
  apply Array.ext_getElem?
  intro i
  by_cases hi : i < w.heap.size
  · rw [Array.getElem?_append_left hi, h5 i hi]
  · rw [Array.getElem?_append_right (by omega), Array.getElem?_extract]
    by_cases hj : i < vh.size
    · rw [if_pos (by omega)]; congr 1; omega
    · rw [if_neg (by omega), Array.getElem?_eq_none (by omega)]
theorem mkW_mkW {w v v2 : World} (h : ∃ hs d, v = mkW w hs d) (h2 : v.Since v.heap.size v2) : ∃ hs d, v2 = mkW w hs d := by
  obtain ⟨hs, d, rfl⟩ := h
  exact mkW_of (since_step (mkW_since w hs d) h2)
theorem cell_mkW {w : World} {hs : Array Obj} {d b o : Nat} (hb : b < w.heap.size) : (mkW w hs d).cell? ⟨b, o, none⟩ = w.cell? ⟨b, o, none⟩ := (mkW_since w hs d).cell (a := ⟨b, o, none⟩) hb
def VRs : List Value → List Value → Prop
  | [], us => us = []
  | v :: vs, us => ∃ u us', us = u :: us' ∧ VR v u ∧ VRs vs us'
theorem VR_int {k : IntKind} {n : Int} {u : Value} (h : VR (.int k n) u) : u = .int k n := by
  rcases h with rfl | ⟨_, _, _, e, _⟩
  · rfl
  · cases e
theorem VR_bool {n : Bool} {u : Value} (h : VR (.bool n) u) : u = .bool n := by
  rcases h with rfl | ⟨_, _, _, e, _⟩
  · rfl
  · cases e
theorem VR_ptr {n : Option Addr} {u : Value} (h : VR (.pointer n) u) : u = .pointer n := by
  rcases h with rfl | ⟨_, _, _, e, _⟩
  · rfl
  · cases e
theorem VR_agg {n : Array Value} {u : Value} (h : VR (.agg n) u) : u = .agg n := by
  rcases h with rfl | ⟨_, _, _, e, _⟩
  · rfl
  · cases e
section
variable {P : Program} {ops : Array Oper} {rest : List Oper} {o : Oper} {a : Act} {Q : Act → Prop} {ds : List Nat}
theorem wp_looseG_tail {P : Program} {id : Nat} {Q : Exit → Act → World → Prop} {a : Act} {w : World} {l : List Oper} (ds : List Nat) (n : Nat) (hm : P.follows .mixedOrders = true) (hB : Region.lexTailB .any l.toArray n = true)
    (h : wpL P l.toArray (fun v => ∃ hs d, v = mkW w hs d) (fun i => ds.contains i) (fun a2 => ∀ hs d, After ds a2 fun b _ => wpList P l.toArray Q (l.drop n) b (mkW w hs d)) (l.take n) a) : (Code.region id l.toArray true).wp P Q a w := by
  simp only [Region.lexTailB, Bool.and_eq_true, decide_eq_true_eq] at hB
  obtain ⟨⟨⟨⟨hsel, hn⟩, hs⟩, hc⟩, hlex⟩ := hB
  have hn2 : n < l.length := by simpa using hn
  have htl : (l.take n).length = n := by simp; omega
  have hdl : (l.drop n).length = l.toArray.size - n := by simp
  have inv0 : HeadInv .any l.toArray n (Array.replicate l.toArray.size false) :=
    ⟨by simp, fun j oj _ hl => (by rw [getD_replicate_false] at hl; cases hl), fun t _ ht => getD_in (by simpa using ht) (getD_replicate_false _ _)⟩
  have H := anyM_text (md := .any) (g := l.toArray.size - n) hsel hs hc hn (l.take n) 0 _ a (fun j hj => by
    have hj2 : j < n := by rw [htl] at hj; exact hj
    simp [hj2]) (by simpa using htl) inv0 (by rw [htl]; exact hlex) h
  refine wp_region_any hm ?_
  have := wpAny_of_anyM (Q2 := Q) (g := l.toArray.size - n) (fun listed a2 b w2 hw hab hL => by
    obtain ⟨hs2, d2, rfl⟩ := hw
    have := wpAny_of_seq (md := .any) (Q' := Q) (l.drop n) n listed b (mkW w hs2 d2) (fun j => by simp [List.getElem?_drop]) (by rw [hdl]; exact hL.1) (hL.2 hs2 d2 b hab 0)
    rwa [hdl] at this) _ _ a a { w with drawn := w.drawn + 1 } ⟨#[], _, mkW_self w _⟩ (AR.refl _ _) H
  rw [htl, show n + (l.toArray.size - n) = l.toArray.size by omega] at this
  exact this
theorem wp_looseG_all {P : Program} {id : Nat} {Q : Exit → Act → World → Prop} {a : Act} {w : World} {l : List Oper} (ds : List Nat) (hm : P.follows .mixedOrders = true) (hB : Region.lexB .any l.toArray = true)
    (h : wpL P l.toArray (fun v => ∃ hs d, v = mkW w hs d) (fun i => ds.contains i) (fun a2 => ∀ hs d, After ds a2 fun b _ => Q .normal b (mkW w hs d)) l a) : (Code.region id l.toArray true).wp P Q a w := by
  simp only [Region.lexB, Bool.and_eq_true] at hB
  refine wp_region_any hm (wpAny_of_anyL (C := fun v => ∃ hs d, v = mkW w hs d) (D := fun i => ds.contains i) (Q := fun a2 => ∀ hs d, After ds a2 fun b _ => Q .normal b (mkW w hs d))
    (fun a b w2 hw hab hq => by obtain ⟨hs, d, rfl⟩ := hw; exact hq hs d b hab 0) _ _ a a _ ⟨#[], _, mkW_self w _⟩ (AR.refl _ _) ?_)
  have := anyL_text (P := P) (C := fun v => ∃ hs d, v = mkW w hs d) (D := fun i => ds.contains i) (md := .any) hB.1 l 0 (Array.replicate l.length false) a (by simp) (by simpa using hB.2) h
  simpa using this
theorem wpG_fop {C : World → Prop} (hC : ∀ v m, C v → C (v.drewN m)) {op : BinOp} (hg : o.guard = none) (t t2 : TypeId) (x y : Operand) (hop : o.op = Op.binOp op t x y t2) (hf : isF op = true) (hd : ∀ d, o.dst = some d → ds.contains d = true) (k : FloatKind) (p q : Nat) (u v : Option Nat)
    (hx : a.eval x = .float k p) (hy : a.eval y = .float k q) (hp : RowKit.Hid (Fv k p u)) (hq : RowKit.Hid (Fv k q v))
    (hK : ∀ r, RowKit.Hid (Fv k r (opO op k u v)) → wpL P ops C (fun i => ds.contains i) Q rest (a.put o.dst (.float k r))) :
    wpL P ops C (fun i => ds.contains i) Q (o :: rest) a := by
  obtain ⟨r, hr⟩ := fv_ex hf k u v p q hp hq
  refine wpL_of_loose hg (fun b hab w2 hw => ?_) (hK r hr)
  obtain ⟨p2, e1, hp2⟩ := VR_fl hp (by rw [← hx]; exact eval_AR hab x)
  obtain ⟨q2, e2, hq2⟩ := VR_fl hq (by rw [← hy]; exact eval_AR hab y)
  have he : eqGuard op t x y (.float k p2) (.float k q2) = pure () := by
    rcases isF_of hf with rfl | rfl | rfl | rfl <;> rfl
  have e : (execOp b.eval o).run P w2 = .ok (.value (.float k (ov op k p2 q2 w2))) (w2.drewN (on op k p2 q2)) := by
    simp [execOp, hop, e1, e2, he, run_fopE (P := P) hf t k p2 q2 w2, Result.andThen]
  rw [e]
  have h2 := ov_fv hf k p2 q2 w2
  rw [hp2.2, hq2.2] at h2
  exact ⟨hC _ _ hw, .inr ⟨k, r, _, rfl, rfl, hr.1, h2.1, by rw [hr.2, h2.2]⟩, fun d hd2 hf2 => by have := hd d hd2; simp_all⟩
theorem drewG {w v : World} (m : Nat) (h : ∃ hs d, v = mkW w hs d) : ∃ hs d, v.drewN m = mkW w hs d := by
  obtain ⟨hs, d, rfl⟩ := h
  exact ⟨hs, d + m, rfl⟩
/-- a call of a Go function whose arguments the statement may have computed -/
theorem wpG_callV {C : World → Prop} (hg : o.guard = none) (f : FuncId) (xs : List Operand) (vs : List Value) (tys : Array TypeId) (hop : o.op = Op.call ⟨.value (.func f), xs.toArray, tys⟩) (hd : ∀ d, o.dst = some d → ds.contains d = true)
    (henter : ∀ args w2, (callFunc f args).run P w2 = .ok (.enter f args) w2)
    (k2 : FloatKind) (F : Option Nat) (hxs : xs.map a.eval = vs)
    (hc : ∀ us, VRs vs us → ∀ v, C v → Calls P f us.toArray v fun e v2 => ∃ r, e = .returned (.float k2 r) ∧ Fv k2 r F ∧ C v2)
    (hex : ∃ r, Fv k2 r F)
    (hK : ∀ r, RowKit.Hid (Fv k2 r F) → wpL P ops C (fun i => ds.contains i) Q rest (a.put o.dst (.float k2 r))) :
    wpL P ops C (fun i => ds.contains i) Q (o :: rest) a := by
  obtain ⟨r, hr⟩ := hex
  refine wpL_of_loose hg (fun b hab w2 hw => ?_) (hK r hr)
  have hus : VRs vs (xs.map b.eval) := by
    subst hxs
    clear hop hc
    induction xs with
    | nil => exact rfl
    | cons x xs ih => exact ⟨_, _, rfl, eval_AR hab x, ih⟩
  have e : (execOp b.eval o).run P w2 = .ok (.enter f (xs.map b.eval).toArray) w2 := by
    have ef : b.eval (.func f) = .func (.func f) #[] #[] := rfl
    simp [execOp, hop, resolve, ef, invoke, Deferred.ofValue, henter, Result.andThen]
  rw [e]
  exact ⟨hw, (hc _ hus w2 hw).mono fun e2 w3 ⟨r2, he, hr2, hw3⟩ => ⟨_, he, ⟨.inr ⟨k2, r, r2, rfl, rfl, hr.1, hr2.1, by rw [hr.2, hr2.2]⟩, fun d hd2 hf2 => by have := hd d hd2; simp_all⟩, hw3⟩⟩
theorem wpL_loadRow {C : World → Prop} (hg : o.guard = none) (ty : TypeId) (x : Operand) (hop : o.op = .load ty x) (ho : avoid ds o = true) (b off : Nat) (hx : a.eval x = .pointer (some ⟨b, off, none⟩)) (cs : List Value) (d : TypeDesc)
    (hu : P.underlying ty = some d) (hd : d.isRow = true) (hi : (P.info? ty).map (·.size) = some cs.length) (hS : ∀ v, C v → v.rangeAt b off cs)
    (hK : wpL P ops C (fun i => ds.contains i) Q rest (a.put o.dst (.agg cs.toArray))) : wpL P ops C (fun i => ds.contains i) Q (o :: rest) a := by
  refine wpL_of_loose hg (fun b' hab w hw => ?_) hK
  rw [eval_avoid hab ho]
  have e : (execOp a.eval o).run P w = .ok (.value (.agg cs.toArray)) w := by
    unfold execOp
    simp only [hop, hx, Instr.loadAt, Instr.sureAddr, Sem.run_bind, Sem.run_pure, Result.andThen_ok, run_loadVar_mid w b off ty cs d (hS w hw) hu hd hi]
  rw [e]
  exact ⟨hw, okv.refl ..⟩
theorem range_since {w v : World} {B b off : Nat} {cs : List Value} (h : w.rangeAt b off cs) (s : w.Since B v) (hb : b < B) : v.rangeAt b off cs := fun j x hj => (s.cell (a := ⟨b, off + j, none⟩) hb).trans (h j x hj)
/-- a call of known arguments that gives one value -/
theorem wpG_callQ {C : World → Prop} (hg : o.guard = none) (f : FuncId) (xs : List Operand) (vs : List Value) (tys : Array TypeId) (hop : o.op = Op.call ⟨.value (.func f), xs.toArray, tys⟩) (ho : avoid ds o = true)
    (henter : ∀ args w2, (callFunc f args).run P w2 = .ok (.enter f args) w2) (hxs : xs.map a.eval = vs) (val : Value)
    (hc : ∀ v, C v → Calls P f vs.toArray v fun e v2 => e = .returned val ∧ C v2)
    (hK : wpL P ops C (fun i => ds.contains i) Q rest (a.put o.dst val)) : wpL P ops C (fun i => ds.contains i) Q (o :: rest) a := by
  refine wpL_of_loose hg (fun b hab w2 hw => ?_) hK
  rw [eval_avoid hab ho]
  have e : (execOp a.eval o).run P w2 = .ok (.enter f vs.toArray) w2 := by
    have ef : a.eval (.func f) = .func (.func f) #[] #[] := rfl
    subst hxs
    simp [execOp, hop, resolve, ef, invoke, Deferred.ofValue, henter, Result.andThen]
  rw [e]
  exact ⟨hw, (hc w2 hw).mono fun e2 w3 ⟨he, hw3⟩ => ⟨_, he, okv.refl .., hw3⟩⟩
theorem wpL_load1 {C : World → Prop} (hg : o.guard = none) (ty : TypeId) (x : Operand) (hop : o.op = .load ty x) (ho : avoid ds o = true) (p : Addr) (hx : a.eval x = .pointer (some p)) (val : Value)
    (hS : ∀ v, C v → (loadVar ty p).run P v = .ok val v)
    (hK : wpL P ops C (fun i => ds.contains i) Q rest (a.put o.dst val)) : wpL P ops C (fun i => ds.contains i) Q (o :: rest) a := by
  refine wpL_of_loose hg (fun b' hab w hw => ?_) hK
  rw [eval_avoid hab ho]
  have e : (execOp a.eval o).run P w = .ok (.value val) w := by
    unfold execOp
    simp only [hop, hx, Instr.loadAt, Instr.sureAddr, Sem.run_bind, Sem.run_pure, Result.andThen_ok, hS w hw]
  rw [e]
  exact ⟨hw, okv.refl ..⟩
end
end Lo
end Go.Proofs.Ytecgipilamefmaa

/- Voices: levels of envelopes. -/
set_option linter.unusedVariables false
set_option linter.unusedSimpArgs false
namespace Go.Proofs.Ytecgipilamefmaa
open Fl Go.RowKit
abbrev o1 : O := some 1065353216
def heldO (a d : Int) (S : O) (n : Int) : O := if n < a then qu (some (fI n)) (some (fI a)) else if n - a < d then su o1 (mu (qu (some (fI (n - a))) (some (fI d))) (su o1 S)) else S
def lvlO (a d : Int) (S : O) (r held n : Int) : O := if n < held then heldO a d S n else if n - held < r then mu (heldO a d S held) (su o1 (qu (some (fI (n - held))) (some (fI r)))) else some 0
def inR (x lo hi : Int) : Prop := lo ≤ x ∧ x ≤ hi
theorem qu_ex (p q : Int) : ∃ r, Fv .f32 r (qu (some (fI p)) (some (fI q))) := Lo.fv_ex (op := .quo) rfl .f32 _ _ _ _ (fI_fv p).out (fI_fv q).out
theorem EnvAt.drewN {w : World} {g : Nat} {e : EnvN} (h : EnvAt w g e) (m : Nat) : EnvAt (w.drewN m) g e := ⟨h.lt, h.a, h.d, h.s, h.r⟩
theorem heldO_ex {s : Nat} {S : O} (a d n : Int) (hS : Hid (Fv .f32 s S)) : ∃ r, Fv .f32 r (heldO a d S n) := by
  unfold heldO
  split
  · exact qu_ex _ _
  · split
    · obtain ⟨q1, h1⟩ := qu_ex (n - a) d
      obtain ⟨q2, h2⟩ := Lo.fv_ex (op := .sub) rfl .f32 _ _ _ _ fv1.out hS.out
      obtain ⟨q3, h3⟩ := Lo.fv_ex (op := .mul) rfl .f32 _ _ _ _ h1 h2
      exact Lo.fv_ex (op := .sub) rfl .f32 _ _ _ _ fv1.out h3
    · exact ⟨s, hS.out⟩
theorem EnvAt.range {w : World} {g : Nat} {e : EnvN} (h : EnvAt w g e) : w.rangeAt g 0 [.int .i64 e.a, .int .i64 e.d, .float .f32 e.s, .int .i64 e.r] := fun j v hj => by
  rw [Nat.zero_add]
  match j, hj with
  | 0, hj => cases hj; exact h.a
  | 1, hj => cases hj; exact h.d
  | 2, hj => cases hj; exact h.s
  | 3, hj => cases hj; exact h.r
theorem EnvAt.load3 {w : World} {g : Nat} {e : EnvN} (h : EnvAt w g e) : (loadVar 2 ⟨g, 3, none⟩).run Try.prog w = .ok (.int .i64 e.r) w := by
  have h3 := h.r
  simp [loadVar, go_sem, h3]
def okLvl (e : EnvN) (held n : Int) : Bool := okEnv e.a e.d e.r && inB held 0 4000 && inB n 0 4000
def lvlR (e : EnvN) (held n : Int) (b : Bool) : O := if b then lvlO e.a e.d (ab .f32 e.s) e.r held n else some 0
theorem inR_of {x lo hi : Int} (h : inB x lo hi = true) : inR x lo hi := by simpa [inB, inR] using h
theorem env_in {e : EnvN} (h : okEnv e.a e.d e.r = true) : inR e.a 0 1000 ∧ inR e.d 0 1000 ∧ inR e.r 0 1000 := by
  simp only [okEnv, Bool.and_eq_true] at h
  exact ⟨inR_of h.1.1, inR_of h.1.2, inR_of h.2⟩
theorem allowB (a b x : Int) (bb : Bool) (w : World) (h : inB x a b = bb) :
    Calls Try.prog 54 #[.agg #[.int .i64 a, .int .i64 b], .int .i64 x] w fun e w' => e = .returned (.bool bb) ∧ w.alloc (.cells #[.int .i64 a, .int .i64 b] 55) = w' := by subst h; exact allowX_any a b x w
end Go.Proofs.Ytecgipilamefmaa

/- Voices: kinds of waves, oscillators that are valid. -/
set_option linter.unusedVariables false
set_option linter.unusedSimpArgs false
namespace Go.Proofs.Ytecgipilamefmaa
open Fl Go.RowKit
def turnB (x : O) : Bool := geO x (some 0) && ltO x (some 1065353216)
theorem turnB_of {X : O} {b1 b2 b3 : Bool} (h1 : gtO X (some 0) = b1) (h2 : eqO X (some 0) = b2) (h3 : ltO X (some 1065353216) = b3) : turnB X = ((b1 || b2) && b3) := by unfold turnB geO; rw [h1, h2, h3]
structure OscAt (w : World) (g : Nat) (e : OscN) : Prop where
  lt : g < w.heap.size
  k : w.cell? ⟨g, 0, none⟩ = some (.int .i64 e.k)
  st : w.cell? ⟨g, 1, none⟩ = some (.float .f32 e.st)
  ph : w.cell? ⟨g, 2, none⟩ = some (.float .f32 e.ph)
theorem OscAt.since {w w' : World} {g B : Nat} {e : OscN} (h : OscAt w g e) (s : w.Since B w') (hg : g < B) : OscAt w' g e :=
  ⟨Nat.lt_of_lt_of_le h.lt s.size, (s.cell (a := ⟨g, 0, none⟩) hg).trans h.k, (s.cell (a := ⟨g, 1, none⟩) hg).trans h.st, (s.cell (a := ⟨g, 2, none⟩) hg).trans h.ph⟩
def okOsc (k : Int) (s p : O) : Bool := inB k 0 3 && turnB s && turnB p
end Go.Proofs.Ytecgipilamefmaa

/- Sines of phases: the walks. -/
set_option linter.unusedVariables false
set_option linter.unusedSimpArgs false
namespace Go.Proofs.Ytecgipilamefmaa
open Fl Go.RowKit Ieee
theorem lt64_fv {p q : Nat} {P Q : O} (hp : Hid (Fv .f64 p P)) (hq : Hid (Fv .f64 q Q)) : (FloatKind.f64.format.order p q == some .lt) = lt64 P Q := by rw [ord_fv hp hq]; rfl
theorem gt64_fv {p q : Nat} {P Q : O} (hp : Hid (Fv .f64 p P)) (hq : Hid (Fv .f64 q Q)) : (FloatKind.f64.format.order p q == some .gt) = gt64 P Q := by rw [ord_fv hp hq]; rfl
theorem eq64_fv {p q : Nat} {P Q : O} (hp : Hid (Fv .f64 p P)) (hq : Hid (Fv .f64 q Q)) : (FloatKind.f64.format.order p q == some .eq) = eq64 P Q := by rw [ord_fv hp hq]; rfl
theorem fv64c {b : Nat} (h : b < 18446744073709551616) (h2 : ab .f64 b = some b) : Hid (Fv .f64 b (some b)) := Lib.hid ⟨h, h2⟩
theorem fq1 : Hid (Fv .f64 4607182418800017408 (some cOne)) := fv64c (by decide) (by rw [ab64]; rfl)
theorem fqh : Hid (Fv .f64 4602678819172646912 (some cHalf)) := fv64c (by decide) (by rw [ab64]; rfl)
theorem fqq : Hid (Fv .f64 4598175219545276416 (some cQuar)) := fv64c (by decide) (by rw [ab64]; rfl)
theorem fqp : Hid (Fv .f64 4618760256179416344 (some c2pi)) := fv64c (by decide) (by rw [ab64]; rfl)
theorem fqz : Hid (Fv .f64 0 (some 0)) := fv64c (by decide) (by rw [ab64]; rfl)
theorem fqi (n : Int) : Hid (Fv .f64 (floatOfInt .f64 n) (some (floatOfInt .f64 n))) := Lib.hid (fv_write .f64 (d := .number (decide (n < 0)) n.natAbs 0) rfl)
theorem sinK_of {k : Nat} (h : k ≤ 8) : sinK (8 - k) = ((2 * k * (2 * k + 1) : Nat) : Int) := by unfold sinK; rw [show 8 - (8 - k) = k by omega]
set_option maxHeartbeats 4000000 in
set_option maxRecDepth 100000 in
theorem implSeries_any (z : Nat) (Z : O) (w : World) (hz : Hid (Fv .f64 z Z)) :
    Calls Try.prog 74 #[.float .f64 z] w (RetF .f64 (ser Z) w) := by
  have k1 := fq1
  go_enter Try.func74, Try.ntmps74
  go_wp2_with (with_reducible_and_instances refine Lo.wpList_fo _ rfl _ _ _ _ _ rfl _ _ _ _ _ rfl rfl rfl (by assumption) (by assumption) ?_; intro rr nn hrr)
  have hu := hrr
  go_loopw [4, 5] (fun p kk wr => ∃ (k m r : Nat), k ≤ 8 ∧ kk = .int .i64 k ∧ p = .float .f64 r ∧ Hid (Fv .f64 r (sinP (opO .mul .f64 Z Z) (8 - k))) ∧ wr = w.drewN m) (fun _ kk _ => (intOf kk).toNat)
  case atStart => exact ⟨8, _, _, Nat.le_refl _, rfl, rfl, fq1, rfl⟩
  case round =>
    obtain ⟨k, m, r, hk, rfl, rfl, hr, rfl⟩ := hrel
    by_cases hlt : 1 ≤ k
    · obtain ⟨M, hM⟩ : ∃ M, 2 * k * (2 * k + 1) = M := ⟨_, rfl⟩
      have hM2 : 2 * (k : Int) * (2 * (k : Int) + 1) = (M : Int) := by rw [← hM]; push_cast; rfl
      have hMb : M ≤ 272 := by rw [← hM]; exact Nat.mul_le_mul (show 2 * k ≤ 16 by omega) (show 2 * k + 1 ≤ 17 by omega)
      have hi := fqi (M : Int)
      have eK : Hid (sinP (opO .mul .f64 Z Z) (8 - (k - 1)) = opO .sub .f64 (some cOne) (opO .quo .f64 (opO .mul .f64 (opO .mul .f64 Z Z) (sinP (opO .mul .f64 Z Z) (8 - k))) (some (floatOfInt .f64 (M : Int))))) := Lib.hid (by
        rw [show 8 - (k - 1) = (8 - k) + 1 by omega, ← hM, ← sinK_of (by omega)]; rfl)
      clear hM
      go_wp2_with (with_reducible_and_instances refine Lo.wpList_fo _ rfl _ _ _ _ _ rfl _ _ _ _ _ rfl rfl rfl (by assumption) (by assumption) ?_; intro rr nn hrr)
      rw [← eK.out] at hrr
      go_roundw
      case rel => exact ⟨k - 1, _, _, by omega, by go_num, rfl, hrr, rfl⟩
      case measure => simp [intOf]; omega
    · obtain rfl : k = 0 := by omega
      rw [show ((0 : Nat) : Int) = 0 from rfl]
      go_wp2_with (with_reducible_and_instances refine Lo.wpList_fo _ rfl _ _ _ _ _ rfl _ _ _ _ _ rfl rfl rfl (by assumption) (by assumption) ?_; intro rr nn hrr)
      go_ret
      exact ⟨_, _, rfl, hrr.out, rfl⟩
end Go.Proofs.Ytecgipilamefmaa

/- A float made whole, to the nearest even: it keeps to whole bounds. -/
set_option linter.unusedVariables false
set_option linter.unusedSimpArgs false
namespace Go.Proofs.Ytecgipilamefmaa
namespace Fl
open Ieee
/-- a 64-bit word rounded to a whole number -/
def rneW (x : Nat) : Nat := match FloatKind.f64.decode x with
  | .nan _ _ => x
  | d => FloatKind.f64.encode (d.integral .even)
def fd (c : Int) : Nat := floatOfInt .f64 c
theorem cutze (s : Bool) (n d : Nat) : Toward.zero.cut s n d ≤ n / 2 ^ d := by
  unfold Toward.cut
  dsimp only
  rw [Nat.shiftLeft_eq, Nat.one_mul]
  show n / 2 ^ min d (n.log2 + 2) + 0 ≤ _
  rcases Nat.le_total d (n.log2 + 2) with h1 | h1
  · rw [Nat.min_eq_left h1]; exact Nat.le_refl _
  · rw [Nat.min_eq_right h1, Nat.div_eq_of_lt (Nat.lt_trans Nat.lt_log2_self (Nat.pow_lt_pow_right (by decide) (by omega)))]
    exact Nat.zero_le _
/-- what lies within 2^20 goes into an integer -/
theorem toInt_some {y : Nat} (h : rung .f64 y ≤ 1043 * 4503599627370496) : ∃ v, floatToIntVal .f64 y .i64 = some v := by
  have hf : rung .f64 y < FloatKind.f64.format.infRung := Nat.lt_of_le_of_lt h (by decide)
  obtain ⟨m, e, hr, hz⟩ := read_fin .f64 hf
  obtain ⟨D, hD⟩ : ∃ D : Nat, D = 1074 := ⟨_, rfl⟩
  have h1 : zv .f64 (1043 * 4503599627370496) = 2 ^ 20 * 2 ^ D := by rw [hD]; decide +kernel
  have h2 : FloatKind.f64.format.leastPlace = -(D : Int) := by rw [hD]; decide
  have h3 : m * 2 ^ e ≤ 2 ^ 20 * 2 ^ D := by rw [← hz, ← h1]; exact (zv_le .f64).2 h
  clear hD h1
  have hd : FloatKind.f64.decode y = .number (sgn .f64 y) m (-(D : Int) + e) := by rw [← h2]; exact hr
  have hc : Toward.zero.cut (sgn .f64 y) (m <<< (-(D : Int) + e).toNat) (-(-(D : Int) + e)).toNat ≤ 1048576 := by
    refine Nat.le_trans (cutze _ _ _) ?_
    rw [Nat.shiftLeft_eq, Nat.div_le_iff_le_mul_add_pred (Nat.two_pow_pos _)]
    rcases Nat.le_total e D with h4 | h4
    · rw [show (-(D : Int) + e).toNat = 0 by omega, show (-(-(D : Int) + e)).toNat = D - e by omega, Nat.pow_zero, Nat.mul_one]
      have h5 : 2 ^ D = 2 ^ (D - e) * 2 ^ e := by rw [← Nat.pow_add]; congr 1; omega
      rw [h5, ← Nat.mul_assoc] at h3
      have := Nat.le_of_mul_le_mul_right h3 (Nat.two_pow_pos e)
      rw [Nat.mul_comm] at this
      exact Nat.le_trans this (Nat.le_add_right _ _)
    · rw [show (-(D : Int) + e).toNat = e - D by omega, show (-(-(D : Int) + e)).toNat = 0 by omega]
      have h5 : 2 ^ e = 2 ^ (e - D) * 2 ^ D := by rw [← Nat.pow_add]; congr 1; omega
      rw [h5, ← Nat.mul_assoc] at h3
      have := Nat.le_of_mul_le_mul_right h3 (Nat.two_pow_pos D)
      simp only [Nat.pow_zero, Nat.one_mul]
      omega
  have hi : ∃ v : Int, (Datum.number (sgn .f64 y) m (-(D : Int) + e)).toInt .zero = some v ∧ -1048576 ≤ v ∧ v ≤ 1048576 := by
    unfold Datum.toInt Datum.integral
    dsimp only
    generalize Toward.zero.cut (sgn .f64 y) (m <<< (-(D : Int) + e).toNat) (-(-(D : Int) + e)).toNat = c at *
    refine ⟨_, rfl, ?_, ?_⟩ <;> (unfold signed; rw [Nat.shiftLeft_zero]; split <;> omega)
  obtain ⟨v, hv, v1, v2⟩ := hi
  refine ⟨v, ?_⟩
  unfold floatToIntVal
  rw [hd, hv]
  dsimp only
  have r1 : IntKind.i64.min ≤ v := by show (-9223372036854775808 : Int) ≤ v; omega
  have r2 : v ≤ IntKind.i64.max := by show v ≤ (9223372036854775807 : Int); omega
  rw [if_pos ⟨r1, r2⟩]
theorem sgn_word0 (k : FloatKind) {r : Nat} (h : r ≤ k.format.infRung) : sgn k (k.format.word false r) = false := by
  have h1 := k.format.infRung_lt
  have e : k.format.word false r = r := by unfold Format.word; simp
  rw [e]
  unfold sgn
  rw [Nat.div_eq_of_lt (by omega)]
  rfl

theorem sgn_wordR (k : FloatKind) (s : Bool) {r : Nat} (h : r ≤ k.format.infRung) : sgn k (k.format.word s r) = s := by
  have h1 := k.format.infRung_lt
  have h0 := sw_pos k
  cases s
  · exact sgn_word0 k h
  · have e : k.format.word true r = k.format.signWeight + r := by unfold Format.word; simp
    rw [e]
    unfold sgn
    rw [Nat.add_div_left _ h0, Nat.div_eq_of_lt (by omega)]
    rfl
theorem sgn_nearR (k : FloatKind) (s : Bool) (mag : Nat) (place : Int) : sgn k (k.format.nearest s mag place) = s := by
  unfold Format.nearest
  dsimp only
  split
  · exact sgn_wordR k s (Nat.zero_le _)
  · exact sgn_wordR k s (Nat.min_le_right ..)
theorem rne_fin {x : Nat} (h : rung .f64 x < FloatKind.f64.format.infRung) (D : Nat) (hD : FloatKind.f64.format.leastPlace = -(D : Int)) : ∃ m e : Nat, zv .f64 (rung .f64 x) = m * 2 ^ e ∧
    rneW x = FloatKind.f64.format.nearest (sgn .f64 x) (Toward.even.cut (sgn .f64 x) (m * 2 ^ (e - D)) (D - e)) 0 := by
  obtain ⟨m, e, hr, hz⟩ := read_fin .f64 h
  refine ⟨m, e, hz, ?_⟩
  have hd : FloatKind.f64.decode x = .number (sgn .f64 x) m (-(D : Int) + e) := by rw [← hD]; exact hr
  unfold rneW
  rw [hd]
  dsimp only
  show FloatKind.f64.format.nearest _ _ _ = _
  rw [Nat.shiftLeft_eq, show (-(D : Int) + e).toNat = e - D by omega, show (-(-(D : Int) + e)).toNat = D - e by omega]
theorem rne_inf {x : Nat} (h : rung .f64 x = FloatKind.f64.format.infRung) : rneW x = FloatKind.f64.format.word (sgn .f64 x) FloatKind.f64.format.infRung := by
  have hd : FloatKind.f64.decode x = .infinity (sgn .f64 x) := read_inf .f64 h
  unfold rneW
  rw [hd]
  rfl
/-- c stands for the whole number C -/
def Whl (c C : Nat) : Prop := rung .f64 c = rung .f64 (FloatKind.f64.format.nearest false C 0) ∧ zv .f64 (rung .f64 c) = C * 2 ^ 1074
theorem rne_ge {x c C : Nat} (hx : rung .f64 x ≤ FloatKind.f64.format.infRung) (hc : Whl c C) (h : rung .f64 c ≤ rung .f64 x) : rung .f64 c ≤ rung .f64 (rneW x) := by
  obtain ⟨D, hD⟩ : ∃ D : Nat, D = 1074 := ⟨_, rfl⟩
  obtain ⟨hc1, hc2⟩ := hc
  rw [← hD] at hc2
  have h2 : FloatKind.f64.format.leastPlace = -(D : Int) := by rw [hD]; decide
  clear hD
  rcases Nat.lt_or_eq_of_le hx with h1 | h1
  · obtain ⟨m, e, hz, hr⟩ := rne_fin h1 D h2
    have h3 : C * 2 ^ D ≤ m * 2 ^ e := by rw [← hz, ← hc2]; exact (zv_le .f64).2 h
    rw [hr, hc1]
    refine nearest_mono .f64 _ _ (b := FloatKind.f64.format.leastPlace) (by have := lp_neg .f64; omega) (by have := lp_neg .f64; omega) (Int.le_refl _) (Nat.mul_le_mul_right _ ?_)
    have h4 := cut_mono false (sgn .f64 x) (n := C) (d := 0) (n' := m * 2 ^ (e - D)) (d' := D - e) (by
      rw [Nat.pow_zero, Nat.mul_one]
      rcases Nat.le_total e D with h4 | h4
      · rw [show e - D = 0 by omega, Nat.pow_zero, Nat.mul_one]
        have h5 : 2 ^ D = 2 ^ (D - e) * 2 ^ e := by rw [← Nat.pow_add]; congr 1; omega
        rw [h5, ← Nat.mul_assoc] at h3
        exact Nat.le_of_mul_le_mul_right h3 (Nat.two_pow_pos e)
      · rw [show D - e = 0 by omega, Nat.pow_zero, Nat.mul_one]
        have h5 : 2 ^ e = 2 ^ (e - D) * 2 ^ D := by rw [← Nat.pow_add]; congr 1; omega
        rw [h5, ← Nat.mul_assoc] at h3
        exact Nat.le_of_mul_le_mul_right h3 (Nat.two_pow_pos D))
    rw [cut_zero] at h4
    exact h4
  · rw [rne_inf h1]
    have h5 : rung .f64 (FloatKind.f64.format.word (sgn .f64 x) FloatKind.f64.format.infRung) = FloatKind.f64.format.infRung := by unfold rung; rw [word_rung_mod _ _ (Nat.le_refl _)]
    omega
theorem rne_le {x c C : Nat} (hx : rung .f64 x ≤ FloatKind.f64.format.infRung) (hc : Whl c C) (hcf : rung .f64 c < FloatKind.f64.format.infRung) (h : rung .f64 x ≤ rung .f64 c) : rung .f64 (rneW x) ≤ rung .f64 c := by
  obtain ⟨D, hD⟩ : ∃ D : Nat, D = 1074 := ⟨_, rfl⟩
  obtain ⟨hc1, hc2⟩ := hc
  rw [← hD] at hc2
  have h2 : FloatKind.f64.format.leastPlace = -(D : Int) := by rw [hD]; decide
  clear hD
  have h1 : rung .f64 x < FloatKind.f64.format.infRung := by omega
  obtain ⟨m, e, hz, hr⟩ := rne_fin h1 D h2
  have h3 : m * 2 ^ e ≤ C * 2 ^ D := by rw [← hz, ← hc2]; exact (zv_le .f64).2 h
  rw [hr, hc1]
  refine nearest_mono .f64 _ _ (b := FloatKind.f64.format.leastPlace) (by have := lp_neg .f64; omega) (by have := lp_neg .f64; omega) (Int.le_refl _) (Nat.mul_le_mul_right _ ?_)
  have h4 := cut_mono (sgn .f64 x) false (n := m * 2 ^ (e - D)) (d := D - e) (n' := C) (d' := 0) (by
    rw [Nat.pow_zero, Nat.mul_one]
    rcases Nat.le_total e D with h4 | h4
    · rw [show e - D = 0 by omega, Nat.pow_zero, Nat.mul_one]
      have h5 : 2 ^ D = 2 ^ (D - e) * 2 ^ e := by rw [← Nat.pow_add]; congr 1; omega
      rw [h5, ← Nat.mul_assoc] at h3
      exact Nat.le_of_mul_le_mul_right h3 (Nat.two_pow_pos e)
    · rw [show D - e = 0 by omega, Nat.pow_zero, Nat.mul_one]
      have h5 : 2 ^ e = 2 ^ (e - D) * 2 ^ D := by rw [← Nat.pow_add]; congr 1; omega
      rw [h5, ← Nat.mul_assoc] at h3
      exact Nat.le_of_mul_le_mul_right h3 (Nat.two_pow_pos D))
  rw [cut_zero] at h4
  exact h4
theorem rne_sgn {x : Nat} (hx : rung .f64 x ≤ FloatKind.f64.format.infRung) : sgn .f64 (rneW x) = sgn .f64 x := by
  rcases Nat.lt_or_eq_of_le hx with h1 | h1
  · obtain ⟨m, e, hz, hr⟩ := rne_fin h1 1074 (by decide)
    rw [hr]; exact sgn_nearR _ _ _ _
  · rw [rne_inf h1]; exact sgn_wordR _ _ (Nat.le_refl _)
theorem rne_fits {x : Nat} (hx : rung .f64 x ≤ FloatKind.f64.format.infRung) : rung .f64 (rneW x) ≤ FloatKind.f64.format.infRung ∧ rneW x < 2 ^ 64 := by
  rcases Nat.lt_or_eq_of_le hx with h1 | h1
  · obtain ⟨m, e, hz, hr⟩ := rne_fin h1 1074 (by decide)
    rw [hr]
    exact ⟨nearest_fin _ _ _ _, (fv_write .f64 (d := .number (sgn .f64 x) _ 0) rfl).1⟩
  · rw [rne_inf h1]
    refine ⟨?_, (fv_write .f64 (d := .infinity (sgn .f64 x)) rfl).1⟩
    unfold rung; rw [word_rung_mod _ _ (Nat.le_refl _)]; exact Nat.le_refl _
theorem ab_of_rung {x : Nat} (h : rung .f64 x ≤ FloatKind.f64.format.infRung) : ab .f64 x = some x := by
  unfold ab rung at *
  rw [if_neg (by omega)]
end Fl
end Go.Proofs.Ytecgipilamefmaa

/- Lists of int64 as a law holds them: copied, compared, marked. -/
set_option linter.unusedVariables false
set_option linter.unusedSimpArgs false
namespace Go.Proofs.Ytecgipilamefmaa
namespace Fl
def wi (xs : List Int) (j : Nat) : Int := xs.getD j 0
def iv (xs : List Int) (j : Nat) : Value := .int .i64 (wi xs j)
def mki (k n : Nat) : List Int := (List.range n).map fun j => ((k + j : Nat) : Int)
theorem mki_wi {k n j : Nat} (h : j < n) : wi (mki k n) j = ((k + j : Nat) : Int) := by unfold wi mki; simp [h]
theorem mki_len (k n : Nat) : (mki k n).length = n := by unfold mki; simp
def Is (w : World) (B : Nat) (A : Option Addr) (n : Nat) (xs : List Int) : Prop :=
  xs.length = n ∧ (0 < n → ∃ g off, A = some ⟨g, off, none⟩ ∧ g < B ∧ ∀ k, k < n → w.cell? ⟨g, off + k, none⟩ = some (iv xs k))

theorem Is.keep {w w' : World} {B : Nat} {A : Option Addr} {n : Nat} {xs : List Int} (h : Is w B A n xs) (hk : ∀ g o, g < B → w'.cell? ⟨g, o, none⟩ = w.cell? ⟨g, o, none⟩) : Is w' B A n xs :=
  ⟨h.1, fun hn => by
    obtain ⟨g, off, e, hg, hc⟩ := h.2 hn
    exact ⟨g, off, e, hg, fun k hk' => (hk g _ hg).trans (hc k hk')⟩⟩
theorem Is.more {w : World} {B B' : Nat} {A : Option Addr} {n : Nat} {xs : List Int} (h : Is w B A n xs) (hB : B ≤ B') : Is w B' A n xs :=
  ⟨h.1, fun hn => by
    obtain ⟨g, off, e, hg, hc⟩ := h.2 hn
    exact ⟨g, off, e, by omega, hc⟩⟩
theorem Is.since {w w' : World} {B : Nat} {A : Option Addr} {n : Nat} {xs : List Int} (h : Is w B A n xs) (hs : w.Since B w') : Is w' B A n xs :=
  h.keep fun g o hg => hs.cell (a := ⟨g, o, none⟩) hg
theorem Is.drewN {w : World} {B : Nat} {A : Option Addr} {n : Nat} {xs : List Int} (h : Is w B A n xs) (k : Nat) : Is (w.drewN k) B A n xs := h
theorem Is.now {w w1 : World} {A : Option Addr} {n : Nat} {xs : List Int} (h : Is w w.heap.size A n xs) (s : w.Since w.heap.size w1) : Is w1 w1.heap.size A n xs := (h.since s).more s.size
theorem Is.of_row {w : World} {g : Nat} {t : TypeId} {n : Nat} {xs : List Int} {B : Nat} (h : w.rowIs g t n (iv xs)) (hl : xs.length = n) (hg : g < B) : Is w B (some ⟨g, 0, none⟩) n xs :=
  ⟨hl, fun _ => ⟨g, 0, rfl, hg, fun k hk => by rw [Nat.zero_add]; exact h.cell hk⟩⟩

def IGs (T : TypeId) (w : World) (lo : Nat) (A : Option Addr) (n : Nat) (xs : List Int) : Prop :=
  xs.length = n ∧ (0 < n → ∃ g cs, A = some ⟨g, 0, none⟩ ∧ lo ≤ g ∧ w.heap[g]? = some (.cells cs T (0, 0)) ∧ ∀ k, k < n → cs[k]? = some (iv xs k))
section
variable {T : TypeId} {w w' : World} {lo n : Nat} {A : Option Addr} {xs : List Int}
theorem IGs.read (h : IGs T w lo A n xs) : Is w w.heap.size A n xs :=
  ⟨h.1, fun hn => by
    obtain ⟨g, cs, e, hg, hb, hc⟩ := h.2 hn
    refine ⟨g, 0, e, (Array.getElem?_eq_some_iff.1 hb).1, fun k hk => ?_⟩
    simp only [World.cell?, hb, Nat.zero_add]
    simpa using hc k hk⟩
theorem IGs.since (h : IGs T w lo A n xs) (hs : w.Since w.heap.size w') : IGs T w' lo A n xs :=
  ⟨h.1, fun hn => by
    obtain ⟨g, cs, e, hg, hb, hc⟩ := h.2 hn
    exact ⟨g, cs, e, hg, (hs.block g (Array.getElem?_eq_some_iff.1 hb).1).trans hb, hc⟩⟩
theorem IGs.drewN (h : IGs T w lo A n xs) (k : Nat) : IGs T (w.drewN k) lo A n xs := h
theorem IGs.less (h : IGs T w lo A n xs) {l : Nat} (hl : l ≤ lo) : IGs T w l A n xs :=
  ⟨h.1, fun hn => by
    obtain ⟨g, cs, e, hg, hb, hc⟩ := h.2 hn
    exact ⟨g, cs, e, by omega, hb, hc⟩⟩
theorem IGs.of_row {g : Nat} (h : w.rowIs g T n (iv xs)) (hl : xs.length = n) (hg : lo ≤ g) : IGs T w lo (some ⟨g, 0, none⟩) n xs :=
  ⟨hl, fun _ => by
    obtain ⟨cs, hb, _, hc⟩ := h
    exact ⟨g, cs, rfl, hg, hb, hc⟩⟩
theorem IGs.nil_ : IGs T w lo none 0 [] := ⟨rfl, (fun h => by omega)⟩
end
end Fl
open Fl Go.RowKit
theorem Try.infoI : (Try.prog.info? 2).map (fun i => (i.zero, i.size, i.bytes)) = some (some (.int .i64 0), 1, 8) := by kernel_rfl

def ipart (xs : List Int) (k j : Nat) : Value := if j < k then iv xs j else .int .i64 0

def imarked (k : Nat) (xs : List Int) (i j : Nat) : Value := if j < i then .int .i64 ((k + j : Nat) : Int) else iv xs j

end Go.Proofs.Ytecgipilamefmaa

/- Lists of any one-cell kind that a law holds, apart from one another. -/
set_option linter.unusedVariables false
set_option linter.unusedSimpArgs false
namespace Go.Proofs.Ytecgipilamefmaa
namespace Fl
/-- a list: its elements' type, where it lies, how many cells, its cells -/
structure Lx where
  T : TypeId
  A : Option Addr
  n : Nat
  f : Nat → Value
  ok : Prop
/-- it lies in a block of the law's own, from lo on -/
def Gx (w : World) (lo : Nat) (p : Lx) : Prop := p.ok ∧ (0 < p.n → ∃ g cs, p.A = some ⟨g, 0, none⟩ ∧ lo ≤ g ∧ w.heap[g]? = some (.cells cs p.T (0, 0)) ∧ ∀ k, k < p.n → cs[k]? = some (p.f k))
theorem Gx.since {w w' : World} {lo : Nat} {p : Lx} (h : Gx w lo p) (hs : w.Since w.heap.size w') : Gx w' lo p := ⟨h.1, fun hn => by
  obtain ⟨g, cs, e, hg, hb, hc⟩ := h.2 hn
  exact ⟨g, cs, e, hg, (hs.block g (Array.getElem?_eq_some_iff.1 hb).1).trans hb, hc⟩⟩
theorem Gx.less {w : World} {lo l : Nat} {p : Lx} (h : Gx w lo p) (hl : l ≤ lo) : Gx w l p := ⟨h.1, fun hn => by
  obtain ⟨g, cs, e, hg, hb, hc⟩ := h.2 hn
  exact ⟨g, cs, e, by omega, hb, hc⟩⟩
theorem Gx.block {w : World} {lo : Nat} {p : Lx} (h : Gx w lo p) (hn : 0 < p.n) : ∃ g, p.A = some ⟨g, 0, none⟩ ∧ lo ≤ g ∧ g < w.heap.size := by
  obtain ⟨g, cs, e, hg, hb, _⟩ := h.2 hn
  exact ⟨g, e, hg, (Array.getElem?_eq_some_iff.1 hb).1⟩
/-- lists of floats, of integers -/
def fx (A : Option Addr) (n : Nat) (xs : List Nat) : Lx := ⟨22, A, n, fv xs, xs.length = n ∧ Small xs⟩
def ix64 (A : Option Addr) (n : Nat) (xs : List Int) : Lx := ⟨2, A, n, iv xs, xs.length = n⟩
theorem Gs.toX {w : World} {lo n : Nat} {A : Option Addr} {xs : List Nat} (h : Gs 22 w lo A n xs) : Gx w lo (fx A n xs) := ⟨⟨h.1, h.2.1⟩, h.2.2⟩
theorem Gx.toF {w : World} {lo n : Nat} {A : Option Addr} {xs : List Nat} (h : Gx w lo (fx A n xs)) : Gs 22 w lo A n xs := ⟨h.1.1, h.1.2, h.2⟩
theorem IGs.toX {w : World} {lo n : Nat} {A : Option Addr} {xs : List Int} (h : IGs 2 w lo A n xs) : Gx w lo (ix64 A n xs) := h
theorem Gx.toI {w : World} {lo n : Nat} {A : Option Addr} {xs : List Int} (h : Gx w lo (ix64 A n xs)) : IGs 2 w lo A n xs := h
/-- two lists with something in them lie in two blocks -/
def Dx (p q : Lx) : Prop := 0 < p.n → 0 < q.n → ∀ g o s o' s', p.A = some ⟨g, o, s⟩ → q.A = some ⟨g, o', s'⟩ → False
theorem Dx.symm {p q : Lx} (h : Dx p q) : Dx q p := fun a b g o s o' s' e e' => h b a g o' s' o s e' e
def Hx (B : Nat) (v : World) : List Lx → Prop
  | [] => True
  | p :: r => (Gx v B p ∧ ∀ q ∈ r, Dx p q) ∧ Hx B v r
section
variable {B : Nat} {v v' : World} {p q : Lx} {r : List Lx}
theorem Hx.at_ : ∀ {r : List Lx} (h : Hx B v r) {p : Lx}, p ∈ r → Gx v B p
  | _ :: _, h, _, .head _ => h.1.1
  | _ :: _, h, _, .tail _ hp => Hx.at_ h.2 hp
theorem Hx.since : ∀ {r : List Lx} (h : Hx B v r) (hs : v.Since v.heap.size v'), Hx B v' r
  | [], _, _ => trivial
  | _ :: _, h, hs => ⟨⟨h.1.1.since hs, h.1.2⟩, Hx.since h.2 hs⟩
theorem Hx.new (h : Hx B v r) (hs : v.Since v.heap.size v') (g : Gx v' v.heap.size p) (hB : B ≤ v.heap.size) : Hx B v' (p :: r) :=
  ⟨⟨g.less hB, fun q hq a b c o s o' s' e e' => by
    obtain ⟨g1, e1, h1, h2⟩ := g.block a
    obtain ⟨g2, e2, h3, h4⟩ := (h.at_ hq).block b
    rw [e1] at e; rw [e2] at e'
    injection e with e; injection e with e _ _
    injection e' with e'; injection e' with e' _ _
    omega⟩, h.since hs⟩
theorem Hx.new2 (h : Hx B v r) (hs : v.Since v.heap.size v') (g : Gx v' v.heap.size p) (k : Gx v' v.heap.size q) (hd : Dx p q) (hB : B ≤ v.heap.size) : Hx B v' (p :: q :: r) := by
  have h1 := h.new hs g hB
  have h2 := h.new hs k hB
  refine ⟨⟨h1.1.1, fun s hs => ?_⟩, h2⟩
  rcases List.mem_cons.1 hs with rfl | hs
  · exact hd
  · exact h1.1.2 s hs
/-- what a mark leaves: this list's cells, all else as it was -/
theorem Hx.mark_hd {p' : Lx} (h : Hx B v (p :: r)) (g : Gx v' B p') (hA : p'.A = p.A) (hN : p'.n = p.n) (ho : ∀ g, (0 < p.n → ∀ g', p.A = some ⟨g', 0, none⟩ → g ≠ g') → v'.heap[g]? = v.heap[g]?) : Hx B v' (p' :: r) := by
  refine ⟨⟨g, fun q hq a b g o s o' s' e e' => h.1.2 q hq (hN ▸ a) b g o s o' s' (hA ▸ e) e'⟩, ?_⟩
  have hd := h.1.2
  have ht := h.2
  clear h
  induction r with
  | nil => trivial
  | cons q r ih =>
    refine ⟨⟨?_, ht.1.2⟩, ih (fun q' hq' => hd q' (.tail _ hq')) ht.2⟩
    have hq := ht.1.1
    refine ⟨hq.1, fun hn => ?_⟩
    obtain ⟨b, cs, e, hb, hh, hc⟩ := hq.2 hn
    refine ⟨b, cs, e, hb, (ho b fun hp g' e' he => ?_).trans hh, hc⟩
    subst he
    exact hd q (.head _) hp hn b 0 none 0 none e' e
theorem Hx.swap (h : Hx B v (p :: q :: r)) : Hx B v (q :: p :: r) := by
  obtain ⟨⟨h1, h2⟩, ⟨h3, h4⟩, h5⟩ := h
  refine ⟨⟨h3, fun s hs => ?_⟩, ⟨h1, fun s hs => h2 s (.tail _ hs)⟩, h5⟩
  rcases List.mem_cons.1 hs with rfl | hs
  · exact (h2 q (.head _)).symm
  · exact h4 s hs
theorem Hx.front {l : List Lx} : ∀ (k : List Lx), Hx B v (k ++ p :: l) → Hx B v (p :: (k ++ l))
  | [], h => h
  | q :: k, h => by
    have h2 : Hx B v (p :: (k ++ l)) := Hx.front k h.2
    have h3 : Hx B v (q :: p :: (k ++ l)) := ⟨⟨h.1.1, fun s hs => h.1.2 s (by
      rcases List.mem_cons.1 hs with rfl | hs
      · simp
      · rcases List.mem_append.1 hs with h4 | h4
        · simp [h4]
        · simp [h4])⟩, h2⟩
    exact h3.swap
end
end Fl
open Fl Go.RowKit
end Go.Proofs.Ytecgipilamefmaa

/- Dynamics: levels, the program's. -/
set_option linter.unusedVariables false
set_option linter.unusedSimpArgs false
namespace Go.Proofs.Ytecgipilamefmaa
open Fl Go.RowKit
end Go.Proofs.Ytecgipilamefmaa

/- Lists of any kind that a law holds: compared and held; structs in boxes of a law. -/
set_option linter.unusedVariables false
set_option linter.unusedSimpArgs false
namespace Go.Proofs.Ytecgipilamefmaa
open Fl Go.RowKit
theorem Fl.Gx.readF {w : World} {lo n : Nat} {A : Option Addr} {xs : List Nat} (h : Gx w lo (fx A n xs)) : Fs w w.heap.size A n xs := h.toF.read
/-- a struct of floats in a box of its own -/
def bx (T : TypeId) (g : Nat) (xs : List Nat) : Lx := ⟨T, some ⟨g, 0, none⟩, xs.length, fv xs, True⟩
theorem Fl.Gx.box {w : World} {T : TypeId} {lo g : Nat} {xs : List Nat} (h : Gx w lo (bx T g xs)) (i : Nat) (hi : i < xs.length) : w.cell? ⟨g, i, none⟩ = some (.float .f32 (wd xs i)) := by
  obtain ⟨g', cs, e, hg, hb, hc⟩ := h.2 (by show 0 < xs.length; omega)
  injection e with e; injection e with e _ _; subst e
  have h1 := hc i hi
  simp only [World.cell?, hb]
  simpa [bx, fv] using h1
theorem cells3 {w : World} {T : TypeId} {g : Nat} {x y z a r l : Value} (h : w.heap[g]? = some (.cells #[x, y, z] T (0, 0))) : (((w.setCell ⟨g, 0, none⟩ a).setCell ⟨g, 1, none⟩ r).setCell ⟨g, 2, none⟩ l).heap[g]? = some (.cells #[a, r, l] T (0, 0)) := by
  simp [World.setCell, Array.getElem?_modify, h]
theorem cells5 {w : World} {T : TypeId} {g : Nat} {x0 x1 x2 x3 x4 a b c d e : Value} (h : w.heap[g]? = some (.cells #[x0, x1, x2, x3, x4] T (0, 0))) : (((((w.setCell ⟨g, 0, none⟩ a).setCell ⟨g, 1, none⟩ b).setCell ⟨g, 2, none⟩ c).setCell ⟨g, 3, none⟩ d).setCell ⟨g, 4, none⟩ e).heap[g]? = some (.cells #[a, b, c, d, e] T (0, 0)) := by
  simp [World.setCell, Array.getElem?_modify, h]
/-- a box made and filled with three floats -/
theorem box3 (v : World) (T : TypeId) (a b c : Nat) (z : Value) : ∃ V, V = (((v.alloc (.cells #[z, z, z] T)).setCell ⟨v.heap.size, 0, none⟩ (.float .f32 a)).setCell ⟨v.heap.size, 1, none⟩ (.float .f32 b)).setCell ⟨v.heap.size, 2, none⟩ (.float .f32 c) ∧ v.Since v.heap.size V ∧ Gx V v.heap.size (bx T v.heap.size [a, b, c]) := by
  refine ⟨_, rfl, ((((World.Since.refl _ _).alloc (Nat.le_refl _) _).setCell (Nat.le_refl _) _).setCell (Nat.le_refl _) _).setCell (Nat.le_refl _) _, trivial, fun _ => ⟨v.heap.size, #[.float .f32 a, .float .f32 b, .float .f32 c], rfl, Nat.le_refl _, ?_, fun k hk => ?_⟩⟩
  · exact cells3 (Go.Deep.blk_alloc_new v (.cells #[z, z, z] T))
  · simp only [bx, List.length_cons, List.length_nil] at hk
    match k, hk with
    | 0, _ => rfl
    | 1, _ => rfl
    | 2, _ => rfl
theorem box5 (v : World) (T : TypeId) (a b c d e : Nat) (z : Value) : ∃ V, V = (((((v.alloc (.cells #[z, z, z, z, z] T)).setCell ⟨v.heap.size, 0, none⟩ (.float .f32 a)).setCell ⟨v.heap.size, 1, none⟩ (.float .f32 b)).setCell ⟨v.heap.size, 2, none⟩ (.float .f32 c)).setCell ⟨v.heap.size, 3, none⟩ (.float .f32 d)).setCell ⟨v.heap.size, 4, none⟩ (.float .f32 e) ∧ v.Since v.heap.size V ∧ Gx V v.heap.size (bx T v.heap.size [a, b, c, d, e]) := by
  refine ⟨_, rfl, ((((((World.Since.refl _ _).alloc (Nat.le_refl _) _).setCell (Nat.le_refl _) _).setCell (Nat.le_refl _) _).setCell (Nat.le_refl _) _).setCell (Nat.le_refl _) _).setCell (Nat.le_refl _) _, trivial, fun _ => ⟨v.heap.size, #[.float .f32 a, .float .f32 b, .float .f32 c, .float .f32 d, .float .f32 e], rfl, Nat.le_refl _, ?_, fun k hk => ?_⟩⟩
  · exact cells5 (Go.Deep.blk_alloc_new v (.cells #[z, z, z, z, z] T))
  · simp only [bx, List.length_cons, List.length_nil] at hk
    match k, hk with
    | 0, _ => rfl
    | 1, _ => rfl
    | 2, _ => rfl
    | 3, _ => rfl
    | 4, _ => rfl
/-- a box made with its floats in it -/
theorem boxa (v : World) (T : TypeId) (xs : List Nat) : ∃ V, V = v.alloc (.cells (xs.map fun x => Value.float .f32 x).toArray T) ∧ v.Since v.heap.size V ∧ Gx V v.heap.size (bx T v.heap.size xs) :=
  ⟨_, rfl, (World.Since.refl _ _).alloc (Nat.le_refl _) _, trivial, fun _ => ⟨v.heap.size, _, rfl, Nat.le_refl _, Go.Deep.blk_alloc_new _ _, fun k hk => by
    simp only [bx] at hk ⊢
    unfold fv wd
    simp [hk]⟩⟩
/-! followers as a law holds them -/
def zFol : Fol := ⟨some 0, some 0, some 0⟩
theorem PLFB.none_ {w w' : World} (s : w.Since w.heap.size w') (f0 : Nat → Option Nat) : PLFB 0 f0 zFol false w (.returned (.tuple #[.slice none 0 0, .agg #[.float .f32 0, .float .f32 0, .float .f32 0], .bool false])) w' :=
  ⟨⟨none, 0, []⟩, 0, ⟨0, 0, 0⟩, rfl, rfl, Gs.nil_, (fun k hk => by simp at hk), ⟨fv0, fv0, fv0⟩, s⟩
end Go.Proofs.Ytecgipilamefmaa

/- Lists of int64 that functions give: contracts, looked at, held; rows of integers that a loop appends to. -/
set_option linter.unusedVariables false
set_option linter.unusedSimpArgs false
namespace Go.Proofs.Ytecgipilamefmaa
open Fl Go.RowKit
namespace Fl
/-- a list of integers: where it lies, how long, its numbers -/
structure Li where
  A : Option Addr
  n : Nat
  xs : List Int
end Fl
theorem Fl.Gx.readI {w : World} {lo n : Nat} {A : Option Addr} {xs : List Int} (h : Gx w lo (ix64 A n xs)) : Is w w.heap.size A n xs := h.toI.read
def PJB (n0 : Nat) (f0 : List Int) (b : Bool) (w : World) (e : Ending) (w' : World) : Prop :=
  ∃ (p : Li) (c : Nat), e = .returned (.tuple #[.slice p.A p.n c, .bool b]) ∧ p.n = n0 ∧ IGs 2 w' w.heap.size p.A p.n p.xs ∧ p.xs = f0 ∧ w.Since w.heap.size w'
theorem PJB.none_ {w w' : World} (s : w.Since w.heap.size w') : PJB 0 [] false w (.returned (.tuple #[.slice none 0 0, .bool false])) w' :=
  ⟨⟨none, 0, []⟩, 0, rfl, rfl, IGs.nil_, rfl, s⟩
def PJVB (n0 : Nat) (f0 : List Int) (o : O) (b : Bool) (w : World) (e : Ending) (w' : World) : Prop :=
  ∃ (p : Li) (c r : Nat), e = .returned (.tuple #[.slice p.A p.n c, .float .f32 r, .bool b]) ∧ p.n = n0 ∧ IGs 2 w' w.heap.size p.A p.n p.xs ∧ p.xs = f0 ∧ Hid (Fv .f32 r o) ∧ w.Since w.heap.size w'
/-! rows of integers that a loop appends to -/
namespace Fl
def ivl (os : List Int) : List Value := os.map fun x => Value.int .i64 x
theorem ivl_snoc (xs : List Int) (x : Int) : ivl xs ++ [Value.int .i64 x] = ivl (xs ++ [x]) := by unfold ivl; simp
theorem IGs.of_own {w : World} {lo n c : Nat} {A : Option Addr} {xs : List Int} (h : w.ownsRow lo 2 1 (.slice A n c) n (ivl xs)) : IGs 2 w lo A n xs := by
  have hl : xs.length = n := by simpa [ivl] using h.1
  refine ⟨hl, fun hn => ?_⟩
  rcases h.2 with ⟨hv, h0⟩ | ⟨g, cap, cur, hv, hg, hb, hnc, _, hsz, htk⟩
  · omega
  · injection hv with h1 _ _
    subst h1
    refine ⟨g, cur, rfl, hg, hb, fun k hk => ?_⟩
    have e1 : (cur.toList.take (n * 1))[k]? = (ivl xs)[k]? := by rw [htk]
    rw [List.getElem?_take_of_lt (by omega)] at e1
    rw [Array.getElem?_toList] at e1
    rw [e1]
    unfold ivl iv wi
    simp [List.getD_eq_getElem?_getD, List.getElem?_eq_getElem (show k < xs.length by omega)]
end Fl
/-- v is a row of the loop's own, from block lo on, whose numbers are these -/
def RwI (lo : Nat) (w : World) (v : Value) (os : List Int) : Prop := w.ownsRow lo 2 1 v os.length (ivl os)
theorem RwI.start (w : World) (lo : Nat) (h : lo ≤ w.heap.size) : RwI lo (w.alloc (.cells #[] 2)) (.slice (some ⟨w.heap.size, 0, none⟩) 0 0) [] :=
  ⟨rfl, .inr ⟨w.heap.size, 0, #[], rfl, h, Go.Deep.blk_alloc_new _ _, Nat.le_refl _, Nat.zero_le _, rfl, rfl⟩⟩
theorem RwI.keep {lo : Nat} {w w' : World} {v : Value} {os : List Int} (h : RwI lo w v os) (e : ∀ b, lo ≤ b → b < w.heap.size → w'.heap[b]? = w.heap[b]?) : RwI lo w' v os := by
  obtain ⟨h1, h2⟩ := h
  refine ⟨h1, ?_⟩
  rcases h2 with h2 | ⟨g, cap, cur, e1, h3, h4, r⟩
  · exact .inl h2
  · exact .inr ⟨g, cap, cur, e1, h3, (e g h3 (Array.getElem?_eq_some_iff.1 h4).1).trans h4, r⟩
theorem RwI.since {lo : Nat} {w w' : World} {v : Value} {os : List Int} (h : RwI lo w v os) (s : w.Since w.heap.size w') : RwI lo w' v os := h.keep fun b _ hb => s.block b hb
theorem RwI.drewN {lo : Nat} {w : World} {v : Value} {os : List Int} (h : RwI lo w v os) (n : Nat) : RwI lo (w.drewN n) v os := h
theorem RwI.alloc {lo : Nat} {w : World} {v : Value} {os : List Int} (h : RwI lo w v os) (o : Obj) : RwI lo (w.alloc o) v os := h.since ((World.Since.refl _ _).alloc (Nat.le_refl _) _)
theorem RwI.done {lo : Nat} {w : World} {v : Value} {os : List Int} (h : RwI lo w v os) : ∃ (p : Li) (c : Nat), v = .slice p.A p.n c ∧ p.n = os.length ∧ IGs 2 w lo p.A p.n p.xs ∧ p.xs = os := by
  have hf' : v = .slice none 0 0 ∧ os.length = 0 ∨ ∃ g cap, v = .slice (some ⟨g, 0, none⟩) os.length cap := by
    rcases h.2 with h2 | ⟨g, cap, cur, e, _⟩
    · exact .inl h2
    · exact .inr ⟨g, cap, e⟩
  rcases hf' with ⟨rfl, h0⟩ | ⟨g, cap, rfl⟩
  · obtain rfl : os = [] := List.eq_nil_of_length_eq_zero h0
    exact ⟨⟨none, 0, []⟩, 0, rfl, rfl, IGs.nil_, rfl⟩
  · exact ⟨⟨some ⟨g, 0, none⟩, os.length, os⟩, cap, rfl, rfl, IGs.of_own h, rfl⟩
theorem wpList_app1I {ops : Array Oper} {rest : List Oper} {o : Oper} {a : Act} {Q : Exit → Act → World → Prop} {w : World} (hgd : o.guard = none) (s x : Operand)
    (ho : o.op = .call { callee := .builtin .append, args := #[s, x], argTypes := #[38, 38] }) (lo : Nat) (v : Value) (os : List Int) (hs : a.eval s = v) (b : Nat) (r : Int)
    (hx : a.eval x = .slice (some ⟨b, 0, none⟩) 1 1) (hc : w.cell? ⟨b, 0, none⟩ = some (.int .i64 r)) (hk : os.length < 1048576) (hlo : lo ≤ w.heap.size) (hR : RwI lo w v os)
    (h : ∀ v' w', Hid (RwI lo w' v' (os ++ [r])) → Hid (w.Since lo w') → wpList Try.prog ops Q rest (a.put o.dst v') w') : wpList Try.prog ops Q (o :: rest) a w := by
  have h1 := hR
  obtain ⟨i0, hi, hz0, hz1, hz2⟩ := info_parts Try.infoI
  refine wpList_append_own (P := Try.prog) w hgd s x 38 ho lo 2 i0 (.int .i64 0) 1 8 Try.underlying38 hi hz0 hz1 hz2 rfl (by omega) v os.length (ivl os) hs h1 ⟨b, 0, none⟩ 1 1 [.int .i64 r] hx rfl ?_ ?_ ?_ ?_ hlo ?_
  · intro j u hj
    rcases j with _ | j
    · simp at hj; subst hj; simpa [Addr.add] using hc
    · simp at hj
  · intro u hu; simp at hu; subst hu; rfl
  · unfold maxLen; omega
  · omega
  · intro v' w' hown hg _
    refine h v' w' (Lib.hid ?_) (Lib.hid ⟨hg.os, hg.tape, hg.output, hg.size, fun i hi => ?_⟩)
    · show w'.ownsRow lo 2 1 v' (os ++ [r]).length (ivl (os ++ [r]))
      rw [← ivl_snoc, List.length_append]; exact hown
    · refine hg.block i (by omega) fun e => ?_
      have := own_lo h1 i e.symm
      omega
end Go.Proofs.Ytecgipilamefmaa

/- Rates: factors; samples picked, both. -/
set_option linter.unusedVariables false
set_option linter.unusedSimpArgs false
namespace Go.Proofs.Ytecgipilamefmaa
open Fl Go.RowKit
theorem allowR_any (a b x : Int) (w : World) :
    Calls Try.prog 54 #[.agg #[.int .i64 a, .int .i64 b], .int .i64 x] w fun e w' => e = .returned (.bool (inB x a b)) ∧ w.alloc (.cells #[.int .i64 a, .int .i64 b] 55) = w' := by
  by_cases h : a ≤ x
  all_goals
    go_enter Try.func54, Try.ntmps54
    go_wp2
    go_ret
    exact ⟨ret_bool (by simp [inB]; omega), rfl⟩
theorem allowR (a b x : Int) (bb : Bool) (w : World) (h : inB x a b = bb) :
    Calls Try.prog 54 #[.agg #[.int .i64 a, .int .i64 b], .int .i64 x] w fun e w' => e = .returned (.bool bb) ∧ w.alloc (.cells #[.int .i64 a, .int .i64 b] 55) = w' := by subst h; exact allowR_any a b x w
/-- how many samples are picked, from t on, each f-th -/
def cntP (n f t : Nat) : Nat := (n + f - 1 - t) / f
theorem cntP_lt {n f t k : Nat} (hf : 1 ≤ f) (ht : t < f) : k < cntP n f t ↔ t + k * f < n := by
  unfold cntP
  rw [← Nat.succ_le_iff, Nat.le_div_iff_mul_le (by omega), Nat.succ_mul]
  omega
theorem cntP_le {n f t : Nat} (hf : 1 ≤ f) : cntP n f t ≤ n + f := by
  unfold cntP
  exact Nat.le_trans (Nat.div_le_self _ _) (by omega)
def pickF (xs : List Nat) (f t : Nat) (k : Nat) : O := ab .f32 (wd xs (t + k * f))
def okPick (f t : Int) (n : Nat) : Bool := inB f 1 8 && inB t 0 (f - 1) && decide (n ≤ 256)
theorem okPick_nat {f t : Int} {n : Nat} (h : okPick f t n = true) : ∃ f' t' : Nat, f = f' ∧ t = t' ∧ 1 ≤ f' ∧ f' ≤ 8 ∧ t' < f' ∧ n ≤ 256 := by
  simp only [okPick, inB, Bool.and_eq_true, decide_eq_true_eq] at h
  exact ⟨f.toNat, t.toNat, by omega, by omega, by omega, by omega, by omega, by omega⟩
theorem PL.toB {n0 : Nat} {f0 : Nat → O} {w w' : World} {e : Ending} (h : PL n0 f0 w e w') : ∃ (p : Ls) (c : Nat), e = .returned (.slice p.A p.n c) ∧ Hid (p.n = n0) ∧ Hid (Gs 22 w' w.heap.size p.A p.n p.xs) ∧ Hid (Are p f0) ∧ Hid (w.Since w.heap.size w') := by
  obtain ⟨p, c, h1, h2, h3, h4, h5⟩ := h
  exact ⟨p, c, h1, Lib.hid h2, Lib.hid h3, Lib.hid h4, Lib.hid h5⟩
end Go.Proofs.Ytecgipilamefmaa

/- Bits: the most of bits, a coder, codes that are codes. -/
set_option linter.unusedVariables false
set_option linter.unusedSimpArgs false
namespace Go.Proofs.Ytecgipilamefmaa
open Fl Go.RowKit
def mst (b : Nat) : Nat := 2 ^ (b - 1)
theorem mst_le {b : Nat} (h1 : 2 ≤ b) (h2 : b ≤ 16) : 2 ≤ mst b ∧ mst b ≤ 32768 := by
  obtain rfl | rfl | rfl | rfl | rfl | rfl | rfl | rfl | rfl | rfl | rfl | rfl | rfl | rfl | rfl : b = 2 ∨ b = 3 ∨ b = 4 ∨ b = 5 ∨ b = 6 ∨ b = 7 ∨ b = 8 ∨ b = 9 ∨ b = 10 ∨ b = 11 ∨ b = 12 ∨ b = 13 ∨ b = 14 ∨ b = 15 ∨ b = 16 := by omega
  all_goals (unfold mst; decide)
def codV (m : Nat) : Value := .agg #[.int .i64 (-(m : Int)), .int .i64 ((m : Int) - 1), .float .f32 (floatOfInt .f32 (m : Int))]
def codZ : Value := .agg #[.int .i64 0, .int .i64 0, .float .f32 0]
def PC (v : Value) (b : Bool) (w : World) (e : Ending) (w' : World) : Prop := e = .returned (.tuple #[v, .bool b]) ∧ w.Since w.heap.size w'
end Go.Proofs.Ytecgipilamefmaa

/- The code nearest to a number: the model's and the program's. -/
set_option linter.unusedVariables false
set_option linter.unusedSimpArgs false
namespace Go.Proofs.Ytecgipilamefmaa
open Fl Go.RowKit
/-- what is asked of the greatest and of the least code as 64-bit numbers -/
structure Cst (m : Nat) : Prop where
  wM : Whl (fd ((m : Int) - 1)) (m - 1)
  wL : Whl (fd (-(m : Int))) m
  sM : sgn .f64 (fd ((m : Int) - 1)) = false
  sL : sgn .f64 (fd (-(m : Int))) = true
  pM : 0 < rung .f64 (fd ((m : Int) - 1))
  pL : 0 < rung .f64 (fd (-(m : Int)))
  zM : rung .f64 (fd ((m : Int) - 1)) ≤ 1042 * 4503599627370496
  zL : rung .f64 (fd (-(m : Int))) ≤ 1042 * 4503599627370496
  iM : floatToIntVal .f64 (fd ((m : Int) - 1)) .i64 = some ((m : Int) - 1)
  iL : floatToIntVal .f64 (fd (-(m : Int))) .i64 = some (-(m : Int))
set_option maxRecDepth 10000 in
theorem cst_of {b : Nat} (h1 : 2 ≤ b) (h2 : b ≤ 16) : Cst (mst b) := by
  obtain rfl | rfl | rfl | rfl | rfl | rfl | rfl | rfl | rfl | rfl | rfl | rfl | rfl | rfl | rfl : b = 2 ∨ b = 3 ∨ b = 4 ∨ b = 5 ∨ b = 6 ∨ b = 7 ∨ b = 8 ∨ b = 9 ∨ b = 10 ∨ b = 11 ∨ b = 12 ∨ b = 13 ∨ b = 14 ∨ b = 15 ∨ b = 16 := by omega
  all_goals exact ⟨⟨by decide +kernel, by decide +kernel⟩, ⟨by decide +kernel, by decide +kernel⟩, by decide +kernel, by decide +kernel, by decide +kernel, by decide +kernel, by decide +kernel, by decide +kernel, by decide +kernel, by decide +kernel⟩
def codO (m : Nat) : O → Int
  | none => 0
  | some x => if key .f64 (fd ((m : Int) - 1)) ≤ key .f64 x then (m : Int) - 1 else if key .f64 x ≤ key .f64 (fd (-(m : Int))) then -(m : Int) else (floatToIntVal .f64 (rneW x) .i64).getD 0
theorem key_pos {x : Nat} (h : sgn .f64 x = false) : key .f64 x = (rung .f64 x : Int) := by unfold key; rw [h]; rfl
theorem key_neg {x : Nat} (h : sgn .f64 x = true) : key .f64 x = -(rung .f64 x : Int) := by unfold key; rw [h]; rfl
theorem rne_hi {m x : Nat} (C : Cst m) (hx : rung .f64 x ≤ FloatKind.f64.format.infRung) : (key .f64 (fd ((m : Int) - 1)) ≤ key .f64 x → key .f64 (fd ((m : Int) - 1)) ≤ key .f64 (rneW x)) ∧ (key .f64 x ≤ key .f64 (fd ((m : Int) - 1)) → key .f64 (rneW x) ≤ key .f64 (fd ((m : Int) - 1))) := by
  have h1 := rne_sgn hx
  have p := C.pM
  have hf : rung .f64 (fd ((m : Int) - 1)) < FloatKind.f64.format.infRung := Nat.lt_of_le_of_lt C.zM (by decide)
  have h2 := rne_ge (x := x) hx C.wM
  have h3 := rne_le (x := x) hx C.wM hf
  rw [key_pos C.sM]
  cases hs : sgn .f64 x
  · rw [hs] at h1; rw [key_pos hs, key_pos h1]
    exact ⟨fun h => by have := h2 (by omega); omega, fun h => by have := h3 (by omega); omega⟩
  · rw [hs] at h1; rw [key_neg hs, key_neg h1]
    exact ⟨fun h => by omega, fun h => by omega⟩
theorem rne_lo {m x : Nat} (C : Cst m) (hx : rung .f64 x ≤ FloatKind.f64.format.infRung) : (key .f64 (fd (-(m : Int))) ≤ key .f64 x → key .f64 (fd (-(m : Int))) ≤ key .f64 (rneW x)) ∧ (key .f64 x ≤ key .f64 (fd (-(m : Int))) → key .f64 (rneW x) ≤ key .f64 (fd (-(m : Int)))) := by
  have h1 := rne_sgn hx
  have p := C.pL
  have hf : rung .f64 (fd (-(m : Int))) < FloatKind.f64.format.infRung := Nat.lt_of_le_of_lt C.zL (by decide)
  have h2 := rne_ge (x := x) hx C.wL
  have h3 := rne_le (x := x) hx C.wL hf
  rw [key_neg C.sL]
  cases hs : sgn .f64 x
  · rw [hs] at h1; rw [key_pos hs, key_pos h1]
    exact ⟨fun h => by omega, fun h => by omega⟩
  · rw [hs] at h1; rw [key_neg hs, key_neg h1]
    exact ⟨fun h => by have := h3 (by omega); omega, fun h => by have := h2 (by omega); omega⟩
theorem key_inj {x y : Nat} (hx : x < 2 ^ 64) (hy : y < 2 ^ 64) (h : key .f64 x = key .f64 y) (h0 : rung .f64 y ≠ 0) : x = y := by
  rw [← word_of .f64 (b := x) hx, ← word_of .f64 (b := y) hy]
  cases hs : sgn .f64 x <;> cases ht : sgn .f64 y
  · rw [key_pos hs, key_pos ht] at h; rw [show rung .f64 x = rung .f64 y by omega]
  · rw [key_pos hs, key_neg ht] at h; omega
  · rw [key_neg hs, key_pos ht] at h; omega
  · rw [key_neg hs, key_neg ht] at h; rw [show rung .f64 x = rung .f64 y by omega]
theorem rne_int {m x : Nat} (C : Cst m) (hx : rung .f64 x ≤ FloatKind.f64.format.infRung) (h1 : key .f64 (fd (-(m : Int))) ≤ key .f64 x) (h2 : key .f64 x ≤ key .f64 (fd ((m : Int) - 1))) : floatToIntVal .f64 (rneW x) .i64 = some ((floatToIntVal .f64 (rneW x) .i64).getD 0) := by
  have h3 := (rne_hi C hx).2 h2
  have h4 := (rne_lo C hx).1 h1
  have zM := C.zM; have zL := C.zL
  rw [key_pos C.sM] at h3; rw [key_neg C.sL] at h4
  obtain ⟨v, hv⟩ := toInt_some (y := rneW x) (by
    cases hs : sgn .f64 (rneW x)
    · rw [key_pos hs] at h3; omega
    · rw [key_neg hs] at h4; omega)
  rw [hv]; rfl
theorem fd_fits (c : Int) : ab .f64 (fd c) = some (fd c) ∧ fd c < 2 ^ 64 := ⟨(fv_write .f64 (d := .number (decide (c < 0)) c.natAbs 0) rfl).2, (fv_write .f64 (d := .number (decide (c < 0)) c.natAbs 0) rfl).1⟩
end Go.Proofs.Ytecgipilamefmaa

/- The code nearest to a number: both. -/
set_option linter.unusedVariables false
set_option linter.unusedSimpArgs false
namespace Go.Proofs.Ytecgipilamefmaa
open Fl Go.RowKit
theorem run_rne {P : Program} (x : Nat) (hx : ab .f64 x = some x) (w : World) : (Extern.MathFloor.toIntegral "math.RoundToEven" .even #[.float .f64 x]).run P w = .ok (.float .f64 (rneW x)) w := by
  have hn : (FloatKind.f64.decode x).isNaN = false := by
    have := read_nan (k := .f64) (b := x)
    rw [hx] at this
    exact this
  unfold rneW
  change Sem.run P (match FloatKind.f64.decode x with
    | .nan s t => if FloatKind.f64.format.quiet t = t then pure (Value.float .f64 x) else do
      let kept ← choose (.extern "math.Floor,Ceil,Trunc,RoundToEven.signallingNaN kept" 2)
      pure (Value.float .f64 (if kept == 1 then x else FloatKind.f64.encode (.nan s (FloatKind.f64.format.quiet t))))
    | d => pure (Value.float .f64 (FloatKind.f64.encode (d.integral .even)))) w = _
  cases hd : FloatKind.f64.decode x with
  | nan s t => rw [hd] at hn; cases hn
  | number s m e => rfl
  | infinity s => rfl
theorem codO_some (m x : Nat) : codO m (some x) = if key .f64 (fd ((m : Int) - 1)) ≤ key .f64 x then (m : Int) - 1 else if key .f64 x ≤ key .f64 (fd (-(m : Int))) then -(m : Int) else (floatToIntVal .f64 (rneW x) .i64).getD 0 := rfl
theorem callRne (x : Nat) (hx : ab .f64 x = some x) (w : World) : (callFunc 43 #[.float .f64 x]).run Try.prog w = .ok (.value (.float .f64 (rneW x))) w := by
  rw [run_callFunc_extern (P := Try.prog) (fn := Try.f43) (e := Extern.MathFloor.toIntegral "math.RoundToEven" .even) (by kernel_rfl) (by kernel_rfl) (by kernel_rfl) (by kernel_rfl) (by kernel_rfl), run_rne x hx]
  rfl
theorem ord_of {x c : Nat} (hx : ab .f64 x = some x) (hc : ab .f64 c = some c) : (key .f64 x < key .f64 c ∧ FloatKind.f64.format.order x c = some .lt) ∨ (key .f64 x = key .f64 c ∧ FloatKind.f64.format.order x c = some .eq) ∨ (key .f64 c < key .f64 x ∧ FloatKind.f64.format.order x c = some .gt) := by
  rw [order_key .f64 hx hc, cmp_def]
  rcases Int.lt_trichotomy (key .f64 x) (key .f64 c) with h | h | h
  · exact .inl ⟨h, by rw [if_pos h]⟩
  · exact .inr (.inl ⟨h, by rw [if_neg (by omega), if_pos h]⟩)
  · exact .inr (.inr ⟨h, by rw [if_neg (by omega), if_neg (by omega)]⟩)
end Go.Proofs.Ytecgipilamefmaa

/- The code nearest to a number: the program's. -/
set_option linter.unusedVariables false
set_option linter.unusedSimpArgs false
namespace Go.Proofs.Ytecgipilamefmaa
open Fl Go.RowKit
theorem isNaN_nan (x : Nat) (h : FloatKind.f64.format.order x x = none) (w : World) : Calls Try.prog 67 #[.float .f64 x] w fun e w' => e = .returned (.bool true) ∧ w = w' := by
  go_enter Try.func67, Try.ntmps67
  go_wp2
  go_ret
  exact ⟨rfl, rfl⟩
theorem isNaN_num (x : Nat) (h : FloatKind.f64.format.order x x = some .eq) (w : World) : Calls Try.prog 67 #[.float .f64 x] w fun e w' => e = .returned (.bool false) ∧ w = w' := by
  go_enter Try.func67, Try.ntmps67
  go_wp2
  go_ret
  exact ⟨rfl, rfl⟩
theorem run_max {P : Program} (ts : Array TypeId) (t : TypeId) (x y r : Nat) (h : (FloatKind.f64.format.order x y = some .lt ∧ r = y) ∨ (FloatKind.f64.format.order x y = some .gt ∧ r = x) ∨ (FloatKind.f64.format.order x y = some .eq ∧ x = y ∧ r = x)) (W : World) :
    (Builtin.max_ ts t #[.float .f64 x, .float .f64 y]).run P W = .ok (.float .f64 r) W := by
  rcases h with ⟨h, rfl⟩ | ⟨h, rfl⟩ | ⟨h, rfl, rfl⟩
  · simp [Builtin.max_, Builtin.max2, h]
  · simp [Builtin.max_, Builtin.max2, h]
  · simp [Builtin.max_, Builtin.max2, h]
theorem run_min {P : Program} (ts : Array TypeId) (t : TypeId) (x y r : Nat) (h : (FloatKind.f64.format.order x y = some .lt ∧ r = x) ∨ (FloatKind.f64.format.order x y = some .gt ∧ r = y) ∨ (FloatKind.f64.format.order x y = some .eq ∧ x = y ∧ r = x)) (W : World) :
    (Builtin.min_ ts t #[.float .f64 x, .float .f64 y]).run P W = .ok (.float .f64 r) W := by
  rcases h with ⟨h, rfl⟩ | ⟨h, rfl⟩ | ⟨h, rfl, rfl⟩
  · simp [Builtin.min_, Builtin.min2, h]
  · simp [Builtin.min_, Builtin.min2, h]
  · simp [Builtin.min_, Builtin.min2, h]
/-- the rounded number, brought between the bounds, as an integer -/
theorem clamp_num {m x : Nat} (C : Cst m) (hab : ab .f64 x = some x) :
    ∃ r1 r2, ((FloatKind.f64.format.order (rneW x) (fd (-(m : Int))) = some .lt ∧ r1 = fd (-(m : Int))) ∨ (FloatKind.f64.format.order (rneW x) (fd (-(m : Int))) = some .gt ∧ r1 = rneW x) ∨ (FloatKind.f64.format.order (rneW x) (fd (-(m : Int))) = some .eq ∧ rneW x = fd (-(m : Int)) ∧ r1 = rneW x)) ∧
      ((FloatKind.f64.format.order r1 (fd ((m : Int) - 1)) = some .lt ∧ r2 = r1) ∨ (FloatKind.f64.format.order r1 (fd ((m : Int) - 1)) = some .gt ∧ r2 = fd ((m : Int) - 1)) ∨ (FloatKind.f64.format.order r1 (fd ((m : Int) - 1)) = some .eq ∧ r1 = fd ((m : Int) - 1) ∧ r2 = r1)) ∧
      floatToIntVal .f64 r2 .i64 = some (codO m (some x)) := by
  have hr := rung_of_ab .f64 hab
  have hR := rne_fits hr
  have hRa := ab_of_rung hR.1
  have fM := fd_fits ((m : Int) - 1)
  have fL := fd_fits (-(m : Int))
  have hi := rne_hi C hr
  have lo := rne_lo C hr
  have kM := key_pos C.sM; have pM := C.pM
  have kL := key_neg C.sL; have pL := C.pL
  have hML : FloatKind.f64.format.order (fd (-(m : Int))) (fd ((m : Int) - 1)) = some .lt := by
    rcases ord_of fL.1 fM.1 with ⟨h, h2⟩ | ⟨h, h2⟩ | ⟨h, h2⟩
    · exact h2
    · omega
    · omega
  rw [codO_some]
  rcases ord_of hRa fL.1 with ⟨h1, o1⟩ | ⟨h1, o1⟩ | ⟨h1, o1⟩
  · refine ⟨fd (-(m : Int)), fd (-(m : Int)), .inl ⟨o1, rfl⟩, .inl ⟨hML, rfl⟩, ?_⟩
    rw [C.iL, if_neg (by omega), if_pos (by omega)]
  · have e := key_inj hR.2 fL.2 h1 (by omega)
    refine ⟨rneW x, rneW x, .inr (.inr ⟨o1, e, rfl⟩), .inl ⟨by rw [e]; exact hML, rfl⟩, ?_⟩
    rw [if_neg (by omega)]
    split
    · rw [e]; exact C.iL
    · exact rne_int C hr (by omega) (by omega)
  · rcases ord_of hRa fM.1 with ⟨h2, o2⟩ | ⟨h2, o2⟩ | ⟨h2, o2⟩
    · refine ⟨rneW x, rneW x, .inr (.inl ⟨o1, rfl⟩), .inl ⟨o2, rfl⟩, ?_⟩
      rw [if_neg (by omega), if_neg (by omega)]
      exact rne_int C hr (by omega) (by omega)
    · have e := key_inj hR.2 fM.2 h2 (by omega)
      refine ⟨rneW x, rneW x, .inr (.inl ⟨o1, rfl⟩), .inr (.inr ⟨o2, e, rfl⟩), ?_⟩
      split
      · rw [e]; exact C.iM
      · rw [if_neg (by omega)]
        exact rne_int C hr (by omega) (by omega)
    · refine ⟨rneW x, fd ((m : Int) - 1), .inr (.inl ⟨o1, rfl⟩), .inr (.inl ⟨o2, rfl⟩), ?_⟩
      rw [C.iM, if_pos (by omega)]
end Go.Proofs.Ytecgipilamefmaa

/- Products with powers of two: the code of the product in 32 bits is that of the product in 64 bits. -/
set_option linter.unusedVariables false
set_option linter.unusedSimpArgs false
namespace Go.Proofs.Ytecgipilamefmaa
namespace Fl
open Ieee
theorem nearest_exactJ (k : FloatKind) (neg : Bool) {r mag : Nat} {place b : Int} (hr : r < k.format.infRung) (hb : b ≤ place) (hbl : b ≤ k.format.leastPlace)
    (h : zv k r * 2 ^ (k.format.leastPlace - b).toNat = mag * 2 ^ (place - b).toNat) : rung k (k.format.nearest neg mag place) = r := by
  obtain ⟨m, e, hz, hme, _⟩ := rung_form k r
  have h0 := nearest_rung k neg hr hz hme
  have h1 : m * 2 ^ (k.format.leastPlace + (e : Int) - b).toNat = mag * 2 ^ (place - b).toNat := by
    rw [← h, hz, Nat.mul_assoc, ← Nat.pow_add]
    congr 2
    omega
  have a := nearest_mono k neg neg (mag := m) (mag' := mag) (place := k.format.leastPlace + e) (place' := place) (b := b) (by omega) hb hbl (Nat.le_of_eq h1)
  have a' := nearest_mono k neg neg (mag := mag) (mag' := m) (place := place) (place' := k.format.leastPlace + e) (b := b) hb (by omega) hbl (Nat.le_of_eq h1.symm)
  omega
theorem zv_dbl1 (k : FloatKind) (r : Nat) : ∃ r', zv k r' = zv k r * 2 := by
  have hp := bin_pos k
  by_cases h : r < k.format.binade
  · refine ⟨2 * r, ?_⟩
    by_cases h2 : 2 * r < k.format.binade
    · unfold zv; rw [if_pos h2, if_pos h]; omega
    · have e1 : 2 * r / k.format.binade = 1 := by
        rw [Nat.div_eq_sub_div hp (by omega), Nat.div_eq_of_lt (by omega)]
      have e2 : 2 * r % k.format.binade = 2 * r - k.format.binade := by
        rw [Nat.mod_eq_sub_mod (by omega), Nat.mod_eq_of_lt (by omega)]
      unfold zv
      rw [if_neg h2, if_pos h, e1, e2]
      simp
      omega
  · refine ⟨r + k.format.binade, ?_⟩
    have e1 : (r + k.format.binade) / k.format.binade = r / k.format.binade + 1 := Nat.add_div_right _ hp
    have e2 : (r + k.format.binade) % k.format.binade = r % k.format.binade := Nat.add_mod_right _ _
    have hq : 1 ≤ r / k.format.binade := (Nat.one_le_div_iff hp).2 (by omega)
    unfold zv
    rw [if_neg (by omega), if_neg h, e1, e2, Nat.mul_assoc, ← Nat.pow_succ]
    congr 2
    omega
theorem zv_dbl (k : FloatKind) (r : Nat) : ∀ j, ∃ r', zv k r' = zv k r * 2 ^ j
  | 0 => ⟨r, by rw [Nat.pow_zero, Nat.mul_one]⟩
  | j + 1 => by
    obtain ⟨s, hs⟩ := zv_dbl k r j
    obtain ⟨t, ht⟩ := zv_dbl1 k s
    exact ⟨t, by rw [ht, hs, Nat.pow_succ, Nat.mul_assoc]⟩
/-- a product that is exact -/
theorem mul_exactJ (k : FloatKind) {x c r m : Nat} (hx : rung k x < k.format.infRung) (hc : rung k c < k.format.infRung) (sc : sgn k c = false) (P : Nat) (hP : k.format.leastPlace = -(P : Int)) (hzc : zv k (rung k c) = m * 2 ^ P) (hr : r < k.format.infRung)
    (hzr : zv k r = zv k (rung k x) * m) : ∃ q, floatBits .mul k x c = some q ∧ rung k q = r ∧ sgn k q = sgn k x := by
  obtain ⟨mx, ex, h1, h2⟩ := read_fin k hx
  obtain ⟨mc, ec, h3, h4⟩ := read_fin k hc
  simp only [floatBits, Format.mul, h1, h3, Datum.product, Option.map_some]
  refine ⟨_, rfl, ?_, ?_⟩
  · show rung k (k.format.nearest _ _ _) = r
    refine nearest_exactJ k _ (b := k.format.leastPlace + k.format.leastPlace) hr (by omega) (by omega) ?_
    rw [show (k.format.leastPlace - (k.format.leastPlace + k.format.leastPlace)).toNat = P by omega,
      show (k.format.leastPlace + (ex : Int) + (k.format.leastPlace + (ec : Int)) - (k.format.leastPlace + k.format.leastPlace)).toNat = ex + ec by omega, hzr, h2, Nat.pow_add]
    have e : mx * mc * (2 ^ ex * 2 ^ ec) = (mx * 2 ^ ex) * (mc * 2 ^ ec) := by rw [Nat.mul_assoc, Nat.mul_assoc, Nat.mul_left_comm mc]
    rw [e, ← h4, hzc, Nat.mul_assoc]
  · show sgn k (k.format.nearest _ _ _) = _
    rw [sgn_nearest, sc]
    cases sgn k x <;> rfl
/-- a product with a number without sign, at least 1, is not less, and has the sign -/
theorem mul_big (k : FloatKind) {x c o t : Nat} (hx : rung k x < k.format.infRung) (hc : rung k c < k.format.infRung) (sc : sgn k c = false) (ht : rung k t < k.format.infRung) (ho : rung k o < k.format.infRung) (h1 : rung k t ≤ rung k x) (h2 : rung k o ≤ rung k c)
    (h3 : (floatBits .mul k t o).map (fun r => decide (rung k t ≤ rung k r)) = some true) : ∃ q, floatBits .mul k x c = some q ∧ rung k t ≤ rung k q ∧ sgn k q = sgn k x ∧ rung k q ≤ k.format.infRung := by
  obtain ⟨r, q, e1, e2, e3⟩ := mul_size k ht ho hx hc h1 h2
  rw [e1] at h3
  simp only [Option.map_some, Option.some.injEq, decide_eq_true_eq] at h3
  refine ⟨q, e2, by omega, ?_⟩
  obtain ⟨mx, ex, g1, g2⟩ := read_fin k hx
  obtain ⟨mc, ec, g3, g4⟩ := read_fin k hc
  simp only [floatBits, Format.mul, g1, g3, Datum.product, Option.map_some] at e2
  injection e2 with e2
  rw [← e2]
  refine ⟨?_, nearest_fin _ _ _ _⟩
  show sgn k (k.format.nearest _ _ _) = _
  rw [sgn_nearest, sc]
  cases sgn k x <;> rfl
end Fl
open Fl Go.RowKit Ieee
/-- what is asked of m as a number of 32 and of 64 bits -/
structure Pw (m : Nat) : Prop where
  f3 : rung .f32 (fI (m : Int)) < FloatKind.f32.format.infRung
  f6 : rung .f64 (fd (m : Int)) < FloatKind.f64.format.infRung
  s3 : sgn .f32 (fI (m : Int)) = false
  s6 : sgn .f64 (fd (m : Int)) = false
  z3 : zv .f32 (rung .f32 (fI (m : Int))) = m * 2 ^ 149
  z6 : zv .f64 (rung .f64 (fd (m : Int))) = m * 2 ^ 1074
  o3 : rung .f32 1065353216 ≤ rung .f32 (fI (m : Int))
  o6 : rung .f64 4607182418800017408 ≤ rung .f64 (fd (m : Int))
  i3 : ∀ s : Bool, (Datum.infinity s).product (FloatKind.f32.format.read (fI (m : Int))) = some (.infinity s)
  i6 : ∀ s : Bool, (Datum.infinity s).product (FloatKind.f64.format.read (fd (m : Int))) = some (.infinity s)
set_option maxRecDepth 10000 in
theorem pw_of {b : Nat} (h1 : 2 ≤ b) (h2 : b ≤ 16) : Pw (mst b) := by
  obtain rfl | rfl | rfl | rfl | rfl | rfl | rfl | rfl | rfl | rfl | rfl | rfl | rfl | rfl | rfl : b = 2 ∨ b = 3 ∨ b = 4 ∨ b = 5 ∨ b = 6 ∨ b = 7 ∨ b = 8 ∨ b = 9 ∨ b = 10 ∨ b = 11 ∨ b = 12 ∨ b = 13 ∨ b = 14 ∨ b = 15 ∨ b = 16 := by omega
  all_goals exact ⟨by decide +kernel, by decide +kernel, by decide +kernel, by decide +kernel, by decide +kernel, by decide +kernel, by decide +kernel, by decide +kernel, by decide +kernel, by decide +kernel⟩
def t32 : Nat := 147 * 8388608
def t64 : Nat := 1043 * 4503599627370496
theorem cod_sat {m y : Nat} (C : Cst m) (h : rung .f64 t64 ≤ rung .f64 y) : codO m (some y) = if sgn .f64 y then -(m : Int) else (m : Int) - 1 := by
  have kM := key_pos C.sM; have kL := key_neg C.sL
  have zM := C.zM; have zL := C.zL; have pM := C.pM
  have ht : rung .f64 t64 = 1043 * 4503599627370496 := by decide
  rw [codO_some]
  cases hs : sgn .f64 y
  · have ky := key_pos hs
    rw [if_pos (by omega)]; rfl
  · have ky := key_neg hs
    rw [if_neg (by omega), if_pos (by omega)]; rfl
theorem wide_some (x : Nat) : wide (some x) = some (FloatKind.f64.encode (FloatKind.f32.decode x)) := rfl
theorem opO_some (op : BinOp) (k : FloatKind) (x y : Nat) : opO op k (some x) (some y) = floatBits op k x y := rfl
theorem wide_big {p : Nat} (hp : rung .f32 p ≤ FloatKind.f32.format.infRung) (h : rung .f32 t32 ≤ rung .f32 p) : rung .f64 t64 ≤ rung .f64 (FloatKind.f64.encode (FloatKind.f32.decode p)) ∧ sgn .f64 (FloatKind.f64.encode (FloatKind.f32.decode p)) = sgn .f32 p := by
  obtain ⟨D, hD⟩ : ∃ D : Nat, D = 925 := ⟨_, rfl⟩
  rcases Nat.lt_or_eq_of_le hp with h1 | h1
  · obtain ⟨a, b⟩ := wide_zv h1 D hD
    refine ⟨?_, a⟩
    have h2 := wide_zv (b := t32) (by decide) D hD
    rw [show FloatKind.f64.encode (FloatKind.f32.decode t32) = t64 by decide +kernel] at h2
    refine (zv_le .f64).1 ?_
    rw [h2.2, b]
    exact Nat.mul_le_mul_right _ ((zv_le .f32).2 h)
  · have hr : FloatKind.f32.decode p = .infinity (sgn .f32 p) := read_inf .f32 h1
    rw [hr]
    cases sgn .f32 p <;> decide +kernel
theorem sg_word_inj {x y : Nat} (hx : x < 2 ^ 64) (hy : y < 2 ^ 64) (h1 : rung .f64 x = rung .f64 y) (h2 : sgn .f64 x = sgn .f64 y) : x = y := by
  rw [← word_of .f64 (b := x) hx, ← word_of .f64 (b := y) hy, h1, h2]
theorem op_lt {op : BinOp} {k : FloatKind} {x y q : Nat} (h : floatBits op k x y = some q) : q < 2 ^ k.format.width := by
  cases op <;> simp only [floatBits] at h <;> first | (cases h; done) | skip
  all_goals
    simp only [Format.add, Format.sub, Format.mul, Format.div, Option.map_eq_some_iff] at h
    obtain ⟨d, hd, rfl⟩ := h
    exact k.format.write_lt d
set_option maxHeartbeats 1000000 in
theorem cod_mul {m j : Nat} (hj : m = 2 ^ j) (hm : m ≤ 32768) (C : Cst m) (W : Pw m) (X : O) (hX : ∀ x, X = some x → rung .f32 x ≤ FloatKind.f32.format.infRung) :
    codO m (wide (opO .mul .f32 X (some (fI (m : Int))))) = codO m (opO .mul .f64 (wide X) (some (fd (m : Int)))) := by
  cases X with
  | none => rfl
  | some x =>
    have hx := hX x rfl
    rw [wide_some, opO_some, opO_some]
    have one6 : rung .f64 4607182418800017408 < FloatKind.f64.format.infRung := by decide
    have one3 : rung .f32 1065353216 < FloatKind.f32.format.infRung := by decide
    rcases Nat.lt_or_eq_of_le hx with h1 | h1
    · obtain ⟨D, hD⟩ : ∃ D : Nat, D = 925 := ⟨_, rfl⟩
      obtain ⟨sx, zx⟩ := wide_zv h1 D hD
      have hD3 : zv .f32 FloatKind.f32.format.infRung * 2 ^ D ≤ zv .f64 FloatKind.f64.format.infRung := by rw [hD]; decide +kernel
      have hwf : rung .f64 (FloatKind.f64.encode (FloatKind.f32.decode x)) < FloatKind.f64.format.infRung := by
        refine (zv_lt .f64).1 ?_
        rw [zx]
        have h2 : zv .f32 (rung .f32 x) < zv .f32 FloatKind.f32.format.infRung := (zv_lt .f32).2 h1
        exact Nat.lt_of_lt_of_le (Nat.mul_lt_mul_of_pos_right h2 (Nat.two_pow_pos _)) hD3
      rcases Nat.lt_or_ge (rung .f32 x) (rung .f32 t32) with h2 | h2
      · -- small: both products are exact
        obtain ⟨r, hr⟩ := zv_dbl .f32 (rung .f32 x) j
        rw [← hj] at hr
        have hrf : r < FloatKind.f32.format.infRung := by
          refine (zv_lt .f32).1 ?_
          rw [hr]
          have h3 : zv .f32 (rung .f32 x) < zv .f32 (rung .f32 t32) := (zv_lt .f32).2 h2
          have h4 : zv .f32 (rung .f32 t32) * 32768 ≤ zv .f32 FloatKind.f32.format.infRung := by decide +kernel
          have h5 : zv .f32 (rung .f32 x) * m ≤ zv .f32 (rung .f32 x) * 32768 := Nat.mul_le_mul_left _ hm
          omega
        obtain ⟨p, e1, e2, e3⟩ := mul_exactJ .f32 h1 W.f3 W.s3 149 (by decide) W.z3 hrf hr
        have hpf : rung .f32 p < FloatKind.f32.format.infRung := by rw [e2]; exact hrf
        obtain ⟨sp, zp⟩ := wide_zv hpf D hD
        have hpw : rung .f64 (FloatKind.f64.encode (FloatKind.f32.decode p)) < FloatKind.f64.format.infRung := by
          refine (zv_lt .f64).1 ?_
          rw [zp]
          have h2 : zv .f32 (rung .f32 p) < zv .f32 FloatKind.f32.format.infRung := (zv_lt .f32).2 hpf
          exact Nat.lt_of_lt_of_le (Nat.mul_lt_mul_of_pos_right h2 (Nat.two_pow_pos _)) hD3
        obtain ⟨q, g1, g2, g3⟩ := mul_exactJ .f64 hwf W.f6 W.s6 1074 (by decide) W.z6 hpw (by rw [zp, e2, hr, zx, Nat.mul_assoc, Nat.mul_comm m, ← Nat.mul_assoc])
        rw [e1, g1, wide_some]
        have : FloatKind.f64.encode (FloatKind.f32.decode p) = q := sg_word_inj (FloatKind.f64.format.write_lt _) (op_lt g1) g2.symm (by rw [sp, e3, g3, sx])
        rw [this]
      · obtain ⟨p, e1, e2, e3, e4⟩ := mul_big .f32 (t := t32) (o := 1065353216) h1 W.f3 W.s3 (by decide) one3 h2 W.o3 (by decide +kernel)
        obtain ⟨w1, w2⟩ := wide_big hx h2
        obtain ⟨q, g1, g2, g3, g4⟩ := mul_big .f64 (t := t64) (o := 4607182418800017408) hwf W.f6 W.s6 (by decide) one6 w1 W.o6 (by decide +kernel)
        obtain ⟨v1, v2⟩ := wide_big e4 e2
        rw [e1, g1, wide_some, cod_sat C v1, cod_sat C g2, v2, e3, g3, w2]
    · have hr : FloatKind.f32.format.read x = .infinity (sgn .f32 x) := read_inf .f32 h1
      have hd : FloatKind.f32.decode x = .infinity (sgn .f32 x) := hr
      have e1 : floatBits .mul .f32 x (fI (m : Int)) = some (FloatKind.f32.format.word (sgn .f32 x) FloatKind.f32.format.infRung) := by
        simp only [floatBits, Format.mul, hr, W.i3, Option.map_some]; rfl
      have hr6 : FloatKind.f64.format.read (FloatKind.f64.encode (FloatKind.f32.decode x)) = .infinity (sgn .f32 x) := by
        rw [hd]; cases sgn .f32 x <;> decide +kernel
      have e2 : floatBits .mul .f64 (FloatKind.f64.encode (FloatKind.f32.decode x)) (fd (m : Int)) = some (FloatKind.f64.format.word (sgn .f32 x) FloatKind.f64.format.infRung) := by
        simp only [floatBits, Format.mul, hr6, W.i6, Option.map_some]; rfl
      rw [e1, e2, wide_some]
      cases sgn .f32 x
      · rw [show FloatKind.f64.encode (FloatKind.f32.decode (FloatKind.f32.format.word false FloatKind.f32.format.infRung)) = FloatKind.f64.format.word false FloatKind.f64.format.infRung by decide +kernel]
      · rw [show FloatKind.f64.encode (FloatKind.f32.decode (FloatKind.f32.format.word true FloatKind.f32.format.infRung)) = FloatKind.f64.format.word true FloatKind.f64.format.infRung by decide +kernel]
end Go.Proofs.Ytecgipilamefmaa

/- Whole parts of floats: what goes into an integer, and what is left of it. -/
set_option linter.unusedVariables false
set_option linter.unusedSimpArgs false
namespace Go.Proofs.Ytecgipilamefmaa
namespace Fl
open Ieee
theorem cutz_eq (s : Bool) (n d : Nat) : Toward.zero.cut s n d = n / 2 ^ d := by
  unfold Toward.cut
  dsimp only
  rw [Nat.shiftLeft_eq, Nat.one_mul]
  show n / 2 ^ min d (n.log2 + 2) + 0 = _
  rcases Nat.le_total d (n.log2 + 2) with h1 | h1
  · rw [Nat.min_eq_left h1]; rfl
  · have h2 : n < 2 ^ (n.log2 + 2) := Nat.lt_trans Nat.lt_log2_self (Nat.pow_lt_pow_right (by decide) (by omega))
    rw [Nat.min_eq_right h1, Nat.div_eq_of_lt h2, Nat.div_eq_of_lt (Nat.lt_of_lt_of_le h2 (Nat.pow_le_pow_right (by decide) h1))]
/-- the whole part of a finite number's size -/
def whl (D y : Nat) : Nat := zv .f64 (rung .f64 y) / 2 ^ D
theorem toInt_whole {y D : Nat} (hD : D = 1074) (hf : rung .f64 y < FloatKind.f64.format.infRung) (hlt : whl D y < 4611686018427387904) : floatToIntVal .f64 y .i64 = some (sg (sgn .f64 y) (whl D y)) := by
  obtain ⟨m, e, hr, hz⟩ := read_fin .f64 hf
  have h2 : FloatKind.f64.format.leastPlace = -(D : Int) := by rw [hD]; decide
  clear hD
  have hd : FloatKind.f64.decode y = .number (sgn .f64 y) m (-(D : Int) + e) := by rw [← h2]; exact hr
  have hc : Toward.zero.cut (sgn .f64 y) (m <<< (-(D : Int) + e).toNat) (-(-(D : Int) + e)).toNat = whl D y := by
    rw [cutz_eq, Nat.shiftLeft_eq]
    unfold whl
    rw [hz]
    rcases Nat.le_total e D with h4 | h4
    · rw [show (-(D : Int) + e).toNat = 0 by omega, show (-(-(D : Int) + e)).toNat = D - e by omega, Nat.pow_zero, Nat.mul_one]
      have h5 : 2 ^ D = 2 ^ (D - e) * 2 ^ e := by rw [← Nat.pow_add]; congr 1; omega
      rw [h5, Nat.mul_div_mul_right _ _ (Nat.two_pow_pos e)]
    · rw [show (-(D : Int) + e).toNat = e - D by omega, show (-(-(D : Int) + e)).toNat = 0 by omega, Nat.pow_zero, Nat.div_one]
      have h5 : 2 ^ e = 2 ^ (e - D) * 2 ^ D := by rw [← Nat.pow_add]; congr 1; omega
      rw [h5, ← Nat.mul_assoc, Nat.mul_div_cancel _ (Nat.two_pow_pos D)]
  have hi : (Datum.number (sgn .f64 y) m (-(D : Int) + e)).toInt .zero = some (sg (sgn .f64 y) (whl D y)) := by
    unfold Datum.toInt Datum.integral
    dsimp only
    rw [hc]
    simp only [signed, sg, Nat.shiftLeft_zero]
  unfold floatToIntVal
  rw [hd, hi]
  dsimp only
  have r1 : IntKind.i64.min ≤ sg (sgn .f64 y) (whl D y) := by show (-9223372036854775808 : Int) ≤ _; unfold sg; split <;> omega
  have r2 : sg (sgn .f64 y) (whl D y) ≤ IntKind.i64.max := by show _ ≤ (9223372036854775807 : Int); unfold sg; split <;> omega
  rw [if_pos ⟨r1, r2⟩]
theorem zv_low {C : Nat} (h : C < 9007199254740992) : zv .f64 C = C := by
  have hb : FloatKind.f64.format.binade = 4503599627370496 := by decide
  unfold zv
  rw [hb]
  by_cases h1 : C < 4503599627370496
  · rw [if_pos h1]
  · have e1 : C / 4503599627370496 = 1 := by omega
    have e2 : C % 4503599627370496 = C - 4503599627370496 := by omega
    rw [if_neg h1, e1, e2]
    simp
    omega
theorem fd_whole {C D : Nat} {s : Bool} (hD : D = 1074) (h : C < 9007199254740992) : rung .f64 (fd (sg s C)) < FloatKind.f64.format.infRung ∧ zv .f64 (rung .f64 (fd (sg s C))) = C * 2 ^ D ∧ (C ≠ 0 → sgn .f64 (fd (sg s C)) = s) := by
  obtain ⟨r, hr⟩ := zv_dbl .f64 C D
  rw [zv_low h] at hr
  have h2 : FloatKind.f64.format.leastPlace = -(D : Int) := by rw [hD]; decide
  have hbig : zv .f64 (1076 * 4503599627370496) = 9007199254740992 * 2 ^ D := by rw [hD]; decide +kernel
  have hfin : 1076 * 4503599627370496 < FloatKind.f64.format.infRung := by decide
  have hri : r < FloatKind.f64.format.infRung := by
    refine Nat.lt_trans ((zv_lt .f64).1 ?_) hfin
    rw [hr, hbig]
    exact Nat.mul_lt_mul_of_pos_right h (Nat.two_pow_pos D)
  clear hD hbig
  have hn : (sg s C).natAbs = C := by unfold sg; split <;> omega
  have e : fd (sg s C) = FloatKind.f64.format.nearest (decide (sg s C < 0)) C 0 := by
    show FloatKind.f64.format.nearest (decide (sg s C < 0)) (sg s C).natAbs 0 = _
    rw [hn]
  have hrr : rung .f64 (fd (sg s C)) = r := by
    rw [e]
    refine nearest_exactJ .f64 _ (b := -(D : Int)) hri (by omega) (by omega) ?_
    rw [h2, show (-(D : Int) - -(D : Int)).toNat = 0 by omega, show ((0 : Int) - -(D : Int)).toNat = D by omega, Nat.pow_zero, Nat.mul_one, hr]
  refine ⟨by rw [hrr]; exact hri, by rw [hrr, hr], fun h0 => ?_⟩
  rw [e, sgn_nearR]
  unfold sg
  cases s
  · simp
  · simp; omega
theorem sub_whole {x D : Nat} (hD : D = 1074) (hf : rung .f64 x < FloatKind.f64.format.infRung) (hlt : whl D x < 9007199254740992) : ∃ d, floatBits .sub .f64 x (fd (sg (sgn .f64 x) (whl D x))) = some d ∧ rung .f64 d ≤ 4607182418800017408 := by
  obtain ⟨hv1, hv2, hv3⟩ := fd_whole (s := sgn .f64 x) hD hlt
  have h2 : FloatKind.f64.format.leastPlace = -(D : Int) := by rw [hD]; decide
  have hone : rung .f64 (FloatKind.f64.format.nearest false 1 0) = 4607182418800017408 := by decide
  clear hD
  obtain ⟨m, e, hm, hz⟩ := read_fin .f64 hf
  obtain ⟨n, f, hn, hz2⟩ := read_fin .f64 hv1
  have hdm : zv .f64 (rung .f64 x) = whl D x * 2 ^ D + zv .f64 (rung .f64 x) % 2 ^ D := by unfold whl; rw [Nat.mul_comm]; exact (Nat.div_add_mod _ _).symm
  have hmod := Nat.mod_lt (zv .f64 (rung .f64 x)) (Nat.two_pow_pos D)
  obtain ⟨C, hC⟩ : ∃ C, C = whl D x := ⟨_, rfl⟩
  rw [← hC] at hv1 hv2 hv3 hn hz2 hdm hlt ⊢
  simp only [floatBits, Format.sub, hm, hn, Datum.opposite, Datum.sum, Option.map_some]
  refine ⟨_, rfl, ?_⟩
  rw [← hone]
  refine nearest_mono .f64 _ _ (b := FloatKind.f64.format.leastPlace) (by omega) (by omega) (by omega) ?_
  rw [h2]
  have e1 : (min (-(D : Int) + (e : Int)) (-(D : Int) + (f : Int)) - -(D : Int)).toNat = min e f := by omega
  have e3 : (-(D : Int) + (e : Int) - min (-(D : Int) + (e : Int)) (-(D : Int) + (f : Int))).toNat = e - min e f := by omega
  have e4 : (-(D : Int) + (f : Int) - min (-(D : Int) + (e : Int)) (-(D : Int) + (f : Int))).toNat = f - min e f := by omega
  have e5 : ((0 : Int) - -(D : Int)).toNat = D := by omega
  rw [e1, e3, e4, e5]
  have sgd : ∀ (s : Bool) (a u : Nat), signed s a u = sg s (a * 2 ^ u) := by intro s a u; simp only [signed, sg, Nat.shiftLeft_eq]
  rw [sgd, sgd]
  have a1 : m * 2 ^ (e - min e f) * 2 ^ min e f = C * 2 ^ D + zv .f64 (rung .f64 x) % 2 ^ D := by
    rw [Nat.mul_assoc, ← Nat.pow_add, Nat.sub_add_cancel (Nat.min_le_left ..), ← hz]; exact hdm
  have a2 : n * 2 ^ (f - min e f) * 2 ^ min e f = C * 2 ^ D := by
    rw [Nat.mul_assoc, ← Nat.pow_add, Nat.sub_add_cancel (Nat.min_le_right ..), ← hz2]; exact hv2
  generalize zv .f64 (rung .f64 x) % 2 ^ D = R at *
  generalize m * 2 ^ (e - min e f) = M at *
  generalize n * 2 ^ (f - min e f) = N' at *
  have hle : N' ≤ M := Nat.le_of_mul_le_mul_right (show N' * 2 ^ min e f ≤ M * 2 ^ min e f by rw [a1, a2]; omega) (Nat.two_pow_pos _)
  have hdiff : (M - N') * 2 ^ min e f = R := by rw [Nat.sub_mul, a1, a2]; omega
  have hab : (sg (sgn .f64 x) M + sg (!sgn .f64 (fd (sg (sgn .f64 x) C))) N').natAbs = M - N' := by
    by_cases h0 : C = 0
    · have hN : N' = 0 := by
        rw [h0, Nat.zero_mul] at a2
        rcases Nat.mul_eq_zero.1 a2 with h | h
        · exact h
        · have := Nat.two_pow_pos (min e f); omega
      rw [hN]
      unfold sg
      generalize sgn .f64 (fd (sg (sgn .f64 x) C)) = t
      generalize sgn .f64 x = u
      cases u <;> cases t <;> simp
    · rw [hv3 h0]
      unfold sg
      cases sgn .f64 x
      · simp; omega
      · simp; omega
  rw [hab, hdiff, Nat.one_mul]
  exact Nat.le_of_lt hmod
end Fl
end Go.Proofs.Ytecgipilamefmaa

/- Sines of phases: both sides. -/
set_option linter.unusedVariables false
set_option linter.unusedSimpArgs false
namespace Go.Proofs.Ytecgipilamefmaa
open Fl Go.RowKit Ieee
theorem sw64 : FloatKind.f64.format.signWeight = 9223372036854775808 := by decide
/-- 2 to the power of 52 -/
def c52 : Nat := 4841369599423283200
/-- a number of less size, against one that is not -/
theorem ord_lt {x c : Nat} (hx : ab .f64 x = some x) (hc : ab .f64 c = some c) (h : rung .f64 x < rung .f64 c52) (sc : sgn .f64 c = false) (h2 : rung .f64 c52 ≤ rung .f64 c) : FloatKind.f64.format.order x c = some .lt := by
  rw [order_key .f64 hx hc]
  unfold key
  rw [sc]
  have : sg (sgn .f64 x) (rung .f64 x) < sg false (rung .f64 c) := by unfold sg; simp only [Bool.false_eq_true, if_false]; split <;> omega
  simp [compare, compareOfLessAndEq, this]
theorem ord_gt {x c : Nat} (hx : ab .f64 x = some x) (hc : ab .f64 c = some c) (h : rung .f64 x < rung .f64 c52) (sc : sgn .f64 c = true) (h2 : rung .f64 c52 ≤ rung .f64 c) : FloatKind.f64.format.order x c = some .gt := by
  rw [order_key .f64 hx hc]
  unfold key
  rw [sc]
  have h3 : sg true (rung .f64 c) < sg (sgn .f64 x) (rung .f64 x) := by unfold sg; simp only [if_true]; split <;> omega
  have h4 : ¬ sg (sgn .f64 x) (rung .f64 x) < sg true (rung .f64 c) := by omega
  have h5 : ¬ sg (sgn .f64 x) (rung .f64 x) = sg true (rung .f64 c) := by omega
  simp [compare, compareOfLessAndEq, h4, h5]
theorem ab_size {x : Nat} (h : rung .f64 x < rung .f64 c52) : ab .f64 (x % 9223372036854775808) = some (x % 9223372036854775808) := by
  rw [ab64]
  have h1 : x % 9223372036854775808 < rung .f64 c52 := by unfold rung at h; rw [sw64] at h; exact h
  have h2 : rung .f64 c52 = 4841369599423283200 := by decide
  rw [if_neg (by omega)]
theorem abx {x : Nat} (h : rung .f64 x < rung .f64 c52) : ab .f64 x = some x := by
  rw [ab64]
  have h1 : x % 9223372036854775808 < rung .f64 c52 := by unfold rung at h; rw [sw64] at h; exact h
  have h2 : rung .f64 c52 = 4841369599423283200 := by decide
  rw [if_neg (by omega)]
theorem bitsc64 {p : Nat} (hp : p < 18446744073709551616) : bits .andNot .u64 (p : Int) 9223372036854775808 = ((p % 9223372036854775808 : Nat) : Int) := by
  have h := u64_andNot_nat p 9223372036854775808 hp (by decide)
  have e : ((9223372036854775808 : Nat) : Int) = 9223372036854775808 := rfl
  rw [e] at h
  rw [h]
  have e2 : (18446744073709551615 - 9223372036854775808 : Nat) = 2 ^ 63 - 1 := rfl
  rw [e2, Nat.and_two_pow_sub_one_eq_mod]
@[go_sem] theorem Try.f64bits (b : Nat) (w : World) : (callFunc 82 #[.float .f64 b]).run Try.prog w = .ok (.value (.int .u64 b)) w := by
  rw [run_callFunc_extern (P := Try.prog) (fn := Try.f82) (e := Extern.MathFloatBits.float64bits) (by kernel_rfl) (by kernel_rfl) (by kernel_rfl) (by kernel_rfl) (by kernel_rfl)]
  rfl
set_option maxRecDepth 100000 in
theorem mathAbs64 (x : Nat) (w : World) (hx : x < 18446744073709551616) :
    Calls Try.prog 72 #[.float .f64 x] w fun e w' => e = .returned (.float .f64 (x % 9223372036854775808)) ∧ w = w' := by
  have hb := bitsc64 hx
  go_enter Try.func72, Try.ntmps72
  go_wp2
  go_ret
  exact ⟨by simp, rfl⟩
theorem mathNaN0 (x : Nat) (w : World) (h : ab .f64 x = some x) : Calls Try.prog 67 #[.float .f64 x] w fun e w' => e = .returned (.bool false) ∧ w = w' := by
  have hs : FloatKind.f64.format.order x x = some .eq := ord_self x h
  clear h
  go_enter Try.func67, Try.ntmps67
  go_wp2
  go_ret
  exact ⟨rfl, rfl⟩
set_option maxRecDepth 100000 in
theorem mathInf0 (x : Nat) (w : World) (hx : x < 18446744073709551616) (h : rung .f64 x < rung .f64 c52) : Calls Try.prog 68 #[.float .f64 x, .int .i64 0] w fun e w' => e = .returned (.bool false) ∧ w = w' := by
  have h1 : rung .f64 (x % 9223372036854775808) < rung .f64 c52 := by unfold rung at *; rw [sw64] at *; rw [Nat.mod_mod]; exact h
  have ho := ord_lt (c := 9218868437227405311) (ab_size h) (by rw [ab64]; rfl) h1 (by decide) (by decide)
  clear h h1
  go_enter Try.func68, Try.ntmps68
  go_wp2_with (go_at_call 72; refine (mathAbs64 _ _ hx).mono ?_; rintro e w' ⟨rfl, rfl⟩)
  go_ret
  exact ⟨rfl, rfl⟩
/-- the whole part of a number -/
def wpI (y : Nat) : Int := sg (sgn .f64 y) (whl 1074 y)
theorem whl_lt {y : Nat} (h : rung .f64 y < rung .f64 c52) : whl 1074 y < 4503599627370496 := by
  obtain ⟨D, hD⟩ : ∃ D : Nat, D = 1074 := ⟨_, rfl⟩
  have hz : zv .f64 (rung .f64 c52) = 4503599627370496 * 2 ^ D := by rw [hD]; decide +kernel
  rw [← hD]
  clear hD
  have h1 : zv .f64 (rung .f64 y) < 4503599627370496 * 2 ^ D := by rw [← hz]; exact (zv_lt .f64).2 h
  unfold whl
  exact Nat.div_lt_of_lt_mul (by rw [Nat.mul_comm]; exact h1)
theorem fin52 {y : Nat} (h : rung .f64 y < rung .f64 c52) : rung .f64 y < FloatKind.f64.format.infRung := Nat.lt_trans h (by decide)
def sinF0 (y : Nat) : O := opO .sub .f64 (some y) (some (floatOfInt .f64 (wpI y)))
theorem sinF0_size {y : Nat} (h : rung .f64 y < rung .f64 c52) : ∃ f, sinF0 y = some f ∧ rung .f64 f ≤ rung .f64 cOne := by
  obtain ⟨d, h1, h2⟩ := sub_whole (D := 1074) rfl (fin52 h) (Nat.lt_trans (whl_lt h) (by decide))
  exact ⟨d, h1, h2⟩
theorem conv0 {y : Nat} (h : rung .f64 y < rung .f64 c52) (w : World) : (convert 25 2 (.float .f64 y)).run Try.prog w = .ok (.int .i64 (wpI y)) w :=
  run_convert_float_int w 25 2 .f64 .i64 y (wpI y) (by kernel_rfl) (by kernel_rfl) (toInt_whole (D := 1074) rfl (fin52 h) (Nat.lt_trans (whl_lt h) (by decide)))
set_option maxHeartbeats 2000000 in
set_option maxRecDepth 100000 in
theorem implPart_any (y : Nat) (w : World) (hy : y < 18446744073709551616) (h : rung .f64 y < rung .f64 c52) :
    Calls Try.prog 73 #[.float .f64 y] w (RetF .f64 (sinF1 (sinF0 y)) w) := by
  have hcv := conv0 h
  have hy2 := fv64c hy (abx h)
  have h0 := fqi (wpI y)
  have k1 := fq1
  clear h
  cases e : lt64 (sinF0 y) (some 0)
  · have eF : sinF1 (sinF0 y) = sinF0 y := by unfold sinF1; rw [e]; rfl
    rw [eF]
    unfold sinF0 at *
    go_enter Try.func73, Try.ntmps73
    go_wp2_with (first | (with_reducible_and_instances refine Lo.wpList_fo _ rfl .sub _ _ _ _ rfl _ _ _ _ _ rfl rfl rfl (by assumption) (by assumption) ?_; intro r1 n1 hr1; have g := lt64_fv hr1 fqz; rw [e] at g))
    go_ret
    exact ⟨_, _, rfl, hr1.out, rfl⟩
  · have eF : sinF1 (sinF0 y) = opO .add .f64 (sinF0 y) (some cOne) := by unfold sinF1; rw [e]; rfl
    rw [eF]
    unfold sinF0 at *
    go_enter Try.func73, Try.ntmps73
    go_wp2_with (first | (with_reducible_and_instances refine Lo.wpList_fo _ rfl .sub _ _ _ _ rfl _ _ _ _ _ rfl rfl rfl (by assumption) (by assumption) ?_; intro r1 n1 hr1; have g := lt64_fv hr1 fqz; rw [e] at g) | (with_reducible_and_instances refine Lo.wpList_fo _ rfl _ _ _ _ _ rfl _ _ _ _ _ rfl rfl rfl (by assumption) (by assumption) ?_; intro rr nn hrr))
    go_ret
    exact ⟨_, _, rfl, hrr.out, rfl⟩
end Go.Proofs.Ytecgipilamefmaa

/- Sines of phases: both sides. -/
set_option linter.unusedVariables false
set_option linter.unusedSimpArgs false
namespace Go.Proofs.Ytecgipilamefmaa
open Fl Go.RowKit Ieee
theorem neg64_fv {b : Nat} {X : O} (h : Hid (Fv .f64 b X)) : Hid (Fv .f64 (Op.negFloat .f64 b) (X.map (Op.negFloat .f64))) := Lib.hid ⟨neg_lt .f64 h.out.1, by rw [ab_neg, h.out.2]⟩
theorem sinB_of {F : O} {b1 b2 : Bool} (h1 : gt64 F (some cHalf) = b1) (h2 : eq64 F (some cHalf) = b2) : sinB F = (b1 || b2) := by unfold sinB ge64; rw [h1, h2]
theorem sinR_no {f : O} {F1 : O} (h : sinF1 f = F1) (hb : sinB F1 = false) : sinR f = ser (opO .mul .f64 (sinF3 F1) (some c2pi)) := by
  unfold sinR sinS sinF2; rw [h, hb]; rfl
theorem sinR_yes {f : O} {F1 : O} (h : sinF1 f = F1) (hb : sinB F1 = true) : sinR f = (ser (opO .mul .f64 (sinF3 (opO .sub .f64 F1 (some cHalf))) (some c2pi))).map (Op.negFloat .f64) := by
  unfold sinR sinS sinF2; rw [h, hb]; rfl
theorem sinF3_no {f : O} (h : gt64 f (some cQuar) = false) : sinF3 f = f := by unfold sinF3; rw [h]; rfl
theorem sinF3_yes {f : O} (h : gt64 f (some cQuar) = true) : sinF3 f = opO .sub .f64 (some cHalf) f := by unfold sinF3; rw [h]; rfl
set_option maxHeartbeats 8000000 in
set_option maxRecDepth 100000 in
theorem implSine_any (y : Nat) (w : World) (hy : y < 18446744073709551616) (h : rung .f64 y < rung .f64 c52) :
    Calls Try.prog 47 #[.float .f64 y] w (RetF .f64 (sinR (sinF0 y)) w) := by
  have hN := fun w => mathNaN0 y w (abx h)
  have hI := fun w => mathInf0 y w hy h
  have h1 : rung .f64 (y % 9223372036854775808) < rung .f64 c52 := by unfold rung at *; rw [sw64] at *; rw [Nat.mod_mod]; exact h
  have ho := ord_lt (c := 4841369599423283200) (ab_size h) (by rw [ab64]; rfl) h1 (by decide) (by decide)
  have hP := fun w => implPart_any y w hy h
  have k1 := fqh; have k2 := fqp
  clear h h1
  generalize hF : sinF1 (sinF0 y) = F1 at *
  have HF := Lib.hid hF; clear hF
  cases e1 : gt64 F1 (some cHalf) <;> cases e2 : eq64 F1 (some cHalf)
  case false.false =>
    have hb : sinB F1 = false := sinB_of e1 e2
    rw [sinR_no HF.out hb]
    cases e3 : gt64 F1 (some cQuar)
    · rw [sinF3_no e3]
      go_enter Try.func47, Try.ntmps47
      go_wp2_with (first | (go_at_call 67; refine (hN _).mono ?_; rintro e w' ⟨rfl, rfl⟩) | (go_at_call 68; refine (hI _).mono ?_; rintro e w' ⟨rfl, rfl⟩) | (go_at_call 72; refine (mathAbs64 _ _ hy).mono ?_; rintro e w' ⟨rfl, rfl⟩) | (go_at_call 73; refine (hP _).mono ?_; rintro e w' ⟨f1, m1, rfl, hv, rfl⟩; have hf1 := Lib.hid hv; clear hv; have g1 := gt64_fv hf1 fqh; have g2 := eq64_fv hf1 fqh; have g3 := gt64_fv hf1 fqq; rw [e1] at g1; rw [e2] at g2; rw [e3] at g3) | (go_at_call 74; refine (implSeries_any _ _ _ (by assumption)).mono ?_; rintro e w' ⟨r9, m9, rfl, hv, rfl⟩; have hr9 := Lib.hid hv; clear hv) | (with_reducible_and_instances refine Lo.wpList_fo _ rfl _ _ _ _ _ rfl _ _ _ _ _ rfl rfl rfl (by assumption) (by assumption) ?_; intro rr nn hrr))
      go_ret
      exact ⟨_, _, rfl, hr9.out, rfl⟩
    · rw [sinF3_yes e3]
      go_enter Try.func47, Try.ntmps47
      go_wp2_with (first | (go_at_call 67; refine (hN _).mono ?_; rintro e w' ⟨rfl, rfl⟩) | (go_at_call 68; refine (hI _).mono ?_; rintro e w' ⟨rfl, rfl⟩) | (go_at_call 72; refine (mathAbs64 _ _ hy).mono ?_; rintro e w' ⟨rfl, rfl⟩) | (go_at_call 73; refine (hP _).mono ?_; rintro e w' ⟨f1, m1, rfl, hv, rfl⟩; have hf1 := Lib.hid hv; clear hv; have g1 := gt64_fv hf1 fqh; have g2 := eq64_fv hf1 fqh; rw [e1] at g1; rw [e2] at g2; have g3 := gt64_fv hf1 fqq; rw [e3] at g3) | (go_at_call 74; refine (implSeries_any _ _ _ (by assumption)).mono ?_; rintro e w' ⟨r9, m9, rfl, hv, rfl⟩; have hr9 := Lib.hid hv; clear hv) | (with_reducible_and_instances refine Lo.wpList_fo _ rfl _ _ _ _ _ rfl _ _ _ _ _ rfl rfl rfl (by assumption) (by assumption) ?_; intro rr nn hrr))
      go_ret
      exact ⟨_, _, rfl, hr9.out, rfl⟩
  all_goals
    have hb : sinB F1 = true := sinB_of e1 e2
    rw [sinR_yes HF.out hb]
    cases e3 : gt64 (opO .sub .f64 F1 (some cHalf)) (some cQuar)
    · rw [sinF3_no e3]
      go_enter Try.func47, Try.ntmps47
      go_wp2_with (first | (go_at_call 67; refine (hN _).mono ?_; rintro e w' ⟨rfl, rfl⟩) | (go_at_call 68; refine (hI _).mono ?_; rintro e w' ⟨rfl, rfl⟩) | (go_at_call 72; refine (mathAbs64 _ _ hy).mono ?_; rintro e w' ⟨rfl, rfl⟩) | (go_at_call 73; refine (hP _).mono ?_; rintro e w' ⟨f1, m1, rfl, hv, rfl⟩; have hf1 := Lib.hid hv; clear hv; have g1 := gt64_fv hf1 fqh; have g2 := eq64_fv hf1 fqh; rw [e1] at g1; rw [e2] at g2) | (go_at_call 74; refine (implSeries_any _ _ _ (by assumption)).mono ?_; rintro e w' ⟨r9, m9, rfl, hv, rfl⟩; have hr9 := Lib.hid hv; clear hv) | (with_reducible_and_instances refine Lo.wpList_fo _ rfl .sub _ _ _ _ rfl _ _ _ _ _ rfl rfl rfl hf1 k1 ?_; intro r2 n2 hr2; have g3 := gt64_fv hr2 fqq; rw [e3] at g3) | (with_reducible_and_instances refine Lo.wpList_fo _ rfl _ _ _ _ _ rfl _ _ _ _ _ rfl rfl rfl (by assumption) (by assumption) ?_; intro rr nn hrr))
      go_ret
      exact ⟨_, _, rfl, (neg64_fv hr9).out, rfl⟩
    · rw [sinF3_yes e3]
      go_enter Try.func47, Try.ntmps47
      go_wp2_with (first | (go_at_call 67; refine (hN _).mono ?_; rintro e w' ⟨rfl, rfl⟩) | (go_at_call 68; refine (hI _).mono ?_; rintro e w' ⟨rfl, rfl⟩) | (go_at_call 72; refine (mathAbs64 _ _ hy).mono ?_; rintro e w' ⟨rfl, rfl⟩) | (go_at_call 73; refine (hP _).mono ?_; rintro e w' ⟨f1, m1, rfl, hv, rfl⟩; have hf1 := Lib.hid hv; clear hv; have g1 := gt64_fv hf1 fqh; have g2 := eq64_fv hf1 fqh; rw [e1] at g1; rw [e2] at g2) | (go_at_call 74; refine (implSeries_any _ _ _ (by assumption)).mono ?_; rintro e w' ⟨r9, m9, rfl, hv, rfl⟩; have hr9 := Lib.hid hv; clear hv) | (with_reducible_and_instances refine Lo.wpList_fo _ rfl .sub _ _ _ _ rfl _ _ _ _ _ rfl rfl rfl hf1 k1 ?_; intro r2 n2 hr2; have g3 := gt64_fv hr2 fqq; rw [e3] at g3) | (with_reducible_and_instances refine Lo.wpList_fo _ rfl _ _ _ _ _ rfl _ _ _ _ _ rfl rfl rfl (by assumption) (by assumption) ?_; intro rr nn hrr))
      go_ret
      exact ⟨_, _, rfl, (neg64_fv hr9).out, rfl⟩
end Go.Proofs.Ytecgipilamefmaa

/- Sines of phases: the model's; both sides narrowed. -/
set_option linter.unusedVariables false
set_option linter.unusedSimpArgs false
namespace Go.Proofs.Ytecgipilamefmaa
open Fl Go.RowKit Ieee
theorem sub_self64 {y : Nat} (h : rung .f64 y < rung .f64 c52) : opO .sub .f64 (some y) (some y) = some 0 := by
  have h1 := sub_self_any .f64 y
  rw [abx h] at h1
  rw [h1, if_pos (Nat.lt_trans h (by decide))]
theorem ord00 : ordO .f64 (some 0) (some 0) = some .eq := by decide +kernel
end Go.Proofs.Ytecgipilamefmaa

/- SineTurns of phases, of both sides. -/
set_option linter.unusedVariables false
set_option linter.unusedSimpArgs false
namespace Go.Proofs.Ytecgipilamefmaa
open Fl Go.RowKit Ieee
def wideW (x : Nat) : Nat := FloatKind.f64.encode (FloatKind.f32.decode x)
theorem wide_small {x : Nat} (h : rung .f32 x < rung .f32 1501560832) : rung .f64 (wideW x) < rung .f64 c52 := by
  obtain ⟨D, hD⟩ : ∃ D, D = 925 := ⟨_, rfl⟩
  have h1 := (wide_zv (b := x) (Nat.lt_trans h (by decide)) D hD).2
  have h2 := (wide_zv (b := 1501560832) (by decide) D hD).2
  rw [show FloatKind.f64.encode (FloatKind.f32.decode 1501560832) = c52 by decide +kernel] at h2
  refine (zv_lt .f64).1 ?_
  unfold wideW
  rw [h1, h2]
  exact Nat.mul_lt_mul_of_pos_right ((zv_lt .f32).2 h) (Nat.two_pow_pos D)
theorem turn_small {x : Nat} {X : O} (hx : Fv .f32 x X) (ht : turnB X = true) : X = some x ∧ rung .f32 x < rung .f32 1065353216 := by
  unfold turnB geO at ht
  rw [Bool.and_eq_true] at ht
  obtain ⟨h1, h2⟩ := ht
  cases X with
  | none => cases h2
  | some b =>
    obtain rfl := ab_some hx.2
    refine ⟨rfl, ?_⟩
    have h3 : FloatKind.f32.format.order b 1065353216 = some .lt := by unfold ltO ordO at h2; simpa using h2
    have h4 : FloatKind.f32.format.order b 0 = some .gt ∨ FloatKind.f32.format.order b 0 = some .eq := by unfold gtO eqO ordO at h1; simpa using h1
    have c1 : ab .f32 1065353216 = some 1065353216 := by rw [ab32]; rfl
    have c0 : ab .f32 0 = some 0 := by rw [ab32]; rfl
    rw [order_key .f32 hx.2 c1] at h3
    rw [order_key .f32 hx.2 c0] at h4
    have k1 : key .f32 1065353216 = (rung .f32 1065353216 : Nat) := by decide
    have k0 : key .f32 0 = 0 := by decide
    rw [k1] at h3
    rw [k0] at h4
    have h5 : key .f32 b < ((rung .f32 1065353216 : Nat) : Int) := by
      simp only [compare, compareOfLessAndEq, Option.some.injEq] at h3
      split at h3
      · assumption
      · split at h3 <;> cases h3
    have h6 : 0 ≤ key .f32 b := by
      rcases h4 with h4 | h4
      · simp only [compare, compareOfLessAndEq, Option.some.injEq] at h4
        split at h4
        · cases h4
        · omega
      · simp only [compare, compareOfLessAndEq, Option.some.injEq] at h4
        split at h4
        · cases h4
        · omega
    have h7 : 0 < rung .f32 1065353216 := by decide
    unfold key sg at h5 h6
    split at h5 <;> simp_all <;> omega
def sinX : O → O
  | some b => convO .f64 .f32 (sinR (sinF0 (wideW b)))
  | none => none
set_option maxRecDepth 100000 in
theorem implSineS_any (x : Nat) (w : World) (hx : Hid (Fv .f32 x (some x))) (hs : rung .f32 x < rung .f32 1501560832) :
    Calls Try.prog 16 #[.float .f32 x] w (RetF .f32 (sinX (some x)) w) := by
  have h1 := wide_small hs
  obtain ⟨f, hf, hfb⟩ := sinF0_size h1
  clear hs
  go_enter Try.func16, Try.ntmps16
  go_wp2_with (with_reducible_and_instances refine Lo.wpList_wi _ rfl _ _ _ rfl _ _ rfl (by kernel_rfl) (by kernel_rfl) (by assumption) ?_; intro rr nn hrr)
  have h2 : Fv .f64 rr (some (wideW x)) := hrr.out
  obtain rfl := ab_some h2.2
  have h3 := h2.1
  clear h2 hrr
  refine (implSine_any _ _ h3 h1).mono ?_
  rintro e w' ⟨r2, q2, rfl, hv, rfl⟩
  have V2 := Lib.hid hv
  clear hv
  go_wp2_with fail
  refine (implNarrow_any _ _ V2.out.1 (fits_sin hfb (by have := V2.out; rw [hf] at this; exact this))).mono ?_
  rintro e w' ⟨r3, q3, rfl, hv, rfl⟩
  have V3 : Hid (Fv .f32 r3 (sinX (some x))) := Lib.hid (by rw [V2.out.2] at hv; exact hv)
  clear hv
  go_wp2
  go_ret
  exact ⟨r3, _, rfl, V3.out, rfl⟩
theorem implSineT_any (x : Nat) (X : O) (w : World) (hx : Hid (Fv .f32 x X)) (ht : turnB X = true) :
    Calls Try.prog 16 #[.float .f32 x] w (RetF .f32 (sinX X) w) := by
  obtain ⟨rfl, hs⟩ := turn_small hx.out ht
  exact implSineS_any x w hx (Nat.lt_trans hs (by decide))
end Go.Proofs.Ytecgipilamefmaa

/- Sines of whatever number, both sides; the law. -/
set_option linter.unusedVariables false
set_option linter.unusedSimpArgs false
namespace Go.Proofs.Ytecgipilamefmaa
open Fl Go.RowKit Ieee
def sinG : O → O
  | some b => if rung .f32 b < 1501560832 then sinX (some b) else if rung .f32 b < 2139095040 then some 0 else none
  | none => none
theorem sinG_some (b : Nat) : sinG (some b) = if rung .f32 b < 1501560832 then sinX (some b) else if rung .f32 b < 2139095040 then some 0 else none := rfl
theorem mathNaN_any (w : World) : Calls Try.prog 65 #[] w fun e w' => e = .returned (.float .f64 9221120237041090561) ∧ w = w' := by
  go_enter Try.func65, Try.ntmps65
  go_wp2
  go_ret
  exact ⟨rfl, rfl⟩
theorem fvNaN : Fv .f64 9221120237041090561 none := ⟨by decide, by rw [ab64]; rfl⟩
theorem fits_nanC {r : Nat} (h : Fv .f64 r none) : Fits .f64 .f32 r := by
  refine .inr ?_
  have hn := read_nan (k := .f64) (b := r)
  rw [h.2] at hn
  cases hd : FloatKind.f64.decode r with
  | nan s f => trivial
  | infinity s => trivial
  | number g m e =>
    have hd' : FloatKind.f64.format.read r = .number g m e := hd
    rw [hd'] at hn; cases hn
open Fl Go.RowKit Ieee

def c20 : Nat := 1101004800
def cm20 : Nat := 3248488448
def one32 : Nat := 1065353216
def mone32 : Nat := 3212836864
def mone64 : Nat := 13830554455654793216
def c2 : Nat := 4611686018427387904
theorem fitsNaN : Fits .f64 .f32 9221120237041090561 := fits_nanC fvNaN
theorem mathNaN1 (x : Nat) (w : World) (h : ab .f64 x = none) : Calls Try.prog 67 #[.float .f64 x] w fun e w' => e = .returned (.bool true) ∧ w = w' := by
  have hs : FloatKind.f64.format.order x x = none := by rw [order_ab, h]; rfl
  clear h
  go_enter Try.func67, Try.ntmps67
  go_wp2
  go_ret
  exact ⟨rfl, rfl⟩
theorem ord3 {x c : Nat} (hx : ab .f64 x = some x) (hc : ab .f64 c = some c) : (key .f64 x < key .f64 c ∧ FloatKind.f64.format.order x c = some .lt) ∨ (key .f64 x = key .f64 c ∧ FloatKind.f64.format.order x c = some .eq) ∨ (key .f64 c < key .f64 x ∧ FloatKind.f64.format.order x c = some .gt) := by
  rw [order_key .f64 hx hc, cmp_def]
  rcases Int.lt_trichotomy (key .f64 x) (key .f64 c) with h | h | h
  · exact .inl ⟨h, by rw [if_pos h]⟩
  · exact .inr (.inl ⟨h, by rw [if_neg (by omega), if_pos h]⟩)
  · exact .inr (.inr ⟨h, by rw [if_neg (by omega), if_neg (by omega)]⟩)
theorem mathInf_b (x : Nat) (b : Bool) (w : World) (hx : x < 18446744073709551616) (h : (FloatKind.f64.format.order (x % 9223372036854775808) 9218868437227405311 == some .gt) = b) : Calls Try.prog 68 #[.float .f64 x, .int .i64 0] w fun e w' => e = .returned (.bool b) ∧ w = w' := by
  cases b
  all_goals
    go_enter Try.func68, Try.ntmps68
    go_wp2_with (go_at_call 72; refine (mathAbs64 _ _ hx).mono ?_; rintro e w' ⟨rfl, rfl⟩)
    go_ret
    exact ⟨rfl, rfl⟩
/-- the size of a number, as a word -/
theorem size_key {x : Nat} (h : rung .f64 x ≤ FloatKind.f64.format.infRung) : ab .f64 (x % 9223372036854775808) = some (x % 9223372036854775808) ∧ key .f64 (x % 9223372036854775808) = (rung .f64 x : Nat) := by
  have e : rung .f64 x = x % 9223372036854775808 := by unfold rung; rw [sw64]
  have e2 : FloatKind.f64.format.infRung = 9218868437227405312 := by decide
  rw [e, e2] at h
  rw [e]
  refine ⟨by rw [ab64, if_neg (by rw [Nat.mod_mod]; omega)], ?_⟩
  unfold key
  have h1 : sgn .f64 (x % 9223372036854775808) = false := by
    unfold sgn
    rw [sw64, Nat.div_eq_of_lt (Nat.mod_lt _ (by decide))]
    rfl
  have h2 : rung .f64 (x % 9223372036854775808) = x % 9223372036854775808 := by unfold rung; rw [sw64, Nat.mod_mod]
  rw [h1, h2]
  rfl
theorem k52 : key .f64 4841369599423283200 = 4841369599423283200 ∧ ab .f64 4841369599423283200 = some 4841369599423283200 ∧ key .f64 14064741636278059008 = -4841369599423283200 ∧ ab .f64 14064741636278059008 = some 14064741636278059008 ∧ rung .f64 c52 = 4841369599423283200 := by decide
theorem kmx : key .f64 9218868437227405311 = 9218868437227405311 ∧ ab .f64 9218868437227405311 = some 9218868437227405311 ∧ FloatKind.f64.format.infRung = 9218868437227405312 := by decide
set_option maxHeartbeats 2000000 in
theorem implSine_big (y : Nat) (w : World) (hy : y < 18446744073709551616) (hab : ab .f64 y = some y) (h1 : rung .f64 c52 ≤ rung .f64 y) (h2 : rung .f64 y < FloatKind.f64.format.infRung) :
    Calls Try.prog 47 #[.float .f64 y] w fun e w' => e = .returned (.float .f64 0) ∧ w = w' := by
  obtain ⟨a1, a2⟩ := size_key (Nat.le_of_lt h2)
  obtain ⟨q1, q2, q3, q4, q5⟩ := k52
  obtain ⟨m1, m2, m3⟩ := kmx
  rw [m3] at h2
  rw [q5] at h1
  have hN := fun w => mathNaN0 y w hab
  have hi : (FloatKind.f64.format.order (y % 9223372036854775808) 9218868437227405311 == some .gt) = false := by
    rcases ord3 a1 m2 with ⟨_, e⟩ | ⟨_, e⟩ | ⟨e', e⟩
    · rw [e]; rfl
    · rw [e]; rfl
    · rw [m1, a2] at e'; omega
  have hI := fun w => mathInf_b y false w hy hi
  have hg : (FloatKind.f64.format.order (y % 9223372036854775808) 4841369599423283200 == some .gt || FloatKind.f64.format.order (y % 9223372036854775808) 4841369599423283200 == some .eq) = true := by
    rcases ord3 a1 q2 with ⟨e', e⟩ | ⟨_, e⟩ | ⟨_, e⟩
    · rw [q1, a2] at e'; omega
    · rw [e]; rfl
    · rw [e]; rfl
  have HN := Lib.hid hN; have HI := Lib.hid hI
  clear hi hN hI
  go_enter Try.func47, Try.ntmps47
  go_wp2_with (first | (go_at_call 67; refine (HN.out _).mono ?_; rintro e w' ⟨rfl, rfl⟩) | (go_at_call 68; refine (HI.out _).mono ?_; rintro e w' ⟨rfl, rfl⟩) | (go_at_call 72; refine (mathAbs64 _ _ hy).mono ?_; rintro e w' ⟨rfl, rfl⟩))
  go_ret
  exact ⟨rfl, rfl⟩
set_option maxHeartbeats 2000000 in
theorem implSine_none (y : Nat) (w : World) (hy : y < 18446744073709551616) (h : ab .f64 y = none ∨ (ab .f64 y = some y ∧ rung .f64 y = FloatKind.f64.format.infRung)) :
    Calls Try.prog 47 #[.float .f64 y] w fun e w' => e = .returned (.float .f64 9221120237041090561) ∧ w = w' := by
  rcases h with h | ⟨hab, h⟩
  · have HN := Lib.hid (fun w => mathNaN1 y w h)
    go_enter Try.func47, Try.ntmps47
    go_wp2_with (first | (go_at_call 67; refine (HN.out _).mono ?_; rintro e w' ⟨rfl, rfl⟩) | (go_at_call 65; refine (mathNaN_any _).mono ?_; rintro e w' ⟨rfl, rfl⟩))
    go_ret
    exact ⟨rfl, rfl⟩
  · obtain ⟨a1, a2⟩ := size_key (Nat.le_of_eq h)
    obtain ⟨m1, m2, m3⟩ := kmx
    have hi : (FloatKind.f64.format.order (y % 9223372036854775808) 9218868437227405311 == some .gt) = true := by
      rcases ord3 a1 m2 with ⟨e', e⟩ | ⟨e', e⟩ | ⟨e', e⟩
      · rw [m1, a2, h, m3] at e'; omega
      · rw [m1, a2, h, m3] at e'; omega
      · rw [e]; rfl
    have HN := Lib.hid (fun w => mathNaN0 y w hab)
    have HI := Lib.hid (fun w => mathInf_b y true w hy hi)
    clear hi
    go_enter Try.func47, Try.ntmps47
    go_wp2_with (first | (go_at_call 67; refine (HN.out _).mono ?_; rintro e w' ⟨rfl, rfl⟩) | (go_at_call 68; refine (HI.out _).mono ?_; rintro e w' ⟨rfl, rfl⟩) | (go_at_call 65; refine (mathNaN_any _).mono ?_; rintro e w' ⟨rfl, rfl⟩))
    go_ret
    exact ⟨rfl, rfl⟩
theorem fv_wordC {k : FloatKind} {r u : Nat} (h : Hid (Fv k r (some u))) : r = u := by
  have := h.out.2
  unfold ab at this
  split at this
  · cases this
  · injection this
/-- what a 32-bit number becomes in 64 bits -/
theorem wide_cases {x : Nat} (hx : ab .f32 x = some x) (h : ¬ rung .f32 x < 1501560832) : ab .f64 (wideW x) = some (wideW x) ∧ ((rung .f32 x < 2139095040 ∧ rung .f64 c52 ≤ rung .f64 (wideW x) ∧ rung .f64 (wideW x) < FloatKind.f64.format.infRung) ∨ (¬ rung .f32 x < 2139095040 ∧ rung .f64 (wideW x) = FloatKind.f64.format.infRung)) := by
  have hab := ab_wide hx
  refine ⟨hab, ?_⟩
  have hi : FloatKind.f32.format.infRung = 2139095040 := by decide
  by_cases h2 : rung .f32 x < 2139095040
  · left
    obtain ⟨D, hD⟩ : ∃ D, D = 925 := ⟨_, rfl⟩
    have e1 := wide_zv (b := x) (by rw [hi]; exact h2) D hD
    have e2 := (wide_zv (b := 1501560832) (by decide) D hD).2
    rw [show FloatKind.f64.encode (FloatKind.f32.decode 1501560832) = c52 by decide +kernel] at e2
    have e3 := (wide_zv (b := 2139095039) (by decide) D hD).2
    have hm : rung .f64 (FloatKind.f64.encode (FloatKind.f32.decode 2139095039)) < FloatKind.f64.format.infRung := by decide +kernel
    refine ⟨h2, ?_, Nat.lt_of_le_of_lt ?_ hm⟩
    · refine (zv_le .f64).1 ?_
      unfold wideW
      rw [e1.2, e2]
      exact Nat.mul_le_mul_right _ ((zv_le .f32).2 (by rw [show rung .f32 1501560832 = 1501560832 by decide]; omega))
    · refine (zv_le .f64).1 ?_
      unfold wideW
      rw [e1.2, e3]
      exact Nat.mul_le_mul_right _ ((zv_le .f32).2 (by rw [show rung .f32 2139095039 = 2139095039 by decide]; omega))
  · right
    refine ⟨h2, ?_⟩
    have hr := rung_of_ab .f32 hx
    rw [hi] at hr
    have he : rung .f32 x = FloatKind.f32.format.infRung := by rw [hi]; omega
    have hd : FloatKind.f32.decode x = .infinity (sgn .f32 x) := read_inf .f32 he
    unfold wideW
    rw [hd]
    cases sgn .f32 x <;> decide
theorem wide_one (x : Nat) : wide (some x) = some (wideW x) := rfl
theorem convO0 : convO .f64 .f32 (some 0) = some 0 := by decide
theorem fits0 : Fits .f64 .f32 0 := fits_size (by decide)
set_option maxHeartbeats 2000000 in
set_option maxRecDepth 100000 in
theorem implSineG_any (x : Nat) (X : O) (w : World) (hx : Hid (Fv .f32 x X)) :
    Calls Try.prog 16 #[.float .f32 x] w (RetF .f32 (sinG X) w) := by
  by_cases hs : ∃ b, X = some b ∧ rung .f32 b < 1501560832
  · obtain ⟨b, rfl, hs⟩ := hs
    obtain rfl := fv_wordC hx
    have e : sinG (some x) = sinX (some x) := by rw [sinG_some, if_pos hs]
    rw [e]
    exact implSineS_any x w hx (by rw [show rung .f32 1501560832 = 1501560832 by decide]; exact hs)
  · have hq : ∀ y, Hid (Fv .f64 y (wide X)) → ∀ W, Calls Try.prog 47 #[.float .f64 y] W fun e W' => ∃ q, e = .returned (.float .f64 q) ∧ W = W' ∧ q < 2 ^ FloatKind.f64.format.width ∧ Fits .f64 .f32 q ∧ convO .f64 .f32 (ab .f64 q) = sinG X := fun y hy W => by
      cases X with
      | none =>
        refine (implSine_none y W hy.out.1 (.inl (by rw [hy.out.2]; rfl))).mono ?_
        rintro e w' ⟨rfl, rfl⟩
        exact ⟨_, rfl, rfl, by decide, fitsNaN, by rw [fvNaN.2]; rfl⟩
      | some b =>
        obtain rfl := fv_wordC hx
        have hs2 : ¬ rung .f32 x < 1501560832 := fun h => hs ⟨x, rfl, h⟩
        obtain ⟨hw, hc⟩ := wide_cases hx.out.2 hs2
        rw [wide_one] at hy
        obtain rfl := fv_wordC hy
        rcases hc with ⟨c1, c2, c3⟩ | ⟨c1, c2⟩
        · refine (implSine_big _ W hy.out.1 hw c2 c3).mono ?_
          rintro e w' ⟨rfl, rfl⟩
          exact ⟨_, rfl, rfl, by decide, fits0, by rw [sinG_some, if_neg hs2, if_pos c1]; decide⟩
        · refine (implSine_none _ W hy.out.1 (.inr ⟨hw, c2⟩)).mono ?_
          rintro e w' ⟨rfl, rfl⟩
          exact ⟨_, rfl, rfl, by decide, fitsNaN, by rw [sinG_some, if_neg hs2, if_neg c1, fvNaN.2]; rfl⟩
    have HQ := Lib.hid hq
    clear hq hs
    go_enter Try.func16, Try.ntmps16
    go_wp2_with (with_reducible_and_instances refine Lo.wpList_wi _ rfl _ _ _ rfl _ _ rfl (by kernel_rfl) (by kernel_rfl) (by assumption) ?_; intro rr nn hrr)
    refine (HQ.out _ hrr _).mono ?_
    rintro e w' ⟨q, rfl, rfl, k1, k2, k3⟩
    go_wp2_with fail
    refine (implNarrow_any _ _ k1 k2).mono ?_
    rintro e w' ⟨r3, q3, rfl, hv, rfl⟩
    have V3 : Hid (Fv .f32 r3 (sinG X)) := Lib.hid (by rw [k3] at hv; exact hv)
    clear hv
    go_wp2
    go_ret
    exact ⟨r3, _, rfl, V3.out, rfl⟩
end Go.Proofs.Ytecgipilamefmaa

/- Floats that are whole multiples of a power of two: sums, differences, products and comparisons of them are exact. -/
set_option linter.unusedVariables false
set_option linter.unusedSimpArgs false
namespace Go.Proofs.Ytecgipilamefmaa
namespace Fl
open Ieee
/-- a finite word's number, in units of the least place -/
def sv (k : FloatKind) (b : Nat) : Int := sg (sgn k b) (zv k (rung k b))
theorem sv_abs (k : FloatKind) (b : Nat) : (sv k b).natAbs = zv k (rung k b) := by unfold sv sg; split <;> omega
theorem sg_xor (s t : Bool) (a b : Nat) : sg (s ^^ t) (a * b) = sg s a * sg t b := by
  cases s <;> cases t <;> simp [sg, Int.neg_mul, Int.mul_neg]
/-- rounding leaves a number that the format has -/
theorem nearest_exact (k : FloatKind) (neg : Bool) {mag r : Nat} {place b : Int} (hr : r < k.format.infRung) (hb : b ≤ place) (hbl : b ≤ k.format.leastPlace)
    (h : mag * 2 ^ (place - b).toNat = zv k r * 2 ^ (k.format.leastPlace - b).toNat) : rung k (k.format.nearest neg mag place) = r := by
  obtain ⟨m, e, hz, hform, hlt⟩ := rung_form k r
  have hN := nearest_rung k neg hr hz hform
  have he : (k.format.leastPlace + (e : Int) - b).toNat = e + (k.format.leastPlace - b).toNat := by omega
  have h2 : mag * 2 ^ (place - b).toNat = m * 2 ^ (k.format.leastPlace + (e : Int) - b).toNat := by
    rw [h, hz, he, Nat.pow_add, Nat.mul_assoc]
  have h3 := nearest_mono k neg neg (mag := mag) (mag' := m) (place := place) (place' := k.format.leastPlace + (e : Int)) (b := b) hb (by omega) hbl (Nat.le_of_eq h2)
  have h4 := nearest_mono k neg neg (mag := m) (mag' := mag) (place := k.format.leastPlace + (e : Int)) (place' := place) (b := b) (by omega) hb hbl (Nat.le_of_eq h2.symm)
  rw [hN] at h3 h4
  omega
theorem sv_nearest (k : FloatKind) (neg : Bool) {mag r : Nat} {place : Int} (h : rung k (k.format.nearest neg mag place) = r) : sv k (k.format.nearest neg mag place) = sg neg (zv k r) := by
  unfold sv
  rw [sgn_nearest, h]
theorem sum_scaled (s t : Bool) (m n e f c : Nat) (h1 : c ≤ e) (h2 : c ≤ f) : (signed s m (e - c) + signed t n (f - c)) * (2 ^ c : Nat) = sg s (m * 2 ^ e) + sg t (n * 2 ^ f) := by
  have sgd : ∀ (s : Bool) (a u : Nat), signed s a u = sg s (a * 2 ^ u) := by intro s a u; simp only [signed, sg, Nat.shiftLeft_eq]
  rw [sgd, sgd, Int.add_mul, ← sg_mul, ← sg_mul, Nat.mul_assoc, Nat.mul_assoc, ← Nat.pow_add, ← Nat.pow_add, Nat.sub_add_cancel h1, Nat.sub_add_cancel h2]
/-- A SUM THAT THE FORMAT HAS -/
theorem add_exact (k : FloatKind) {x y r : Nat} (hx : Fin k x) (hy : Fin k y) (hr : r < k.format.infRung) (h : (sv k x + sv k y).natAbs = zv k r) :
    ∃ z, floatBits .add k x y = some z ∧ Fin k z ∧ sv k z = sv k x + sv k y := by
  obtain ⟨m, e, hm, hz⟩ := read_fin k hx
  obtain ⟨n, f, hn, hz2⟩ := read_fin k hy
  simp only [floatBits, Format.add, hm, hn, Datum.sum, Option.map_some]
  refine ⟨_, rfl, ?_⟩
  have e2 : min (k.format.leastPlace + (e : Int)) (k.format.leastPlace + (f : Int)) = k.format.leastPlace + ((min e f : Nat) : Int) := by omega
  rw [e2]
  have e3 : (k.format.leastPlace + (e : Int) - (k.format.leastPlace + ((min e f : Nat) : Int))).toNat = e - min e f := by omega
  have e4 : (k.format.leastPlace + (f : Int) - (k.format.leastPlace + ((min e f : Nat) : Int))).toNat = f - min e f := by omega
  rw [e3, e4]
  have hS := sum_scaled (sgn k x) (sgn k y) m n e f (min e f) (Nat.min_le_left ..) (Nat.min_le_right ..)
  rw [← hz, ← hz2] at hS
  change _ = sv k x + sv k y at hS
  generalize signed (sgn k x) m (e - min e f) + signed (sgn k y) n (f - min e f) = T at *
  generalize min e f = c at *
  have hpos : 0 < 2 ^ c := Nat.two_pow_pos c
  have hab : T.natAbs * 2 ^ c = zv k r := by rw [← h, ← hS, Int.natAbs_mul, Int.natAbs_natCast]
  have hrung := nearest_exact k (if T = 0 then sgn k x && sgn k y else decide (T < 0)) (mag := T.natAbs) (r := r) (place := k.format.leastPlace + (c : Int)) (b := k.format.leastPlace) hr (by omega) (Int.le_refl _) (by
    rw [show (k.format.leastPlace + (c : Int) - k.format.leastPlace).toNat = c by omega, show (k.format.leastPlace - k.format.leastPlace).toNat = 0 by omega, Nat.pow_zero, Nat.mul_one]; exact hab)
  show Fin k (k.format.nearest _ _ _) ∧ sv k (k.format.nearest _ _ _) = _
  refine ⟨by unfold Fin; rw [hrung]; exact hr, ?_⟩
  rw [sv_nearest k _ hrung, ← hS, ← hab]
  by_cases h0 : T = 0
  · subst h0
    rw [if_pos rfl]
    cases sgn k x && sgn k y <;> simp [sg]
  · rw [if_neg h0]
    by_cases h1 : T < 0
    · rw [decide_eq_true h1]
      simp only [sg, if_true]
      rw [Int.natCast_mul, ← Int.neg_mul]
      congr 1; omega
    · rw [decide_eq_false h1]
      simp only [sg, Bool.false_eq_true, if_false]
      rw [Int.natCast_mul]
      congr 1; omega
/-- A PRODUCT THAT THE FORMAT HAS (P: the least place) -/
theorem mul_exact (k : FloatKind) {x y r : Nat} (hx : Fin k x) (hy : Fin k y) (hr : r < k.format.infRung) (P : Nat) (hP : (P : Int) = -k.format.leastPlace) (h : (sv k x * sv k y).natAbs = zv k r * 2 ^ P) :
    ∃ z, floatBits .mul k x y = some z ∧ Fin k z ∧ sv k z * ((2 ^ P : Nat) : Int) = sv k x * sv k y := by
  obtain ⟨m, e, hm, hz⟩ := read_fin k hx
  obtain ⟨n, f, hn, hz2⟩ := read_fin k hy
  simp only [floatBits, Format.mul, hm, hn, Datum.product, Option.map_some]
  refine ⟨_, rfl, ?_⟩
  have hprod : (m * n) * 2 ^ (e + f) = zv k r * 2 ^ P := by
    rw [← h, Int.natAbs_mul, sv_abs, sv_abs, hz, hz2, Nat.pow_add]; ac_rfl
  have hrung := nearest_exact k (sgn k x ^^ sgn k y) (mag := m * n) (r := r) (place := k.format.leastPlace + (e : Int) + (k.format.leastPlace + (f : Int))) (b := k.format.leastPlace + k.format.leastPlace) hr (by omega) (by omega) (by
    rw [show (k.format.leastPlace + (e : Int) + (k.format.leastPlace + (f : Int)) - (k.format.leastPlace + k.format.leastPlace)).toNat = e + f by omega, show (k.format.leastPlace - (k.format.leastPlace + k.format.leastPlace)).toNat = P by omega]; exact hprod)
  show Fin k (k.format.nearest _ _ _) ∧ sv k (k.format.nearest _ _ _) * _ = _
  refine ⟨by unfold Fin; rw [hrung]; exact hr, ?_⟩
  rw [sv_nearest k _ hrung, ← sg_mul, ← hprod]
  unfold sv
  rw [← sg_xor, hz, hz2]
  congr 1
  rw [Nat.pow_add]; ac_rfl
theorem opp_neg (k : FloatKind) {y : Nat} (hy : Fin k y) (hl : y < 2 ^ k.format.width) : ∃ n e s, k.format.read y = .number s n e := by
  obtain ⟨n, f, hn, hz2⟩ := read_fin k hy
  exact ⟨_, _, _, hn⟩
/-- A DIFFERENCE THAT THE FORMAT HAS -/
theorem sub_exact (k : FloatKind) {x y r : Nat} (hx : Fin k x) (hy : Fin k y) (hr : r < k.format.infRung) (h : (sv k x - sv k y).natAbs = zv k r) :
    ∃ z, floatBits .sub k x y = some z ∧ Fin k z ∧ sv k z = sv k x - sv k y := by
  obtain ⟨m, e, hm, hz⟩ := read_fin k hx
  obtain ⟨n, f, hn, hz2⟩ := read_fin k hy
  simp only [floatBits, Format.sub, hm, hn, Datum.opposite, Datum.sum, Option.map_some]
  refine ⟨_, rfl, ?_⟩
  have e2 : min (k.format.leastPlace + (e : Int)) (k.format.leastPlace + (f : Int)) = k.format.leastPlace + ((min e f : Nat) : Int) := by omega
  rw [e2]
  have e3 : (k.format.leastPlace + (e : Int) - (k.format.leastPlace + ((min e f : Nat) : Int))).toNat = e - min e f := by omega
  have e4 : (k.format.leastPlace + (f : Int) - (k.format.leastPlace + ((min e f : Nat) : Int))).toNat = f - min e f := by omega
  rw [e3, e4]
  have hS := sum_scaled (sgn k x) (!(sgn k y)) m n e f (min e f) (Nat.min_le_left ..) (Nat.min_le_right ..)
  rw [← hz, ← hz2] at hS
  have hopp : sg (!(sgn k y)) (zv k (rung k y)) = - sv k y := by unfold sv; cases sgn k y <;> simp [sg]
  have hS : _ = sv k x - sv k y := hS.trans (by rw [hopp]; rfl)
  generalize signed (sgn k x) m (e - min e f) + signed (!(sgn k y)) n (f - min e f) = T at *
  generalize min e f = c at *
  have hpos : 0 < 2 ^ c := Nat.two_pow_pos c
  have hab : T.natAbs * 2 ^ c = zv k r := by rw [← h, ← hS, Int.natAbs_mul, Int.natAbs_natCast]
  have hrung := nearest_exact k (if T = 0 then sgn k x && !(sgn k y) else decide (T < 0)) (mag := T.natAbs) (r := r) (place := k.format.leastPlace + (c : Int)) (b := k.format.leastPlace) hr (by omega) (Int.le_refl _) (by
    rw [show (k.format.leastPlace + (c : Int) - k.format.leastPlace).toNat = c by omega, show (k.format.leastPlace - k.format.leastPlace).toNat = 0 by omega, Nat.pow_zero, Nat.mul_one]; exact hab)
  show Fin k (k.format.nearest _ _ _) ∧ sv k (k.format.nearest _ _ _) = _
  refine ⟨by unfold Fin; rw [hrung]; exact hr, ?_⟩
  rw [sv_nearest k _ hrung, ← hS, ← hab]
  by_cases h0 : T = 0
  · subst h0
    rw [if_pos rfl]
    cases sgn k x && !(sgn k y) <;> simp [sg]
  · rw [if_neg h0]
    by_cases h1 : T < 0
    · rw [decide_eq_true h1]
      simp only [sg, if_true]
      rw [Int.natCast_mul, ← Int.neg_mul]
      congr 1; omega
    · rw [decide_eq_false h1]
      simp only [sg, Bool.false_eq_true, if_false]
      rw [Int.natCast_mul]
      congr 1; omega
/-- what the format has: few digits, and not too great -/
theorem rep (k : FloatKind) {m e : Nat} (hm : m < 2 ^ (k.format.fractionBits + 1)) (he : (e + 2) * k.format.binade ≤ k.format.infRung) : ∃ r, r < k.format.infRung ∧ zv k r = m * 2 ^ e := by
  have hB : k.format.binade = 2 ^ k.format.fractionBits := rfl
  have hp := bin_pos k
  by_cases h0 : m = 0
  · subst h0; exact ⟨0, by have := bin_le k; omega, by rw [zv_zero, Nat.zero_mul]⟩
  · have hl1 : 2 ^ m.log2 ≤ m := Nat.log2_self_le h0
    have hl2 : m < 2 ^ (m.log2 + 1) := Nat.lt_log2_self
    have hl : m.log2 ≤ k.format.fractionBits := log2_lt hm
    generalize m.log2 = l at *
    by_cases hc : l + e < k.format.fractionBits
    · have h1 : m * 2 ^ e < k.format.binade := by
        rw [hB]
        calc m * 2 ^ e < 2 ^ (l + 1) * 2 ^ e := Nat.mul_lt_mul_of_pos_right hl2 (Nat.two_pow_pos _)
          _ = 2 ^ (l + 1 + e) := (Nat.pow_add ..).symm
          _ ≤ 2 ^ k.format.fractionBits := Nat.pow_le_pow_right (by omega) (by omega)
      refine ⟨m * 2 ^ e, by have := bin_le k; omega, ?_⟩
      unfold zv; rw [if_pos h1]
    · have k1 : k.format.binade ≤ m * 2 ^ (k.format.fractionBits - l) := by
        have := Nat.mul_le_mul_right (2 ^ (k.format.fractionBits - l)) hl1
        rw [← Nat.pow_add, show l + (k.format.fractionBits - l) = k.format.fractionBits by omega] at this
        exact this
      have k2 : m * 2 ^ (k.format.fractionBits - l) < 2 * k.format.binade := by
        have := Nat.mul_lt_mul_of_pos_right hl2 (Nat.two_pow_pos (k.format.fractionBits - l))
        rw [← Nat.pow_add, show l + 1 + (k.format.fractionBits - l) = k.format.fractionBits + 1 by omega, Nat.pow_succ, ← hB] at this
        omega
      have hK : m * 2 ^ (k.format.fractionBits - l) * 2 ^ (e - (k.format.fractionBits - l)) = m * 2 ^ e := by
        rw [Nat.mul_assoc, ← Nat.pow_add, show k.format.fractionBits - l + (e - (k.format.fractionBits - l)) = e by omega]
      generalize m * 2 ^ (k.format.fractionBits - l) = M at *
      generalize hE : e - (k.format.fractionBits - l) = E at *
      have hEe : E ≤ e := by omega
      refine ⟨(E + 1) * k.format.binade + (M - k.format.binade), ?_, ?_⟩
      · have h5 := Nat.mul_le_mul_right k.format.binade (show E + 2 ≤ e + 2 by omega)
        rw [show E + 2 = E + 1 + 1 from rfl, Nat.succ_mul] at h5
        omega
      · unfold zv
        rw [if_neg (by rw [Nat.succ_mul]; omega)]
        have hmod : ((E + 1) * k.format.binade + (M - k.format.binade)) % k.format.binade = M - k.format.binade := by
          rw [Nat.mul_comm, Nat.mul_add_mod, Nat.mod_eq_of_lt (by omega)]
        have hdiv : ((E + 1) * k.format.binade + (M - k.format.binade)) / k.format.binade = E + 1 := by
          rw [Nat.mul_comm, Nat.mul_add_div hp, Nat.div_eq_of_lt (by omega), Nat.add_zero]
        rw [hmod, hdiv, show k.format.binade + (M - k.format.binade) = M by omega, Nat.add_sub_cancel, hK]
end Fl
end Go.Proofs.Ytecgipilamefmaa

/- Signs of sums, products, quotients; the part of a spread in which a number is. -/
set_option linter.unusedVariables false
set_option linter.unusedSimpArgs false
namespace Go.Proofs.Ytecgipilamefmaa
namespace Fl
open Ieee
theorem add_sign (k : FloatKind) {x y : Nat} (hx : Fin k x) (hy : Fin k y) (sy : sgn k y = false) (h : sgn k x = false ∨ rung k x ≤ rung k y) :
    ∃ r, floatBits .add k x y = some r ∧ sgn k r = false := by
  obtain ⟨m, e, hm, hz⟩ := read_fin k hx
  obtain ⟨n, f, hn, hz2⟩ := read_fin k hy
  rw [sy] at hn
  simp only [floatBits, Format.add, hm, hn, Datum.sum, Option.map_some]
  refine ⟨_, rfl, ?_⟩
  refine (sgn_nearest k _ _ _).trans ?_
  have e1 : (min (k.format.leastPlace + (e : Int)) (k.format.leastPlace + (f : Int)) - k.format.leastPlace).toNat = min e f := by omega
  have e3 : (k.format.leastPlace + (e : Int) - min (k.format.leastPlace + (e : Int)) (k.format.leastPlace + (f : Int))).toNat = e - min e f := by omega
  have e4 : (k.format.leastPlace + (f : Int) - min (k.format.leastPlace + (e : Int)) (k.format.leastPlace + (f : Int))).toNat = f - min e f := by omega
  rw [e3, e4]
  have sgd : ∀ (s : Bool) (a u : Nat), signed s a u = sg s (a * 2 ^ u) := by intro s a u; simp only [signed, sg, Nat.shiftLeft_eq]
  rw [sgd, sgd]
  have hge : 0 ≤ sg (sgn k x) (m * 2 ^ (e - min e f)) + sg false (n * 2 ^ (f - min e f)) := by
    rcases h with h | h
    · rw [h]
      generalize m * 2 ^ (e - min e f) = p1
      generalize n * 2 ^ (f - min e f) = p2
      simp only [sg]; simp; omega
    · have c := (zv_le k).2 h
      rw [hz, hz2] at c
      have c2 : m * 2 ^ (e - min e f) ≤ n * 2 ^ (f - min e f) := by
        have hp : 0 < 2 ^ min e f := Nat.two_pow_pos _
        refine Nat.le_of_mul_le_mul_right ?_ hp
        rw [Nat.mul_assoc, Nat.mul_assoc, ← Nat.pow_add, ← Nat.pow_add, Nat.sub_add_cancel (Nat.min_le_left ..), Nat.sub_add_cancel (Nat.min_le_right ..)]
        exact c
      generalize m * 2 ^ (e - min e f) = p1 at *
      generalize n * 2 ^ (f - min e f) = p2 at *
      cases sgn k x <;> simp only [sg] <;> simp <;> omega
  split
  · simp
  · exact decide_eq_false (by omega)
theorem mul_sign (k : FloatKind) {x y : Nat} (hx : Fin k x) (hy : Fin k y) : ∃ r, floatBits .mul k x y = some r ∧ sgn k r = (sgn k x ^^ sgn k y) := by
  obtain ⟨m, e, hm, hz⟩ := read_fin k hx
  obtain ⟨n, f, hn, hz2⟩ := read_fin k hy
  simp only [floatBits, Format.mul, hm, hn, Datum.product, Option.map_some]
  exact ⟨_, rfl, sgn_nearest k _ _ _⟩
theorem div_sign (k : FloatKind) {x y : Nat} (hx : Fin k x) (hy : Fin k y) (hy0 : rung k y ≠ 0) : ∃ r, floatBits .quo k x y = some r ∧ sgn k r = (sgn k x ^^ sgn k y) := by
  obtain ⟨m, e, hm, hz⟩ := read_fin k hx
  obtain ⟨n, f, hn, hz2⟩ := read_fin k hy
  have hn0 : n ≠ 0 := by
    intro e0
    subst e0
    rw [Nat.zero_mul] at hz2
    exact hy0 ((zv_inj k (r := rung k y) (s := 0)).1 (by rw [zv_zero]; exact hz2))
  simp only [floatBits, Format.div, hm, hn, Datum.quotient, if_neg hn0, Option.map_some]
  exact ⟨_, rfl, sgn_nearest k _ _ _⟩
def cA : Nat := 4607182418263146496
def cO : Nat := 4607182418800017408
def cT : Nat := 4611686018427387904
def cS : Nat := 4611686018158952448
def cH : Nat := 4607182418531581952
theorem part_tab : ∀ p : _root_.Fin 65, 1 ≤ p.val → (match floatBits .mul .f64 cH (fd (p.val : Nat)) with | some u => decide (zv .f64 (rung .f64 u) < p.val * 2 ^ 1074) && decide (rung .f64 u < FloatKind.f64.format.infRung) | none => false) = true := by decide +kernel
theorem fd_tab : ∀ p : _root_.Fin 65, rung .f64 (fd (p.val : Nat)) < FloatKind.f64.format.infRung ∧ sgn .f64 (fd (p.val : Nat)) = false ∧ ab .f64 (fd (p.val : Nat)) = some (fd (p.val : Nat)) := by decide +kernel
theorem part_sum {b : Nat} (hb : ab .f32 b = some b) (h : rung .f32 b ≤ 1065353216) (h2 : rung .f32 b ≤ 1065353215 ∨ b = 3212836864) :
    ∃ s, floatBits .add .f64 (FloatKind.f64.encode (FloatKind.f32.decode b)) cO = some s ∧ sgn .f64 s = false ∧ rung .f64 s ≤ rung .f64 cS := by
  have inf32 : FloatKind.f32.format.infRung = 2139095040 := by decide
  obtain ⟨D, hD⟩ : ∃ D : Nat, D = 925 := ⟨_, rfl⟩
  obtain ⟨w1, w2⟩ := wide_zv (b := b) (by omega) D hD
  obtain ⟨o1, o2⟩ := wide_zv (b := 1065353216) (by decide) D hD
  obtain ⟨a1, a2⟩ := wide_zv (b := 1065353215) (by decide) D hD
  have eO : FloatKind.f64.encode (FloatKind.f32.decode 1065353216) = cO := by decide +kernel
  have eA : FloatKind.f64.encode (FloatKind.f32.decode 1065353215) = cA := by decide +kernel
  rw [eO] at o2; rw [eA] at a2
  have le1 : rung .f64 (FloatKind.f64.encode (FloatKind.f32.decode b)) ≤ rung .f64 cO := (zv_le .f64).1 (by rw [w2, o2]; exact Nat.mul_le_mul_right _ ((zv_le .f32).2 (by rw [show rung .f32 1065353216 = 1065353216 by decide]; exact h)))
  have fO : Fin .f64 cO := by unfold Fin; decide
  have fW : Fin .f64 (FloatKind.f64.encode (FloatKind.f32.decode b)) := by unfold Fin at fO ⊢; omega
  obtain ⟨s, hs, hsg⟩ := add_sign .f64 fW fO (by decide) (.inr le1)
  refine ⟨s, hs, hsg, ?_⟩
  rcases h2 with h2 | rfl
  · have le2 : rung .f64 (FloatKind.f64.encode (FloatKind.f32.decode b)) ≤ rung .f64 cA := (zv_le .f64).1 (by rw [w2, a2]; exact Nat.mul_le_mul_right _ ((zv_le .f32).2 (by rw [show rung .f32 1065353215 = 1065353215 by decide]; exact h2)))
    obtain ⟨r, t, h3, h4, h5⟩ := add_size .f64 fW fO (c := cA) (d := cO) (by unfold Fin; decide) fO (by decide) (by decide) le2 (Nat.le_refl _)
    rw [hs] at h3; cases h3
    have e4 : floatBits .add .f64 cA cO = some cS := by decide +kernel
    rw [e4] at h4; cases h4
    exact h5
  · have e4 : floatBits .add .f64 (FloatKind.f64.encode (FloatKind.f32.decode 3212836864)) cO = some 0 := by decide +kernel
    rw [hs] at e4; cases e4
    decide
theorem part_of {b p : Nat} (hb32 : b < 4294967296) (hge : geO (ab .f32 b) (some 3212836864) = true) (hlt : ltO (ab .f32 b) (some 1065353216) = true) (hp : 1 ≤ p) (hp2 : p ≤ 64) :
    ∃ s h m q : Nat, opO .add .f64 (wide (ab .f32 b)) (some cO) = some s ∧ opO .quo .f64 (some s) (some cT) = some h ∧ opO .mul .f64 (some h) (some (fd (p : Nat))) = some m ∧ floatToIntVal .f64 m .i64 = some (q : Int) ∧ q < p := by
  have hb : ab .f32 b = some b := by
    cases e : ab .f32 b with
    | none => rw [e] at hlt; exact absurd hlt (by decide)
    | some c => rw [ab_some e]
  have hc1 : ab .f32 1065353216 = some 1065353216 := by decide
  have hc2 : ab .f32 3212836864 = some 3212836864 := by decide
  rw [hb] at hge hlt ⊢
  have k1 := order_key .f32 hb hc1
  have k2 := order_key .f32 hb hc2
  have e1 : key .f32 1065353216 = 1065353216 := by decide
  have e2 : key .f32 3212836864 = -1065353216 := by decide
  rw [e1] at k1; rw [e2] at k2
  have l1 : key .f32 b < 1065353216 := by
    have h1 : (FloatKind.f32.format.order b 1065353216 == some .lt) = true := hlt
    rw [k1] at h1
    simp only [beq_iff_eq, Option.some.injEq] at h1
    exact Int.compare_eq_lt.1 h1
  have l2 : -1065353216 ≤ key .f32 b := by
    have h1 : (FloatKind.f32.format.order b 3212836864 == some .gt || FloatKind.f32.format.order b 3212836864 == some .eq) = true := hge
    rw [k2] at h1
    simp only [Bool.or_eq_true, beq_iff_eq, Option.some.injEq] at h1
    rcases h1 with h | h
    · have := Int.compare_eq_gt.1 h; omega
    · have := Int.compare_eq_eq.1 h; omega
  have hr : rung .f32 b ≤ 1065353216 ∧ (rung .f32 b ≤ 1065353215 ∨ b = 3212836864) := by
    unfold key sg at l1 l2
    cases hs : sgn .f32 b
    · rw [hs] at l1; simp at l1; omega
    · rw [hs] at l2; simp at l2
      have hs2 := hs
      unfold sgn at hs2
      rw [sw32] at hs2
      have hd : b / 2147483648 % 2 = 1 := by simpa using hs2
      have hrr : rung .f32 b = b % 2147483648 := by unfold rung; rw [sw32]
      omega
  obtain ⟨s, h3, h4, h5⟩ := part_sum hb hr.1 hr.2
  have inf64 : FloatKind.f64.format.infRung = 9218868437227405312 := by decide
  have rS : rung .f64 cS = 4611686018158952448 := by decide
  have rT : rung .f64 cT = 4611686018427387904 := by decide
  have rH : rung .f64 cH = 4607182418531581952 := by decide
  have fs : Fin .f64 s := by unfold Fin; omega
  have fT : Fin .f64 cT := by unfold Fin; omega
  have fH : Fin .f64 cH := by unfold Fin; omega
  obtain ⟨h, q1, q2⟩ := div_sign .f64 fs fT (by omega)
  obtain ⟨D, hD⟩ : ∃ D : Nat, D = 1074 := ⟨_, rfl⟩
  obtain ⟨h', q3, q4⟩ := div_size .f64 fs fT fH (by omega) D (by rw [hD]; decide) (by
    have c1 := (zv_le .f64).2 h5
    have c2 : zv .f64 (rung .f64 cS) * 2 ^ D ≤ zv .f64 (rung .f64 cH) * zv .f64 (rung .f64 cT) := by rw [hD]; decide +kernel
    exact Nat.le_trans (Nat.mul_le_mul_right _ c1) c2)
  rw [q1] at q3; cases q3
  have sT : sgn .f64 cT = false := by decide
  rw [h4, sT] at q2
  have fh : Fin .f64 h := by unfold Fin; omega
  obtain ⟨fp1, fp2, fp3⟩ := fd_tab ⟨p, by omega⟩
  have tb := part_tab ⟨p, by omega⟩ hp
  dsimp only at fp1 fp2 fp3 tb
  obtain ⟨m, q5, q6⟩ := mul_sign .f64 fh (show Fin .f64 (fd (p : Nat)) from fp1)
  obtain ⟨m', u, q7, q8, q9⟩ := mul_size .f64 fh (show Fin .f64 (fd (p : Nat)) from fp1) fH (show Fin .f64 (fd (p : Nat)) from fp1) q4 (Nat.le_refl _)
  rw [q5] at q7; cases q7
  rw [q8] at tb
  simp only [Bool.and_eq_true, decide_eq_true_eq] at tb
  have q2' : sgn .f64 h = false := q2
  rw [q2', fp2] at q6
  have fm : rung .f64 m < FloatKind.f64.format.infRung := by omega
  have hw : whl D m < p := by
    unfold whl
    have c3 := (zv_le .f64).2 q9
    have tb1 : zv .f64 (rung .f64 u) < p * 2 ^ D := by rw [hD]; exact tb.1
    clear tb
    exact Nat.div_lt_of_lt_mul (by rw [Nat.mul_comm]; exact Nat.lt_of_le_of_lt c3 tb1)
  have hti := toInt_whole hD fm (by omega)
  have q6' : sgn .f64 m = false := q6
  rw [q6'] at hti
  have aw : ab .f64 (FloatKind.f64.encode (FloatKind.f32.decode b)) = some (FloatKind.f64.encode (FloatKind.f32.decode b)) := ab_wide hb
  refine ⟨s, h, m, whl D m, ?_, q1, q5, ?_, hw⟩
  · have hwd : wide (some b) = some (FloatKind.f64.encode (FloatKind.f32.decode b)) := rfl
    rw [hwd]
    exact h3
  · rw [hti]; simp [sg]
end Fl
end Go.Proofs.Ytecgipilamefmaa

/- Halving and doubling until a number is near one: closed forms, both sides' loops. -/
set_option linter.unusedVariables false
set_option linter.unusedSimpArgs false
namespace Go.Proofs.Ytecgipilamefmaa
open Fl Go.RowKit Ieee
def bB : Nat := 4503599627370496
def nK (x : Nat) : Nat := if x < 4609434218613702656 then 0 else (x - 4609434218613702656) / 4503599627370496 + 1
def nJ (x : Nat) : Nat := (4604930618986332160 - x + 4503599627370495) / 4503599627370496
def nY (x : Nat) : Nat := x - nK x * 4503599627370496
def nX (x : Nat) : Nat := nY x + nJ (nY x) * 4503599627370496
def nN (x : Nat) : Int := (nK x : Int) - (nJ (nY x) : Int)
theorem word_pos {r : Nat} (h : r < 9223372036854775808) : rung .f64 r = r ∧ sgn .f64 r = false := by
  have e : FloatKind.f64.format.signWeight = 9223372036854775808 := by decide
  unfold rung sgn
  rw [e]
  exact ⟨Nat.mod_eq_of_lt h, by rw [Nat.div_eq_of_lt h]; rfl⟩
theorem pos_word {r : Nat} (h : r < 18446744073709551616) (hs : sgn .f64 r = false) : r = rung .f64 r := by
  have e : FloatKind.f64.format.signWeight = 9223372036854775808 := by decide
  unfold rung
  unfold sgn at hs
  rw [e] at hs ⊢
  have h2 : r / 9223372036854775808 < 2 := by omega
  have h3 : r / 9223372036854775808 = 0 := by
    rcases (show r / 9223372036854775808 = 0 ∨ r / 9223372036854775808 = 1 by omega) with h | h
    · exact h
    · rw [h] at hs; cases hs
  omega
theorem halfW {x : Nat} (h1 : 9007199254740992 ≤ x) (h2 : x < 9218868437227405312) : floatBits .quo .f64 x cTwo = some (x - 4503599627370496) := by
  obtain ⟨a, b⟩ := word_pos (r := x) (by omega)
  have hi : FloatKind.f64.format.infRung = 9218868437227405312 := by decide
  have hb : FloatKind.f64.format.binade = 4503599627370496 := by decide
  obtain ⟨r, hr, he⟩ := halfE (x := x) (by rw [a, hi]; exact h2) (by rw [a, hb]; omega)
  obtain ⟨r', hr', hs⟩ := div_sign .f64 (x := x) (y := cTwo) (by show rung .f64 x < _; rw [a, hi]; exact h2) (by decide : rung .f64 cTwo < _) (by decide)
  have hr2 : r = r' := Option.some.inj (hr.symm.trans hr')
  subst hr2
  rw [b, show sgn .f64 cTwo = false by decide] at hs
  have := pos_word (fv_op (.inr (.inr (.inr rfl))) hr).1 hs
  rw [hr, this]
  rw [a, hb] at he
  exact congrArg some (by omega)
theorem dblW {x : Nat} (h1 : 4503599627370496 ≤ x) (h2 : x < 9214364837600034816) : floatBits .mul .f64 x cTwo = some (x + 4503599627370496) := by
  obtain ⟨a, b⟩ := word_pos (r := x) (by omega)
  obtain ⟨a', b'⟩ := word_pos (r := x + 4503599627370496) (by omega)
  have hi : FloatKind.f64.format.infRung = 9218868437227405312 := by decide
  have hb : FloatKind.f64.format.binade = 4503599627370496 := by decide
  obtain ⟨z, hz, hf, he⟩ := mul_exact .f64 (x := x) (y := cTwo) (r := x + 4503599627370496) (by show rung .f64 x < _; rw [a, hi]; omega) (by decide : rung .f64 cTwo < _) (by rw [hi]; omega) 1074 (by decide) (by
    rw [Int.natAbs_mul, sv_abs, sv_abs, a]
    have e := zv_step .f64 (r := x) (by rw [hb]; exact h1)
    rw [hb] at e
    rw [e]
    have e0 : zv .f64 (rung .f64 cTwo) = 2 * 2 ^ 1074 := by decide +kernel
    rw [e0]
    generalize zv .f64 x = z
    generalize (2 : Nat) ^ 1074 = E
    rw [Nat.mul_comm 2 z, Nat.mul_assoc])
  obtain ⟨r', hr', hs⟩ := mul_sign .f64 (x := x) (y := cTwo) (by show rung .f64 x < _; rw [a, hi]; omega) (by decide : rung .f64 cTwo < _)
  have hr2 : z = r' := Option.some.inj (hz.symm.trans hr')
  subst hr2
  rw [b, show sgn .f64 cTwo = false by decide] at hs
  have hw := pos_word (fv_op (.inr (.inr (.inl rfl))) hz).1 hs
  have e1 : zv .f64 (rung .f64 z) * 2 ^ 1074 = zv .f64 (x + 4503599627370496) * 2 ^ 1074 := by
    have e2 : (sv .f64 z).natAbs * (((2 ^ 1074 : Nat) : Int)).natAbs = (sv .f64 x * sv .f64 cTwo).natAbs := by rw [← he, Int.natAbs_mul]
    rw [Int.natAbs_natCast] at e2
    rw [sv_abs] at e2
    rw [e2, Int.natAbs_mul, sv_abs, sv_abs, a]
    have e := zv_step .f64 (r := x) (by rw [hb]; exact h1)
    rw [hb] at e
    rw [e]
    have e0 : zv .f64 (rung .f64 cTwo) = 2 * 2 ^ 1074 := by decide +kernel
    rw [e0]
    generalize zv .f64 x = z
    generalize (2 : Nat) ^ 1074 = E
    rw [Nat.mul_comm 2 z, Nat.mul_assoc]
  have e3 := (zv_inj .f64).1 (Nat.eq_of_mul_eq_mul_right (Nat.two_pow_pos _) e1)
  rw [hz, hw, e3]
theorem cnt2 : ∀ a < 64, ∀ b < 8, floatBits .add .f64 (floatOfInt .f64 (((8 * a + b : Nat) : Int) - 256)) cOne = some (floatOfInt .f64 (((8 * a + b : Nat) : Int) - 256 + 1)) ∧ floatBits .sub .f64 (floatOfInt .f64 (((8 * a + b : Nat) : Int) - 256)) cOne = some (floatOfInt .f64 (((8 * a + b : Nat) : Int) - 256 - 1)) := by decide +kernel
theorem cnt (n : Int) (h1 : -256 ≤ n) (h2 : n < 256) : floatBits .add .f64 (floatOfInt .f64 n) cOne = some (floatOfInt .f64 (n + 1)) ∧ floatBits .sub .f64 (floatOfInt .f64 n) cOne = some (floatOfInt .f64 (n - 1)) := by
  obtain ⟨k, hk⟩ := Int.eq_ofNat_of_zero_le (a := n + 256) (by omega)
  have h := cnt2 (k / 8) (by omega) (k % 8) (by omega)
  rw [Nat.div_add_mod] at h
  rw [show n = (k : Int) - 256 by omega]
  exact h
theorem ab_pos {x : Nat} (h : x ≤ 9218868437227405312) : ab .f64 x = some x := by
  rw [ab64, if_neg (by omega)]
theorem ord_posW {x c : Nat} (hx : x ≤ 9218868437227405312) (hc : c ≤ 9218868437227405312) : FloatKind.f64.format.order x c = some (compare (x : Int) (c : Int)) := by
  rw [order_key .f64 (ab_pos hx) (ab_pos hc)]
  unfold key
  obtain ⟨a, b⟩ := word_pos (r := x) (by omega)
  obtain ⟨a', b'⟩ := word_pos (r := c) (by omega)
  rw [a, b, a', b']
  rfl
theorem ge_posW {x c : Nat} (hx : x ≤ 9218868437227405312) (hc : c ≤ 9218868437227405312) : (FloatKind.f64.format.order x c == some .gt || FloatKind.f64.format.order x c == some .eq) = decide (c ≤ x) := by
  rw [ord_posW hx hc, cmp_def]
  rcases Nat.lt_trichotomy x c with h | h | h
  · rw [if_pos (by omega), decide_eq_false (by omega)]; rfl
  · rw [if_neg (by omega), if_pos (by omega), decide_eq_true (by omega)]; rfl
  · rw [if_neg (by omega), if_neg (by omega), decide_eq_true (by omega)]; rfl
theorem lt_posW {x c : Nat} (hx : x ≤ 9218868437227405312) (hc : c ≤ 9218868437227405312) : (FloatKind.f64.format.order x c == some .lt) = decide (x < c) := by
  rw [ord_posW hx hc, cmp_def]
  rcases Nat.lt_trichotomy x c with h | h | h
  · rw [if_pos (by omega), decide_eq_true (by omega)]; rfl
  · rw [if_neg (by omega), if_pos (by omega), decide_eq_false (by omega)]; rfl
  · rw [if_neg (by omega), if_neg (by omega), decide_eq_false (by omega)]; rfl
theorem nK_step {x k : Nat} (h : k ≤ nK x) : (k < nK x ↔ 4609434218613702656 ≤ x - k * 4503599627370496) := by
  unfold nK at *
  split at h
  · rw [if_pos (by assumption)]; omega
  · rw [if_neg (by assumption)]; omega
theorem nK_le {x : Nat} (h : x < 5183643171103440896) : nK x ≤ 128 := by
  unfold nK
  split <;> omega
theorem nY_lo {x : Nat} (h1 : 3936146074321813504 ≤ x) (h2 : x < 5183643171103440896) : 3936146074321813504 ≤ nY x ∧ nY x < 4609434218613702656 := by
  unfold nY nK
  split <;> omega
theorem nJ_step {y j : Nat} (h : j ≤ nJ y) : (j < nJ y ↔ y + j * 4503599627370496 < 4604930618986332160) := by
  unfold nJ at *
  omega
theorem nJ_le {y : Nat} (h1 : 3936146074321813504 ≤ y) : nJ y ≤ 149 := by
  unfold nJ
  omega
theorem nX_lo {x : Nat} (h1 : 3936146074321813504 ≤ x) (h2 : x < 5183643171103440896) : 4604930618986332160 ≤ nX x ∧ nX x < 4609434218613702656 := by
  have := nY_lo h1 h2
  unfold nX nJ
  omega
theorem nN_le {x : Nat} (h1 : 3936146074321813504 ≤ x) (h2 : x < 5183643171103440896) : -149 ≤ nN x ∧ nN x ≤ 128 := by
  have := nJ_le (nY_lo h1 h2).1
  have := nK_le h2
  unfold nN
  omega
theorem fq2 : Hid (Fv .f64 4611686018427387904 (some cTwo)) := fv64c (by decide) (by rw [ab64]; rfl)
theorem fv_pos {x : Nat} (h : x ≤ 9218868437227405312) : Hid (Fv .f64 x (some x)) := fv64c (by omega) (ab_pos h)
theorem fv_isL {r v : Nat} {X : O} (h : Hid (Fv .f64 r X)) (e : X = some v) : r = v := by
  have := h.out.2
  rw [e] at this
  exact (ab_some this).symm
set_option maxHeartbeats 1000000 in
theorem implNear_any (x : Nat) (w : World) (h1 : 3936146074321813504 ≤ x) (h2 : x < 5183643171103440896) :
    Calls Try.prog 69 #[.float .f64 x] w fun e w' => ∃ m, e = .returned (.tuple #[.float .f64 (nX x), .float .f64 (floatOfInt .f64 (nN x))]) ∧ w' = w.drewN m := by
  have H1 := Lib.hid h1; have H2 := Lib.hid h2; clear h1 h2
  have q1 := fq1; have q2 := fq2
  go_enter Try.func69, Try.ntmps69
  go_wp2
  go_loopw [0, 4] (fun p kk wr => ∃ (k m X : Nat), kk = .float .f64 (floatOfInt .f64 (k : Int)) ∧ p = .float .f64 X ∧ Hid (X = x - k * 4503599627370496 ∧ k ≤ nK x) ∧ wr = w.drewN m) (fun p _ _ => match p with | .float _ b => b | _ => 0)
  case atStart => exact ⟨0, 0, x, rfl, rfl, Lib.hid ⟨by omega, by omega⟩, rfl⟩
  case round =>
    obtain ⟨k, m, X, rfl, rfl, hX, rfl⟩ := hrel
    have hk := nK_le H2.out
    have hl : X ≤ 9218868437227405312 := by have := hX.out.1; have := H2.out; omega
    have ho := ge_posW hl (show 4609434218613702656 ≤ 9218868437227405312 by decide)
    have f1 := fv_pos hl
    have f2 := fqi (k : Int)
    have hs := nK_step hX.out.2
    rw [← hX.out.1] at hs
    by_cases hlt : k < nK x
    · rw [decide_eq_true (hs.1 hlt)] at ho
      have hge := Lib.hid (hs.1 hlt)
      have hk2 : Hid (k < nK x ∧ nK x ≤ 128) := Lib.hid ⟨hlt, hk⟩
      clear hs hlt hk hl
      go_wp2_with (first | (with_reducible_and_instances refine Lo.wpList_fo _ rfl .quo _ _ _ _ rfl _ _ _ _ _ rfl rfl rfl (by assumption) (by assumption) ?_; intro r1 n1 e1) | (with_reducible_and_instances refine Lo.wpList_fo _ rfl .add _ _ _ _ rfl _ _ _ _ _ rfl rfl rfl (by assumption) (by assumption) ?_; intro r2 n2 e2))
      go_roundw
      case rel =>
        have g1 := fv_isL e1 (show opO .quo .f64 (some X) (some cTwo) = _ from halfW (by have := hge.out; omega) (by have := hX.out.1; have := H2.out; omega))
        have g2 := fv_isL e2 (show opO .add .f64 (some (floatOfInt .f64 (k : Int))) (some cOne) = _ from (cnt k (by omega) (by have := hk2.out; omega)).1)
        refine ⟨k + 1, _, r1, by rw [g2]; rfl, rfl, Lib.hid ⟨?_, by have := hk2.out; omega⟩, rfl⟩
        rw [g1, hX.out.1]
        omega
      case measure =>
        have g1 := fv_isL e1 (show opO .quo .f64 (some X) (some cTwo) = _ from halfW (by have := hge.out; omega) (by have := hX.out.1; have := H2.out; omega))
        have := hge.out
        show r1 < X
        omega
    · rw [decide_eq_false (fun h => hlt (hs.2 h))] at ho
      obtain rfl : k = nK x := by have := hX.out.2; omega
      obtain rfl : X = nY x := hX.out.1
      have hy := Lib.hid (nY_lo H1.out H2.out)
      have HK := Lib.hid hk
      clear hs hlt hk hl f1 f2 hX
      go_wp2
      go_loopw [0, 4] (fun p kk wr => ∃ (j m X : Nat), kk = .float .f64 (floatOfInt .f64 ((nK x : Int) - (j : Int))) ∧ p = .float .f64 X ∧ Hid (X = nY x + j * 4503599627370496 ∧ j ≤ nJ (nY x)) ∧ wr = w.drewN m) (fun p _ _ => 9218868437227405312 - (match p with | .float _ b => b | _ => 0))
      case atStart => exact ⟨0, m, nY x, by simp, rfl, Lib.hid ⟨by omega, by omega⟩, rfl⟩
      case round =>
        obtain ⟨j, m, X, rfl, rfl, hX, rfl⟩ := hrel
        have hj := nJ_le hy.out.1
        have hl : X ≤ 9218868437227405312 := by have := hX.out; have := hy.out; omega
        have hu := lt_posW hl (show 4604930618986332160 ≤ 9218868437227405312 by decide)
        have f1 := fv_pos hl
        have f2 := fqi ((nK x : Int) - (j : Int))
        have hs := nJ_step hX.out.2
        rw [← hX.out.1] at hs
        clear ho
        by_cases hlt : j < nJ (nY x)
        · rw [decide_eq_true (hs.1 hlt)] at hu
          have hge := Lib.hid (hs.1 hlt)
          have hk2 : Hid (j < nJ (nY x) ∧ nJ (nY x) ≤ 149) := Lib.hid ⟨hlt, hj⟩
          clear hs hlt hj hl
          go_wp2_with (first | (with_reducible_and_instances refine Lo.wpList_fo _ rfl .mul _ _ _ _ rfl _ _ _ _ _ rfl rfl rfl (by assumption) (by assumption) ?_; intro r1 n1 e1) | (with_reducible_and_instances refine Lo.wpList_fo _ rfl .sub _ _ _ _ rfl _ _ _ _ _ rfl rfl rfl (by assumption) (by assumption) ?_; intro r2 n2 e2))
          go_roundw
          case rel =>
            have g1 := fv_isL e1 (show opO .mul .f64 (some X) (some cTwo) = _ from dblW (by have := hX.out.1; have := hy.out; omega) (by have := hge.out; omega))
            have g2 := fv_isL e2 (show opO .sub .f64 (some (floatOfInt .f64 ((nK x : Int) - (j : Int)))) (some cOne) = _ from (cnt _ (by have := hk2.out; omega) (by have := HK.out; omega)).2)
            refine ⟨j + 1, _, r1, by rw [g2]; congr 2; omega, rfl, Lib.hid ⟨?_, by have := hk2.out; omega⟩, rfl⟩
            rw [g1, hX.out.1]
            omega
          case measure =>
            have g1 := fv_isL e1 (show opO .mul .f64 (some X) (some cTwo) = _ from dblW (by have := hX.out.1; have := hy.out; omega) (by have := hge.out; omega))
            have := hge.out
            show 9218868437227405312 - r1 < 9218868437227405312 - X
            omega
        · rw [decide_eq_false (fun h => hlt (hs.2 h))] at hu
          obtain rfl : j = nJ (nY x) := by have := hX.out.2; omega
          obtain rfl : X = nX x := hX.out.1
          clear hs hlt hj hl
          go_wp2
          go_ret2
          exact ⟨_, rfl, rfl⟩
end Go.Proofs.Ytecgipilamefmaa

/- Logarithms in 64 bits: what both sides say, and how great it is. -/
set_option linter.unusedVariables false
set_option linter.unusedSimpArgs false
namespace Go.Proofs.Ytecgipilamefmaa
open Fl Go.RowKit Ieee
def cLn2 : Nat := 4604418534313441775
def lnK (i : Nat) : Int := 25 - 2 * (i : Int)
def lnP (u : O) : Nat → O
  | 0 => some 0
  | i + 1 => opO .add .f64 (opO .quo .f64 (some cOne) (some (floatOfInt .f64 (lnK i)))) (opO .mul .f64 u (lnP u i))
def lnS (X : Nat) : O := opO .quo .f64 (opO .sub .f64 (some X) (some cOne)) (opO .add .f64 (some X) (some cOne))
def lnQ (s : O) : O := opO .mul .f64 s (lnP (opO .mul .f64 s s) 13)
def lnR (X : Nat) (n : Int) : O := opO .add .f64 (opO .mul .f64 (some cTwo) (lnQ (lnS X))) (opO .mul .f64 (some (floatOfInt .f64 n)) (some cLn2))
def cS : Nat := 4612811918334230528
def cU : Nat := (floatBits .mul .f64 cS cS).getD 0
def qB : Nat → Nat
  | 0 => 0
  | i + 1 => (floatBits .add .f64 cOne ((floatBits .mul .f64 cU (qB i)).getD 0)).getD 0
def cQ : Nat := (floatBits .mul .f64 cS (qB 13)).getD 0
def cZ : Nat := (floatBits .mul .f64 cTwo cQ).getD 0
def cE : Nat := (floatBits .mul .f64 4643211215818981376 cLn2).getD 0
def cR : Nat := (floatBits .add .f64 cZ cE).getD 0
theorem qB_tab : ∀ i < 13, floatBits .mul .f64 cU (qB i) = some ((floatBits .mul .f64 cU (qB i)).getD 0) ∧ floatBits .add .f64 cOne ((floatBits .mul .f64 cU (qB i)).getD 0) = some (qB (i + 1)) ∧ rung .f64 (qB i) < FloatKind.f64.format.infRung ∧ rung .f64 ((floatBits .mul .f64 cU (qB i)).getD 0) < FloatKind.f64.format.infRung ∧ sgn .f64 ((floatBits .mul .f64 cU (qB i)).getD 0) = false ∧ rung .f64 cOne ≤ rung .f64 (floatOfInt .f64 (lnK i)) ∧ rung .f64 (floatOfInt .f64 (lnK i)) < FloatKind.f64.format.infRung := by decide +kernel
theorem lnP_size {u : Nat} (hu : rung .f64 u ≤ rung .f64 cU) : ∀ i, i ≤ 13 → ∃ q, lnP (some u) i = some q ∧ rung .f64 q ≤ rung .f64 (qB i)
  | 0, _ => ⟨0, rfl, by decide⟩
  | i + 1, hi => by
    obtain ⟨q, hq, hle⟩ := lnP_size hu i (by omega)
    obtain ⟨t1, t2, t3, t4, t5, t6, t7⟩ := qB_tab i (by omega)
    have hU : Fin .f64 cU := by unfold Fl.Fin; decide +kernel
    obtain ⟨m, m', hm, hm', hl⟩ := mul_size .f64 (x := u) (y := q) (c := cU) (d := qB i) (Nat.lt_of_le_of_lt hu hU) (Nat.lt_of_le_of_lt hle t3) hU t3 hu hle
    have e1 := Option.some.inj (t1.symm.trans hm')
    rw [← e1] at hl
    obtain ⟨v, hv, hvl⟩ := divC (x := cOne) (y := floatOfInt .f64 (lnK i)) (c := cOne) (Nat.le_refl _) (by unfold Fl.Fin; decide) t6 t7
    obtain ⟨r, r', hr, hr', hrl⟩ := add_size .f64 (x := v) (y := m) (c := cOne) (d := (floatBits .mul .f64 cU (qB i)).getD 0) (Nat.lt_of_le_of_lt hvl (by decide)) (Nat.lt_of_le_of_lt hl t4) (by unfold Fl.Fin; decide) t4 (by decide) t5 hvl hl
    have e2 := Option.some.inj (t2.symm.trans hr')
    rw [← e2] at hrl
    refine ⟨r, ?_, hrl⟩
    unfold lnP
    rw [hq]
    show opO .add .f64 (opO .quo .f64 (some cOne) (some (floatOfInt .f64 (lnK i)))) (floatBits .mul .f64 u q) = some r
    rw [hv, hm]
    exact hr
theorem ln_tab : floatBits .mul .f64 cS cS = some cU ∧ floatBits .mul .f64 cS (qB 13) = some cQ ∧ floatBits .mul .f64 cTwo cQ = some cZ ∧ floatBits .mul .f64 4643211215818981376 cLn2 = some cE ∧ floatBits .add .f64 cZ cE = some cR ∧ rung .f64 (qB 13) < FloatKind.f64.format.infRung ∧ rung .f64 cQ < FloatKind.f64.format.infRung ∧ rung .f64 cZ < FloatKind.f64.format.infRung ∧ sgn .f64 cZ = false ∧ rung .f64 cE < FloatKind.f64.format.infRung ∧ sgn .f64 cE = false ∧ floatBits .add .f64 4609434218613702656 cOne = some cS ∧ floatBits .add .f64 0 cOne = some cOne := by decide +kernel
theorem n_tab : ∀ a < 64, ∀ b < 8, rung .f64 (floatOfInt .f64 (((8 * a + b : Nat) : Int) - 256)) ≤ rung .f64 4643211215818981376 := by decide +kernel
theorem n_size {n : Int} (h1 : -256 ≤ n) (h2 : n < 256) : rung .f64 (floatOfInt .f64 n) ≤ rung .f64 4643211215818981376 := by
  obtain ⟨k, hk⟩ := Int.eq_ofNat_of_zero_le (a := n + 256) (by omega)
  have h := n_tab (k / 8) (by omega) (k % 8) (by omega)
  rw [Nat.div_add_mod] at h
  rw [show n = (k : Int) - 256 by omega]
  exact h
theorem lnR_size {X : Nat} {n : Int} (h1 : 4604930618986332160 ≤ X) (h2 : X < 4609434218613702656) (h3 : -256 ≤ n) (h4 : n < 256) : ∃ r, lnR X n = some r ∧ rung .f64 r ≤ rung .f64 cR := by
  obtain ⟨wx, sx⟩ := word_pos (r := X) (by omega)
  obtain ⟨t1, t2, t3, t4, t5, t6, t7, t8, t9, t10, t11, t12, t13⟩ := ln_tab
  have hc15 : rung .f64 4609434218613702656 = 4609434218613702656 := by decide
  have hX : rung .f64 X ≤ rung .f64 4609434218613702656 := by rw [wx, hc15]; omega
  have fX : Fin .f64 X := Nat.lt_of_le_of_lt hX (by decide)
  have f15 : Fin .f64 4609434218613702656 := by unfold Fl.Fin; decide
  have o1 : Fin .f64 cOne := by unfold Fl.Fin; decide
  have fS : Fin .f64 cS := by unfold Fl.Fin; decide
  obtain ⟨a, a', ha, ha', hal⟩ := sub_size .f64 (x := X) (y := cOne) (c := 4609434218613702656) (d := cOne) fX o1 f15 o1 (by decide) (by decide) hX (Nat.le_refl _)
  have e1 := Option.some.inj (t12.symm.trans ha'); rw [← e1] at hal
  obtain ⟨s, s', hs, hs', hsl⟩ := add_size .f64 (x := X) (y := cOne) (c := 4609434218613702656) (d := cOne) fX o1 f15 o1 (by decide) (by decide) hX (Nat.le_refl _)
  have e2 := Option.some.inj (t12.symm.trans hs'); rw [← e2] at hsl
  obtain ⟨z, z', hz, hz', hzl⟩ := add_size .f64 (x := 0) (y := cOne) (c := X) (d := cOne) (by unfold Fl.Fin; decide) o1 fX o1 sx (by decide) (Nat.zero_le _) (Nat.le_refl _)
  have e3 := Option.some.inj (hs.symm.trans hz'); rw [← e3] at hzl
  have e4 := Option.some.inj (t13.symm.trans hz); rw [← e4] at hzl
  have hsF : Fin .f64 s := Nat.lt_of_le_of_lt hsl fS
  obtain ⟨q, hq, hql⟩ := divC (x := a) (y := s) (c := cS) hal fS hzl hsF
  have hqF : Fin .f64 q := Nat.lt_of_le_of_lt hql fS
  obtain ⟨u, u', hu, hu', hul⟩ := mul_size .f64 (x := q) (y := q) (c := cS) (d := cS) hqF hqF fS fS hql hql
  have e5 := Option.some.inj (t1.symm.trans hu'); rw [← e5] at hul
  obtain ⟨p, hp, hpl⟩ := lnP_size hul 13 (Nat.le_refl _)
  obtain ⟨v, v', hv, hv', hvl⟩ := mul_size .f64 (x := q) (y := p) (c := cS) (d := qB 13) hqF (Nat.lt_of_le_of_lt hpl t6) fS t6 hql hpl
  have e6 := Option.some.inj (t2.symm.trans hv'); rw [← e6] at hvl
  obtain ⟨y, y', hy, hy', hyl⟩ := mul_size .f64 (x := cTwo) (y := v) (c := cTwo) (d := cQ) (by unfold Fl.Fin; decide) (Nat.lt_of_le_of_lt hvl t7) (by unfold Fl.Fin; decide) t7 (Nat.le_refl _) hvl
  have e7 := Option.some.inj (t3.symm.trans hy'); rw [← e7] at hyl
  have hn := n_size h3 h4
  obtain ⟨g, g', hg, hg', hgl⟩ := mul_size .f64 (x := floatOfInt .f64 n) (y := cLn2) (c := 4643211215818981376) (d := cLn2) (Nat.lt_of_le_of_lt hn (by decide)) (by unfold Fl.Fin; decide) (by unfold Fl.Fin; decide) (by unfold Fl.Fin; decide) hn (Nat.le_refl _)
  have e8 := Option.some.inj (t4.symm.trans hg'); rw [← e8] at hgl
  obtain ⟨r, r', hr, hr', hrl⟩ := add_size .f64 (x := y) (y := g) (c := cZ) (d := cE) (Nat.lt_of_le_of_lt hyl t8) (Nat.lt_of_le_of_lt hgl t10) t8 t10 t9 t11 hyl hgl
  have e9 := Option.some.inj (t5.symm.trans hr'); rw [← e9] at hrl
  refine ⟨r, ?_, hrl⟩
  have k1 : lnS X = some q := by
    unfold lnS
    show opO .quo .f64 (floatBits .sub .f64 X cOne) (floatBits .add .f64 X cOne) = some q
    rw [ha, hs]; exact hq
  unfold lnR lnQ
  rw [k1]
  show opO .add .f64 (opO .mul .f64 (some cTwo) (opO .mul .f64 (some q) (lnP (floatBits .mul .f64 q q) 13))) (floatBits .mul .f64 (floatOfInt .f64 n) cLn2) = some r
  rw [hu, hp, hg]
  show opO .add .f64 (opO .mul .f64 (some cTwo) (floatBits .mul .f64 q p)) (some g) = some r
  rw [hv]
  show opO .add .f64 (floatBits .mul .f64 cTwo v) (some g) = some r
  rw [hy]; exact hr
def logO : O → O
  | none => none
  | some b => if b = 0 ∨ b = 2147483648 then some 18442240474082181120 else if 2147483648 < b then none else if b = 2139095040 then some cInf else lnR (nX (wideW b)) (nN (wideW b))
end Go.Proofs.Ytecgipilamefmaa

/- Logarithms in 64 bits: both walks. -/
set_option linter.unusedVariables false
set_option linter.unusedSimpArgs false
namespace Go.Proofs.Ytecgipilamefmaa
open Fl Go.RowKit Ieee
theorem fvNInf : Fv .f64 18442240474082181120 (some 18442240474082181120) := ⟨by decide, by rw [ab64]; rfl⟩
theorem mathInfN_any (w : World) : Calls Try.prog 66 #[.int .i64 (-1)] w fun e w' => e = .returned (.float .f64 18442240474082181120) ∧ w = w' := by
  go_enter Try.func66, Try.ntmps66
  go_wp2
  go_ret
  exact ⟨rfl, rfl⟩
theorem mathIsInf1 (x : Nat) (b : Bool) (w : World) (h : (FloatKind.f64.format.order x 9218868437227405311 == some .gt) = b) : Calls Try.prog 68 #[.float .f64 x, .int .i64 1] w fun e w' => e = .returned (.bool b) ∧ w = w' := by
  cases b
  all_goals
    go_enter Try.func68, Try.ntmps68
    go_wp2
    go_ret
    exact ⟨rfl, rfl⟩
theorem wide_pos {b : Nat} (h1 : 1 ≤ b) (h2 : b ≤ 2139095039) : 3936146074321813504 ≤ wideW b ∧ wideW b < 5183643171103440896 := by
  obtain ⟨D, hD⟩ : ∃ D, D = 925 := ⟨_, rfl⟩
  have hr : rung .f32 b = b := by unfold rung; rw [sw32]; omega
  have hs : sgn .f32 b = false := by unfold sgn; rw [sw32, Nat.div_eq_of_lt (by omega)]; rfl
  have e1 := wide_zv (b := b) (by rw [hr, ir32]; omega) D hD
  have e2 := (wide_zv (b := 1) (by decide) D hD).2
  have e3 := (wide_zv (b := 2139095039) (by decide) D hD).2
  have hw : wideW b = rung .f64 (wideW b) := pos_word (FloatKind.f64.format.write_lt _) (e1.1.trans hs)
  have l1 : rung .f64 (FloatKind.f64.encode (FloatKind.f32.decode 1)) = 3936146074321813504 := by decide +kernel
  have l2 : rung .f64 (FloatKind.f64.encode (FloatKind.f32.decode 2139095039)) < 5183643171103440896 := by decide +kernel
  have g1 : rung .f64 (FloatKind.f64.encode (FloatKind.f32.decode 1)) ≤ rung .f64 (wideW b) := by
    refine (zv_le .f64).1 ?_
    unfold wideW
    rw [e1.2, e2]
    exact Nat.mul_le_mul_right _ ((zv_le .f32).2 (by rw [hr, show rung .f32 1 = 1 by decide]; exact h1))
  have g2 : rung .f64 (wideW b) ≤ rung .f64 (FloatKind.f64.encode (FloatKind.f32.decode 2139095039)) := by
    refine (zv_le .f64).1 ?_
    unfold wideW
    rw [e1.2, e3]
    exact Nat.mul_le_mul_right _ ((zv_le .f32).2 (by rw [hr, show rung .f32 2139095039 = 2139095039 by decide]; exact h2))
  omega
theorem logO_some (b : Nat) : logO (some b) = if b = 0 ∨ b = 2147483648 then some 18442240474082181120 else if 2147483648 < b then none else if b = 2139095040 then some cInf else lnR (nX (wideW b)) (nN (wideW b)) := rfl
/-- what a 32-bit number is for the logarithm -/
theorem ln_cases (b : Nat) (hb : b < 4294967296) : ab .f32 b = none ∨ (ab .f32 b = some b ∧ ((b = 0 ∨ b = 2147483648) ∨ (2147483648 < b ∧ b ≤ 4286578688) ∨ b = 2139095040 ∨ (1 ≤ b ∧ b ≤ 2139095039))) := by
  rw [ab32]
  split
  · exact .inl rfl
  · refine .inr ⟨rfl, ?_⟩
    omega
theorem ln_neg {b y : Nat} (h1 : 2147483648 < b) (h2 : b ≤ 4286578688) (hy : Hid (Fv .f64 y (wide (some b)))) : FloatKind.f64.format.order y 0 = some .lt ∧ FloatKind.f64.format.order y y = some .eq := by
  have hab : ab .f32 b = some b := by rw [ab32, if_neg (by omega)]
  have e0 : wide (some 0) = some 0 := by decide +kernel
  have h := ord_wide hab (c := 0) (by decide) (by decide)
  rw [e0, ← hy.out.2] at h
  have hw : ab .f64 y = some (wideW b) := hy.out.2
  refine ⟨?_, by rw [order_self, hw]; rfl⟩
  rw [order_ab, show ab .f64 0 = some 0 by decide, h]
  show FloatKind.f32.format.order b 0 = some .lt
  rw [order_key .f32 hab (by decide), cmp_def, if_pos]
  have hr : rung .f32 b = b - 2147483648 := by unfold rung; rw [sw32]; omega
  have hs : sgn .f32 b = true := by unfold sgn; rw [sw32, show b / 2147483648 = 1 by omega]; rfl
  unfold key
  rw [hr, hs, show sgn .f32 0 = false by decide, show rung .f32 0 = 0 by decide]
  unfold sg
  simp
  omega
set_option maxHeartbeats 4000000 in
theorem implLog_any (y b : Nat) (w : World) (hb : b < 4294967296) (hy : Hid (Fv .f64 y (wide (ab .f32 b)))) :
    Calls Try.prog 40 #[.float .f64 y] w (RetF .f64 (logO (ab .f32 b)) w) := by
  have hy64 := hy.out.1
  rcases ln_cases b hb with h | ⟨hab, h | h | h | h⟩
  · rw [h] at hy ⊢
    have ho : FloatKind.f64.format.order y 0 = none := by rw [order_ab, hy.out.2]; rfl
    have HN := Lib.hid (fun w => mathNaN1 y w hy.out.2)
    clear h hy64
    go_enter Try.func40, Try.ntmps40
    go_wp2_with (first | (go_at_call 67; refine (HN.out _).mono ?_; rintro e w' ⟨rfl, rfl⟩))
    go_ret
    exact ⟨y, 0, rfl, hy.out, rfl⟩
  · have e : logO (ab .f32 b) = some 18442240474082181120 := by rw [hab]; rw [logO_some, if_pos h]
    rw [e]
    have ho : FloatKind.f64.format.order y 0 = some .eq := by
      rw [order_ab, hy.out.2, hab]
      rcases h with rfl | rfl <;> decide +kernel
    clear h e hy64
    go_enter Try.func40, Try.ntmps40
    go_wp2_with (first | (go_at_call 66; refine (mathInfN_any _).mono ?_; rintro e w' ⟨rfl, rfl⟩))
    go_ret
    exact ⟨_, 0, rfl, fvNInf, rfl⟩
  · have e : logO (ab .f32 b) = none := by rw [hab]; rw [logO_some, if_neg (by omega), if_pos h.1]
    rw [e]
    have ho := (ln_neg h.1 h.2 (by rw [← hab]; exact hy)).1
    clear h e hy64
    go_enter Try.func40, Try.ntmps40
    go_wp2_with (first | (go_at_call 65; refine (mathNaN_any _).mono ?_; rintro e w' ⟨rfl, rfl⟩))
    go_ret
    exact ⟨_, 0, rfl, fvNaN, rfl⟩
  · have e : logO (ab .f32 b) = some cInf := by rw [hab]; subst h; rfl
    rw [e]
    have hy2 : y = 9218868437227405312 := by
      have h1 := hy.out.2
      rw [hab, h, show wide (some 2139095040) = some 9218868437227405312 by decide +kernel] at h1
      exact (ab_some h1).symm
    subst hy2
    have HN := Lib.hid (fun w => mathNaN0 9218868437227405312 w (by rw [ab64]; rfl))
    have HI := Lib.hid (fun w => mathIsInf1 9218868437227405312 true w (by decide +kernel))
    have ho : FloatKind.f64.format.order 9218868437227405312 0 = some .gt := by decide +kernel
    clear h e hy64 hy
    go_enter Try.func40, Try.ntmps40
    go_wp2_with (first | (go_at_call 67; refine (HN.out _).mono ?_; rintro e w' ⟨rfl, rfl⟩) | (go_at_call 68; refine (HI.out _).mono ?_; rintro e w' ⟨rfl, rfl⟩))
    go_ret
    exact ⟨_, 0, rfl, fv_inf, rfl⟩
  · obtain ⟨g1, g2⟩ := wide_pos h.1 h.2
    have e : logO (ab .f32 b) = lnR (nX (wideW b)) (nN (wideW b)) := by rw [hab]; rw [logO_some, if_neg (by omega), if_neg (by omega), if_neg (by omega)]
    rw [e]
    obtain rfl : y = wideW b := by
      have h1 := hy.out.2
      rw [hab] at h1
      exact (ab_some h1).symm
    generalize wideW b = y at *
    have ho : FloatKind.f64.format.order y 0 = some .gt := by
      rw [ord_posW (by omega) (by omega), cmp_def, if_neg (by omega), if_neg (by omega)]
    have hi : (FloatKind.f64.format.order y 9218868437227405311 == some .gt) = false := by
      rw [ord_posW (by omega) (by omega), cmp_def, if_pos (by omega)]; rfl
    have HN := Lib.hid (fun w => mathNaN0 y w (ab_pos (by omega)))
    have HI := Lib.hid (fun w => mathIsInf1 y false w hi)
    have HR := Lib.hid (fun w => implNear_any y w g1 g2)
    have hX := nX_lo g1 g2
    have fX := fv_pos (x := nX y) (by omega)
    have fN := fqi (nN y)
    generalize nX y = X at *
    generalize nN y = n at *
    have q1 := fq1; have q2 := fq2; have q0 := fqz
    have q3 : Hid (Fv .f64 4604418534313441775 (some cLn2)) := fv64c (by decide) (by rw [ab64]; rfl)
    clear h e hy64 hy hi g1 g2 hX hab
    go_enter Try.func40, Try.ntmps40
    go_wp2_with (first | (go_at_call 67; refine (HN.out _).mono ?_; rintro e w' ⟨rfl, rfl⟩) | (go_at_call 68; refine (HI.out _).mono ?_; rintro e w' ⟨rfl, rfl⟩) | (go_at_call 69; refine (HR.out _).mono ?_; rintro e w' ⟨m0, rfl, rfl⟩) | (with_reducible_and_instances refine Lo.wpList_fo _ rfl .sub _ _ _ _ rfl _ _ _ _ _ rfl rfl rfl (by assumption) (by assumption) ?_; intro r1 n1 e1) | (with_reducible_and_instances refine Lo.wpList_fo _ rfl .add _ _ _ _ rfl _ _ _ _ _ rfl rfl rfl (by assumption) (by assumption) ?_; intro r2 n2 e2) | (with_reducible_and_instances refine Lo.wpList_fo _ rfl .quo _ _ _ _ rfl _ _ _ _ _ rfl rfl rfl (by assumption) (by assumption) ?_; intro r3 n3 e3) | (with_reducible_and_instances refine Lo.wpList_fo _ rfl .mul _ _ _ _ rfl _ _ _ _ _ rfl rfl rfl (by assumption) (by assumption) ?_; intro r4 n4 e4))
    change Hid (Fv .f64 r3 (lnS X)) at e3
    change Hid (Fv .f64 r4 (opO .mul .f64 (lnS X) (lnS X))) at e4
    clear e1 e2
    go_loopw [6, 7] (fun qq kk wr => ∃ (i m r : Nat) (K : Int), kk = .int .i64 K ∧ qq = .float .f64 r ∧ (Hid (Fv .f64 r (lnP (opO .mul .f64 (lnS X) (lnS X)) i)) ∧ Hid (K = lnK i ∧ i ≤ 13)) ∧ wr = w.drewN m) (fun _ kk _ => (intOf kk + 1).toNat)
    case atStart => exact ⟨0, _, 0, 25, rfl, rfl, ⟨q0, Lib.hid ⟨rfl, by omega⟩⟩, rfl⟩
    case round =>
      obtain ⟨i, m, r, K, rfl, rfl, ⟨hr, hK⟩, rfl⟩ := hrel
      have hK1 : -1 ≤ K ∧ K ≤ 25 := by have := hK.out; unfold lnK at this; omega
      obtain ⟨k1, k2⟩ := hK1
      by_cases hlt : 1 ≤ K
      · have fK := fqi K
        have hlt2 := Lib.hid hlt
        go_wp2_with (first | (with_reducible_and_instances refine Lo.wpList_fo _ rfl .quo _ _ _ _ rfl _ _ _ _ _ rfl rfl rfl (by assumption) (by assumption) ?_; intro r5 n5 e5) | (with_reducible_and_instances refine Lo.wpList_fo _ rfl .mul _ _ _ _ rfl _ _ _ _ _ rfl rfl rfl (by assumption) (by assumption) ?_; intro r6 n6 e6) | (with_reducible_and_instances refine Lo.wpList_fo _ rfl .add _ _ _ _ rfl _ _ _ _ _ rfl rfl rfl (by assumption) (by assumption) ?_; intro r7 n7 e7))
        go_roundw
        case rel =>
          have hK2 := hK.out
          refine ⟨i + 1, _, r7, K - 2, by go_num, rfl, ⟨?_, Lib.hid ⟨?_, ?_⟩⟩, rfl⟩
          · rw [hK2.1] at e7; exact e7
          · rw [hK2.1]; unfold lnK; omega
          · have := hK2.1; unfold lnK at this; omega
        case measure => simp [intOf]; omega
      · obtain rfl : i = 13 := by have := hK.out; unfold lnK at this; omega
        go_wp2_with (with_reducible_and_instances refine Lo.wpList_fo _ rfl _ _ _ _ _ rfl _ _ _ _ _ rfl rfl rfl (by assumption) (by assumption) ?_; intro rr nn hrr)
        go_ret
        exact ⟨_, _, rfl, hrr.out, rfl⟩
end Go.Proofs.Ytecgipilamefmaa

/- Logarithms in 64 bits: the model's walk; both numbers of 32 bits; the law. -/
set_option linter.unusedVariables false
set_option linter.unusedSimpArgs false
namespace Go.Proofs.Ytecgipilamefmaa
open Fl Go.RowKit Ieee
set_option maxHeartbeats 4000000 in
theorem specLog_any (y b : Nat) (w : World) (hb : b < 4294967296) (hy : Hid (Fv .f64 y (wide (ab .f32 b)))) :
    Calls Try.prog 42 #[.float .f64 y] w (RetF .f64 (logO (ab .f32 b)) w) := by
  have hy64 := hy.out.1
  rcases ln_cases b hb with h | ⟨hab, h | h | h | h⟩
  · rw [h] at hy ⊢
    have ho2 : FloatKind.f64.format.order y y = none := by rw [order_ab, hy.out.2]; rfl
    clear h hy64
    go_enter Try.func42, Try.ntmps42
    go_wp2_with (first | (go_at_call 65; refine (mathNaN_any _).mono ?_; rintro e w' ⟨rfl, rfl⟩))
    go_ret
    exact ⟨_, 0, rfl, fvNaN, rfl⟩
  · have e : logO (ab .f32 b) = some 18442240474082181120 := by rw [hab]; rw [logO_some, if_pos h]
    rw [e]
    have ho : FloatKind.f64.format.order y 0 = some .eq ∧ FloatKind.f64.format.order y y = some .eq := by
      rw [order_ab, order_ab, hy.out.2, hab]
      rcases h with rfl | rfl <;> decide +kernel
    obtain ⟨ho, ho2⟩ := ho
    clear h e hy64
    go_enter Try.func42, Try.ntmps42
    go_wp2_with (first | (go_at_call 66; refine (mathInfN_any _).mono ?_; rintro e w' ⟨rfl, rfl⟩))
    go_ret
    exact ⟨_, 0, rfl, fvNInf, rfl⟩
  · have e : logO (ab .f32 b) = none := by rw [hab]; rw [logO_some, if_neg (by omega), if_pos h.1]
    rw [e]
    obtain ⟨ho, ho2⟩ := ln_neg h.1 h.2 (by rw [← hab]; exact hy)
    clear h e hy64
    go_enter Try.func42, Try.ntmps42
    go_wp2_with (first | (go_at_call 65; refine (mathNaN_any _).mono ?_; rintro e w' ⟨rfl, rfl⟩))
    go_ret
    exact ⟨_, 0, rfl, fvNaN, rfl⟩
  · have e : logO (ab .f32 b) = some cInf := by rw [hab]; subst h; rfl
    rw [e]
    have hy2 : y = 9218868437227405312 := by
      have h1 := hy.out.2
      rw [hab, h, show wide (some 2139095040) = some 9218868437227405312 by decide +kernel] at h1
      exact (ab_some h1).symm
    subst hy2
    have HI := Lib.hid (fun w => mathIsInf1 9218868437227405312 true w (by decide +kernel))
    have ho : FloatKind.f64.format.order 9218868437227405312 0 = some .gt := by decide +kernel
    have ho2 : FloatKind.f64.format.order 9218868437227405312 9218868437227405312 = some .eq := by decide +kernel
    clear h e hy64 hy
    go_enter Try.func42, Try.ntmps42
    go_wp2_with (first | (go_at_call 68; refine (HI.out _).mono ?_; rintro e w' ⟨rfl, rfl⟩))
    go_ret
    exact ⟨_, 0, rfl, fv_inf, rfl⟩
  · obtain ⟨g1, g2⟩ := wide_pos h.1 h.2
    have e : logO (ab .f32 b) = lnR (nX (wideW b)) (nN (wideW b)) := by rw [hab]; rw [logO_some, if_neg (by omega), if_neg (by omega), if_neg (by omega)]
    rw [e]
    obtain rfl : y = wideW b := by
      have h1 := hy.out.2
      rw [hab] at h1
      exact (ab_some h1).symm
    generalize wideW b = y at *
    have ho : FloatKind.f64.format.order y 0 = some .gt := by
      rw [ord_posW (by omega) (by omega), cmp_def, if_neg (by omega), if_neg (by omega)]
    have ho2 : FloatKind.f64.format.order y y = some .eq := ord_self _ (ab_pos (by omega))
    have hi : (FloatKind.f64.format.order y 9218868437227405311 == some .gt) = false := by
      rw [ord_posW (by omega) (by omega), cmp_def, if_pos (by omega)]; rfl
    have HI := Lib.hid (fun w => mathIsInf1 y false w hi)
    have H1 := Lib.hid g1; have H2 := Lib.hid g2
    have q1 := fq1; have q2 := fq2; have q0 := fqz
    have q3 : Hid (Fv .f64 4604418534313441775 (some cLn2)) := fv64c (by decide) (by rw [ab64]; rfl)
    clear h e hy64 hy hi g1 g2 hab
    go_enter Try.func42, Try.ntmps42
    go_wp2_with (first | (go_at_call 68; refine (HI.out _).mono ?_; rintro e w' ⟨rfl, rfl⟩))
    clear ho ho2
    go_loopw [0, 3] (fun p kk wr => ∃ (k m X : Nat), kk = .int .i64 (k : Int) ∧ p = .float .f64 X ∧ Hid (X = y - k * 4503599627370496 ∧ k ≤ nK y) ∧ wr = w.drewN m) (fun p _ _ => match p with | .float _ b => b | _ => 0)
    case atStart => exact ⟨0, 0, y, rfl, rfl, Lib.hid ⟨by omega, by omega⟩, rfl⟩
    case round =>
      obtain ⟨k, m, X, rfl, rfl, hX, rfl⟩ := hrel
      have hk := nK_le H2.out
      have hl : X ≤ 9218868437227405312 := by have := hX.out.1; have := H2.out; omega
      have ho := ge_posW hl (show 4609434218613702656 ≤ 9218868437227405312 by decide)
      have f1 := fv_pos hl
      have hs := nK_step hX.out.2
      rw [← hX.out.1] at hs
      by_cases hlt : k < nK y
      · rw [decide_eq_true (hs.1 hlt)] at ho
        have hge := Lib.hid (hs.1 hlt)
        have hk3 : k ≤ 128 := by omega
        have hk2 : Hid (k < nK y ∧ nK y ≤ 128) := Lib.hid ⟨hlt, hk⟩
        clear hs hlt hk hl
        go_wp2_with (with_reducible_and_instances refine Lo.wpList_fo _ rfl .quo _ _ _ _ rfl _ _ _ _ _ rfl rfl rfl (by assumption) (by assumption) ?_; intro r1 n1 e1)
        go_roundw
        case rel =>
          have g1 := fv_isL e1 (show opO .quo .f64 (some X) (some cTwo) = _ from halfW (by have := hge.out; omega) (by have := hX.out.1; have := H2.out; omega))
          refine ⟨k + 1, _, r1, by go_num, rfl, Lib.hid ⟨?_, by have := hk2.out; omega⟩, rfl⟩
          rw [g1, hX.out.1]
          omega
        case measure =>
          have g1 := fv_isL e1 (show opO .quo .f64 (some X) (some cTwo) = _ from halfW (by have := hge.out; omega) (by have := hX.out.1; have := H2.out; omega))
          have := hge.out
          show r1 < X
          omega
      · rw [decide_eq_false (fun h => hlt (hs.2 h))] at ho
        obtain rfl : k = nK y := by have := hX.out.2; omega
        obtain rfl : X = nY y := hX.out.1
        have hy := Lib.hid (nY_lo H1.out H2.out)
        have HK := Lib.hid hk
        clear hs hlt hk hl f1 hX
        go_wp2
        go_loopw [0, 3] (fun p kk wr => ∃ (j m X : Nat) (K : Int), kk = .int .i64 K ∧ p = .float .f64 X ∧ Hid (K = (nK y : Int) - (j : Int) ∧ X = nY y + j * 4503599627370496 ∧ j ≤ nJ (nY y)) ∧ wr = w.drewN m) (fun p _ _ => 9218868437227405312 - (match p with | .float _ b => b | _ => 0))
        case atStart => exact ⟨0, m, nY y, nK y, rfl, rfl, Lib.hid ⟨by omega, by omega, by omega⟩, rfl⟩
        case round =>
          obtain ⟨j, m, X, K, rfl, rfl, hX, rfl⟩ := hrel
          have hj := nJ_le hy.out.1
          have hl : X ≤ 9218868437227405312 := by have := hX.out; have := hy.out; omega
          have hu := lt_posW hl (show 4604930618986332160 ≤ 9218868437227405312 by decide)
          have f1 := fv_pos hl
          have hs := nJ_step hX.out.2.2
          rw [← hX.out.2.1] at hs
          have hK1 : -256 ≤ K ∧ K < 256 := by have := hX.out; have := HK.out; omega
          obtain ⟨k1, k2⟩ := hK1
          clear ho
          by_cases hlt : j < nJ (nY y)
          · rw [decide_eq_true (hs.1 hlt)] at hu
            have hge := Lib.hid (hs.1 hlt)
            have hk2 : Hid (j < nJ (nY y) ∧ nJ (nY y) ≤ 149) := Lib.hid ⟨hlt, hj⟩
            clear hs hlt hj hl
            go_wp2_with (with_reducible_and_instances refine Lo.wpList_fo _ rfl .mul _ _ _ _ rfl _ _ _ _ _ rfl rfl rfl (by assumption) (by assumption) ?_; intro r1 n1 e1)
            go_roundw
            case rel =>
              have g1 := fv_isL e1 (show opO .mul .f64 (some X) (some cTwo) = _ from dblW (by have := hX.out; have := hy.out; omega) (by have := hge.out; omega))
              refine ⟨j + 1, _, r1, K - 1, by go_num, rfl, Lib.hid ⟨by have := hX.out.1; omega, ?_, by have := hk2.out; omega⟩, rfl⟩
              rw [g1, hX.out.2.1]
              omega
            case measure =>
              have g1 := fv_isL e1 (show opO .mul .f64 (some X) (some cTwo) = _ from dblW (by have := hX.out; have := hy.out; omega) (by have := hge.out; omega))
              have := hge.out
              show 9218868437227405312 - r1 < 9218868437227405312 - X
              omega
          · rw [decide_eq_false (fun h => hlt (hs.2 h))] at hu
            have hjj : j = nJ (nY y) := by have := hX.out.2.2; omega
            have hKn : K = nN y := by have := hX.out.1; unfold nN; omega
            have hXX : X = nX y := by have := hX.out.2.1; unfold nX; rw [this, hjj]
            clear hX hs hlt hj hl hjj
            have HXX := Lib.hid hXX; have HKn := Lib.hid hKn
            clear hXX hKn hy HK H1 H2
            have fN := fqi K
            go_wp2_with (first | (with_reducible_and_instances refine Lo.wpList_fo _ rfl .sub _ _ _ _ rfl _ _ _ _ _ rfl rfl rfl (by assumption) (by assumption) ?_; intro r1 n1 e1) | (with_reducible_and_instances refine Lo.wpList_fo _ rfl .add _ _ _ _ rfl _ _ _ _ _ rfl rfl rfl (by assumption) (by assumption) ?_; intro r2 n2 e2) | (with_reducible_and_instances refine Lo.wpList_fo _ rfl .quo _ _ _ _ rfl _ _ _ _ _ rfl rfl rfl (by assumption) (by assumption) ?_; intro r3 n3 e3) | (with_reducible_and_instances refine Lo.wpList_fo _ rfl .mul _ _ _ _ rfl _ _ _ _ _ rfl rfl rfl (by assumption) (by assumption) ?_; intro r4 n4 e4))
            change Hid (Fv .f64 r3 (lnS X)) at e3
            change Hid (Fv .f64 r4 (opO .mul .f64 (lnS X) (lnS X))) at e4
            clear e1 e2
            go_loopw [6, 7] (fun qq kk wr => ∃ (i m r : Nat) (K : Int), kk = .int .i64 K ∧ qq = .float .f64 r ∧ (Hid (Fv .f64 r (lnP (opO .mul .f64 (lnS X) (lnS X)) i)) ∧ Hid (K = lnK i ∧ i ≤ 13)) ∧ wr = w.drewN m) (fun _ kk _ => (intOf kk + 1).toNat)
            case atStart => exact ⟨0, _, 0, 25, rfl, rfl, ⟨q0, Lib.hid ⟨rfl, by omega⟩⟩, rfl⟩
            case round =>
              obtain ⟨i, m, r, L, rfl, rfl, ⟨hr, hL⟩, rfl⟩ := hrel
              have hL1 : -1 ≤ L ∧ L ≤ 25 := by have := hL.out; unfold lnK at this; omega
              obtain ⟨l1, l2⟩ := hL1
              by_cases hlt : 1 ≤ L
              · have fK := fqi L
                have hlt2 := Lib.hid hlt
                go_wp2_with (first | (with_reducible_and_instances refine Lo.wpList_fo _ rfl .quo _ _ _ _ rfl _ _ _ _ _ rfl rfl rfl (by assumption) (by assumption) ?_; intro r5 n5 e5) | (with_reducible_and_instances refine Lo.wpList_fo _ rfl .mul _ _ _ _ rfl _ _ _ _ _ rfl rfl rfl (by assumption) (by assumption) ?_; intro r6 n6 e6) | (with_reducible_and_instances refine Lo.wpList_fo _ rfl .add _ _ _ _ rfl _ _ _ _ _ rfl rfl rfl (by assumption) (by assumption) ?_; intro r7 n7 e7))
                go_roundw
                case rel =>
                  have hK2 := hL.out
                  refine ⟨i + 1, _, r7, L - 2, by go_num, rfl, ⟨?_, Lib.hid ⟨?_, ?_⟩⟩, rfl⟩
                  · rw [hK2.1] at e7; exact e7
                  · rw [hK2.1]; unfold lnK; omega
                  · have := hK2.1; unfold lnK at this; omega
                case measure => simp [intOf]; omega
              · obtain rfl : i = 13 := by have := hL.out; unfold lnK at this; omega
                go_wp2_with (with_reducible_and_instances refine Lo.wpList_fo _ rfl _ _ _ _ _ rfl _ _ _ _ _ rfl rfl rfl (by assumption) (by assumption) ?_; intro rr nn hrr)
                go_ret
                exact ⟨_, _, rfl, (by have h := hrr.out; rw [HXX.out, HKn.out] at h; exact h), rfl⟩
theorem fits_ln {b r : Nat} (hb : b < 4294967296) (h : Fv .f64 r (logO (ab .f32 b))) : Fits .f64 .f32 r := by
  rcases ln_cases b hb with hn | ⟨hab, hc⟩
  · rw [hn] at h
    exact fits_nanC h
  · rw [hab, logO_some] at h
    split at h
    · obtain rfl := ab_some h.2
      exact .inr (by rw [show FloatKind.f64.decode 18442240474082181120 = .infinity true by rfl]; trivial)
    · split at h
      · exact fits_nanC h
      · split at h
        · obtain rfl := ab_some h.2
          exact .inr (by rw [show FloatKind.f64.decode cInf = .infinity false by rfl]; trivial)
        · obtain ⟨g1, g2⟩ := wide_pos (b := b) (by omega) (by omega)
          obtain ⟨r', hr, hl⟩ := lnR_size (nX_lo g1 g2).1 (nX_lo g1 g2).2 (n := nN (wideW b)) (by have := nN_le g1 g2; omega) (by have := nN_le g1 g2; omega)
          rw [hr] at h
          obtain rfl := ab_some h.2
          exact fits_size (Nat.le_trans hl (by decide +kernel))
def logNO (v : O) : O := convO .f64 .f32 (logO v)
theorem implLogN_any (b : Nat) (w : World) (hb : b < 4294967296) :
    Calls Try.prog 10 #[.float .f32 b] w (RetF .f32 (logNO (ab .f32 b)) w) := by
  go_enter Try.func10, Try.ntmps10
  go_wp2_with (with_reducible_and_instances refine wpList_wide _ rfl _ _ _ rfl _ rfl (by kernel_rfl) (by kernel_rfl) hb ?_; intro r1 q1 hr; have V1 := Lib.hid hr; clear hr)
  refine (implLog_any _ b _ hb V1).mono ?_
  rintro e w' ⟨r2, q2, rfl, hv, rfl⟩
  have V2 := Lib.hid hv
  clear hv
  go_wp2_with fail
  refine (implNarrow_any _ _ V2.out.1 (fits_ln hb V2.out)).mono ?_
  rintro e w' ⟨r3, q3, rfl, hv, rfl⟩
  have V3 := Lib.hid hv
  clear hv
  go_wp2
  go_ret
  exact ⟨r3, _, rfl, by have := V3.out; rw [V2.out.2] at this; exact this, rfl⟩
theorem specLog0_any (b : Nat) (w : World) (hb : b < 4294967296) :
    Calls Try.prog 39 #[.float .f32 b] w (RetF .f32 (logNO (ab .f32 b)) w) := by
  go_enter Try.func39, Try.ntmps39
  go_wp2_with (with_reducible_and_instances refine wpList_wide _ rfl _ _ _ rfl _ rfl (by kernel_rfl) (by kernel_rfl) hb ?_; intro r1 q1 hr; have V1 := Lib.hid hr; clear hr)
  refine (specLog_any _ b _ hb V1).mono ?_
  rintro e w' ⟨r2, q2, rfl, hv, rfl⟩
  have V2 := Lib.hid hv
  clear hv
  go_wp2_with fail
  refine (specNarrow_any _ _ V2.out.1 (fits_ln hb V2.out)).mono ?_
  rintro e w' ⟨r3, q3, rfl, hv, rfl⟩
  have V3 := Lib.hid hv
  clear hv
  go_wp2
  go_ret
  exact ⟨r3, _, rfl, by have := V3.out; rw [V2.out.2] at this; exact this, rfl⟩
theorem specLogN_any (b : Nat) (w : World) (hb : b < 4294967296) :
    Calls Try.prog 9 #[.float .f32 b] w (RetF .f32 (logNO (ab .f32 b)) w) := by
  go_enter Try.func9, Try.ntmps9
  go_wp2_with (go_at_call 39; refine (specLog0_any _ _ hb).mono ?_; rintro e w' ⟨r3, q3, rfl, hv, rfl⟩; have V3 := Lib.hid hv; clear hv)
  go_ret
  exact ⟨r3, _, rfl, V3.out, rfl⟩
theorem lawLogNumber (b : Nat) (w : World) (hb : b < 4294967296) :
    Calls Try.prog 3 #[.float .f32 b] w fun e w' => e = .returned (.bool true) ∧ w.Since w.heap.size w' := by
  go_enter Try.func3, Try.ntmps3
  go_wp2_with (first | (go_at_call 9; refine (specLogN_any _ _ hb).mono ?_; rintro e w' ⟨r1, q1, rfl, hv, rfl⟩; have V1 := Lib.hid hv; have L1 : r1 < 4294967296 := hv.1; clear hv) | (go_at_call 10; refine (implLogN_any _ _ hb).mono ?_; rintro e w' ⟨r2, q2, rfl, hv, rfl⟩; have V2 := Lib.hid hv; have L2 : r2 < 4294967296 := hv.1; clear hv) | (with_reducible_and_instances refine wpList_wide _ rfl _ _ _ rfl _ rfl (by kernel_rfl) (by kernel_rfl) L1 ?_; intro r3 q3 hr; have X1 := Lib.hid hr; clear hr) | (with_reducible_and_instances refine wpList_wide _ rfl _ _ _ rfl _ rfl (by kernel_rfl) (by kernel_rfl) L2 ?_; intro r4 q4 hr; have X2 := Lib.hid hr; clear hr))
  refine (sameFloat_any _ _ _ _ X2.out (by have := X1.out; rw [V1.out.2, ← V2.out.2] at this; exact this)).mono ?_
  rintro e w' ⟨rfl, q5, rfl⟩
  go_wp2
  go_ret
  exact ⟨rfl, since_drewN (World.Since.refl _ _) _⟩
end Go.Proofs.Ytecgipilamefmaa

/- Tenths of decibels: both sides; the law. -/
set_option linter.unusedVariables false
set_option linter.unusedSimpArgs false
namespace Go.Proofs.Ytecgipilamefmaa
open Fl Go.RowKit Ieee
def c200w : Nat := 4641240890982006784
def cLn10 : Nat := 4612367379483415830
def tenZ (v : O) : O := opO .quo .f64 (opO .mul .f64 (some c200w) (logO v)) (some cLn10)
def tenI (v : O) : Int := (floatToIntVal .f64 (rneW ((tenZ v).getD 0)) .i64).getD 0
theorem ten_tab : floatBits .mul .f64 c200w cR = some ((floatBits .mul .f64 c200w cR).getD 0) ∧ rung .f64 ((floatBits .mul .f64 c200w cR).getD 0) ≤ rung .f64 (p2 50) ∧ rung .f64 cR < FloatKind.f64.format.infRung ∧ rung .f64 cOne ≤ rung .f64 cLn10 ∧ rung .f64 cLn10 < FloatKind.f64.format.infRung ∧ rung .f64 (p2 50) < FloatKind.f64.format.infRung := by decide +kernel
theorem ten_whl : Whl (p2 50) 1125899906842624 := by unfold Whl; decide +kernel
theorem ten_zv (D : Nat) (hD : D = 1074) : zv .f64 (rung .f64 (p2 50)) / 2 ^ D < 4611686018427387904 := by subst hD; decide +kernel
theorem ten_ok {b : Nat} (h1 : 1 ≤ b) (h2 : b ≤ 2139095039) : ∃ z, tenZ (some b) = some z ∧ ab .f64 z = some z ∧ floatToIntVal .f64 (rneW z) .i64 = some (tenI (some b)) := by
  obtain ⟨g1, g2⟩ := wide_pos h1 h2
  obtain ⟨r, hr, hl⟩ := lnR_size (nX_lo g1 g2).1 (nX_lo g1 g2).2 (n := nN (wideW b)) (by have := nN_le g1 g2; omega) (by have := nN_le g1 g2; omega)
  have e : logO (some b) = some r := by rw [logO_some, if_neg (by omega), if_neg (by omega), if_neg (by omega)]; exact hr
  obtain ⟨t1, t2, t3, t4, t5, t6⟩ := ten_tab
  obtain ⟨m, m', hm, hm', hml⟩ := mul_size .f64 (x := c200w) (y := r) (c := c200w) (d := cR) (by unfold Fl.Fin; decide) (Nat.lt_of_le_of_lt hl t3) (by unfold Fl.Fin; decide) t3 (Nat.le_refl _) hl
  have e1 := Option.some.inj (t1.symm.trans hm'); rw [← e1] at hml
  obtain ⟨z, hz, hzl⟩ := divC (x := m) (y := cLn10) (c := p2 50) (Nat.le_trans hml t2) t6 t4 t5
  have ez : tenZ (some b) = some z := by
    unfold tenZ
    rw [e]
    show opO .quo .f64 (floatBits .mul .f64 c200w r) (some cLn10) = some z
    rw [hm]; exact hz
  have habz : ab .f64 z = some z := (fv_op (op := .quo) (.inr (.inr (.inr rfl))) hz).2
  have h3 := rne_le (x := z) (by have := t6; omega) ten_whl t6 hzl
  have h4 := toInt_whole (y := rneW z) (D := 1074) rfl (Nat.lt_of_le_of_lt h3 t6) (Nat.lt_of_le_of_lt (Nat.div_le_div_right ((zv_le .f64).2 h3)) (ten_zv 1074 rfl))
  refine ⟨z, ez, habz, ?_⟩
  unfold tenI
  rw [ez, Option.getD_some, h4]
  rfl
theorem specFinC_any (x : Nat) (b : Bool) (w : World) (hx : x < 4294967296) (h : finB x = b) :
    Calls Try.prog 41 #[.float .f32 x] w fun e w' => e = .returned (.bool b) ∧ ∃ n, w' = w.drewN n := by
  subst h
  go_enter Try.func41, Try.ntmps41
  go_wp2_with (first | (with_reducible_and_instances refine wpList_fop _ rfl _ _ _ _ _ rfl _ _ _ rfl rfl rfl ?_; intro r n hr))
  go_ret
  refine ⟨ret_bool ?_, n, rfl⟩
  rw [order_ab, hr.2, sub_self_any, rung32, ir32]
  unfold finB
  by_cases h : x % 2147483648 < 2139095040
  · rw [if_pos h, decide_eq_true h]; rfl
  · rw [if_neg h, decide_eq_false h]; rfl
theorem ten_ord {b : Nat} (hb : b < 4294967296) (hf : finB b = true) : (FloatKind.f32.format.order b 0 = some .lt ∧ ¬ (1 ≤ b ∧ b ≤ 2139095039)) ∨ (FloatKind.f32.format.order b 0 = some .eq ∧ ¬ (1 ≤ b ∧ b ≤ 2139095039)) ∨ (FloatKind.f32.format.order b 0 = some .gt ∧ (1 ≤ b ∧ b ≤ 2139095039)) := by
  have hf2 : b % 2147483648 < 2139095040 := by unfold finB at hf; exact of_decide_eq_true hf
  have hab : ab .f32 b = some b := by rw [ab32, if_neg (by omega)]
  rw [order_key .f32 hab (by decide : ab .f32 0 = some 0), cmp_def]
  have k0 : key .f32 0 = 0 := by decide
  rw [k0]
  unfold key sgn rung
  rw [sw32]
  by_cases h : b < 2147483648
  · rw [show b / 2147483648 = 0 by omega, Nat.mod_eq_of_lt h]
    show _ ∨ _ ∨ _
    simp only [sg, Nat.zero_mod, show ((0 : Nat) == 1) = false from rfl, Bool.false_eq_true, if_false]
    by_cases h0 : b = 0
    · subst h0; simp
    · right; right; rw [if_neg (by omega), if_neg (by omega)]; exact ⟨rfl, by omega⟩
  · rw [show b / 2147483648 = 1 by omega]
    simp only [sg, Nat.one_mod, show ((1 : Nat) == 1) = true from rfl, if_true]
    by_cases h0 : b = 2147483648
    · subst h0; simp
    · left; rw [if_pos (by omega)]; exact ⟨rfl, by omega⟩
def tenB (b : Nat) : Bool := decide (1 ≤ b ∧ b ≤ 2139095039)
def tenR (b : Nat) : Int := if tenB b then tenI (some b) else 0
set_option maxHeartbeats 2000000 in
theorem implTenths_any (b : Nat) (w : World) (hb : b < 4294967296) :
    Calls Try.prog 13 #[.float .f32 b] w fun e w' => e = .returned (.tuple #[.int .i64 (tenR b), .bool (tenB b)]) ∧ ∃ n, w' = w.drewN n := by
  have HF := Lib.hid (fun w => implFinite_any b w hb)
  cases hf : finB b
  · have hn : tenB b = false := by unfold tenB; unfold finB at hf; have := of_decide_eq_false hf; exact decide_eq_false (by omega)
    have hr : tenR b = 0 := by unfold tenR; rw [hn]; rfl
    rw [hn, hr]
    rw [hf] at HF
    go_enter Try.func13, Try.ntmps13
    go_wp2_with (first | (go_at_call 44; refine (HF.out _).mono ?_; rintro e w' ⟨rfl, rfl⟩))
    go_ret2
    exact ⟨rfl, 0, rfl⟩
  · rw [hf] at HF
    rcases ten_ord hb hf with ⟨ho, h⟩ | ⟨ho, h⟩ | ⟨ho, h⟩
    · have hn : tenB b = false := decide_eq_false h
      have hr : tenR b = 0 := by unfold tenR; rw [hn]; rfl
      rw [hn, hr]
      clear h hn hr hf
      go_enter Try.func13, Try.ntmps13
      go_wp2_with (first | (go_at_call 44; refine (HF.out _).mono ?_; rintro e w' ⟨rfl, rfl⟩))
      go_ret2
      exact ⟨rfl, 0, rfl⟩
    · have hn : tenB b = false := decide_eq_false h
      have hr : tenR b = 0 := by unfold tenR; rw [hn]; rfl
      rw [hn, hr]
      clear h hn hr hf
      go_enter Try.func13, Try.ntmps13
      go_wp2_with (first | (go_at_call 44; refine (HF.out _).mono ?_; rintro e w' ⟨rfl, rfl⟩))
      go_ret2
      exact ⟨rfl, 0, rfl⟩
    · have hn : tenB b = true := decide_eq_true h
      have hr : tenR b = tenI (some b) := by unfold tenR; rw [hn]; rfl
      rw [hn, hr]
      obtain ⟨z, ez, habz, hv⟩ := ten_ok h.1 h.2
      have HZ : Hid (opO .quo .f64 (opO .mul .f64 (some c200w) (logO (some b))) (some cLn10) = some z) := Lib.hid ez
      have hab : ab .f32 b = some b := by rw [ab32, if_neg (by omega)]
      have hL : Hid (∀ y W, Hid (Fv .f64 y (wide (ab .f32 b))) → Calls Try.prog 40 #[.float .f64 y] W (RetF .f64 (logO (some b)) W)) := Lib.hid fun y W hy => by have := implLog_any y b W hb hy; rw [hab] at this; exact this
      have hcl := fun W => callRne z habz W
      have hcv := fun (W : World) => run_convert_float_int (P := Try.prog) (w := W) 25 2 .f64 .i64 (rneW z) _ (by kernel_rfl) Try.underlying2 hv
      have q1 : Hid (Fv .f64 4641240890982006784 (some c200w)) := fv64c (by decide) (by rw [ab64]; rfl)
      have q3 : Hid (Fv .f64 4612367379483415830 (some cLn10)) := fv64c (by decide) (by rw [ab64]; rfl)
      clear h hn hr hf ez hv habz hab
      generalize tenI (some b) = v at *
      go_enter Try.func13, Try.ntmps13
      go_wp2_with (first | (go_at_call 44; refine (HF.out _).mono ?_; rintro e w' ⟨rfl, rfl⟩) | (with_reducible_and_instances refine wpList_wide _ rfl _ _ _ rfl _ rfl (by kernel_rfl) (by kernel_rfl) hb ?_; intro r1 q1 hr; have V1 := Lib.hid hr; clear hr) | (go_at_call 40; refine (hL.out _ _ V1).mono ?_; rintro e w' ⟨r2, q2, rfl, hv2, rfl⟩; have V2 := Lib.hid hv2; clear hv2) | (with_reducible_and_instances refine Lo.wpList_fo _ rfl .mul _ _ _ _ rfl _ _ _ _ _ rfl rfl rfl (by assumption) (by assumption) ?_; intro r3 n3 e3) | (with_reducible_and_instances refine Lo.wpList_fo _ rfl .quo _ _ _ _ rfl _ _ _ _ _ rfl rfl rfl (by assumption) (by assumption) ?_; intro r4 n4 e4; have hrz := fv_isL e4 HZ.out; subst hrz))
      go_ret2
      exact ⟨rfl, _, rfl⟩
set_option maxHeartbeats 2000000 in
theorem specTenths_any (b : Nat) (w : World) (hb : b < 4294967296) :
    Calls Try.prog 12 #[.float .f32 b] w fun e w' => e = .returned (.tuple #[.int .i64 (tenR b), .bool (tenB b)]) ∧ ∃ n, w' = w.drewN n := by
  have HF := Lib.hid (fun w => specFinC_any b (finB b) w hb rfl)
  cases hf : finB b
  · have hn : tenB b = false := by unfold tenB; unfold finB at hf; have := of_decide_eq_false hf; exact decide_eq_false (by omega)
    have hr : tenR b = 0 := by unfold tenR; rw [hn]; rfl
    rw [hn, hr]
    rw [hf] at HF
    go_enter Try.func12, Try.ntmps12
    go_wp2_with (first | (go_at_call 41; refine (HF.out _).mono ?_; rintro e w' ⟨rfl, m0, rfl⟩))
    go_ret2
    exact ⟨rfl, _, rfl⟩
  · rw [hf] at HF
    rcases ten_ord hb hf with ⟨ho, h⟩ | ⟨ho, h⟩ | ⟨ho, h⟩
    · have hn : tenB b = false := decide_eq_false h
      have hr : tenR b = 0 := by unfold tenR; rw [hn]; rfl
      rw [hn, hr]
      clear h hn hr hf
      go_enter Try.func12, Try.ntmps12
      go_wp2_with (first | (go_at_call 41; refine (HF.out _).mono ?_; rintro e w' ⟨rfl, m0, rfl⟩))
      go_ret2
      exact ⟨rfl, _, rfl⟩
    · have hn : tenB b = false := decide_eq_false h
      have hr : tenR b = 0 := by unfold tenR; rw [hn]; rfl
      rw [hn, hr]
      clear h hn hr hf
      go_enter Try.func12, Try.ntmps12
      go_wp2_with (first | (go_at_call 41; refine (HF.out _).mono ?_; rintro e w' ⟨rfl, m0, rfl⟩))
      go_ret2
      exact ⟨rfl, _, rfl⟩
    · have hn : tenB b = true := decide_eq_true h
      have hr : tenR b = tenI (some b) := by unfold tenR; rw [hn]; rfl
      rw [hn, hr]
      obtain ⟨z, ez, habz, hv⟩ := ten_ok h.1 h.2
      have HZ : Hid (opO .quo .f64 (opO .mul .f64 (some c200w) (logO (some b))) (some cLn10) = some z) := Lib.hid ez
      have hab : ab .f32 b = some b := by rw [ab32, if_neg (by omega)]
      have hL : Hid (∀ y W, Hid (Fv .f64 y (wide (ab .f32 b))) → Calls Try.prog 42 #[.float .f64 y] W (RetF .f64 (logO (some b)) W)) := Lib.hid fun y W hy => by have := specLog_any y b W hb hy; rw [hab] at this; exact this
      have hcl := fun W => callRne z habz W
      have hcv := fun (W : World) => run_convert_float_int (P := Try.prog) (w := W) 25 2 .f64 .i64 (rneW z) _ (by kernel_rfl) Try.underlying2 hv
      have q1 : Hid (Fv .f64 4641240890982006784 (some c200w)) := fv64c (by decide) (by rw [ab64]; rfl)
      have q3 : Hid (Fv .f64 4612367379483415830 (some cLn10)) := fv64c (by decide) (by rw [ab64]; rfl)
      clear h hn hr hf ez hv habz hab
      generalize tenI (some b) = v at *
      go_enter Try.func12, Try.ntmps12
      go_wp2_with (first | (go_at_call 41; refine (HF.out _).mono ?_; rintro e w' ⟨rfl, m0, rfl⟩) | (with_reducible_and_instances refine wpList_wide _ rfl _ _ _ rfl _ rfl (by kernel_rfl) (by kernel_rfl) hb ?_; intro r1 q1 hr; have V1 := Lib.hid hr; clear hr) | (go_at_call 42; refine (hL.out _ _ V1).mono ?_; rintro e w' ⟨r2, q2, rfl, hv2, rfl⟩; have V2 := Lib.hid hv2; clear hv2) | (with_reducible_and_instances refine Lo.wpList_fo _ rfl .mul _ _ _ _ rfl _ _ _ _ _ rfl rfl rfl (by assumption) (by assumption) ?_; intro r3 n3 e3) | (with_reducible_and_instances refine Lo.wpList_fo _ rfl .quo _ _ _ _ rfl _ _ _ _ _ rfl rfl rfl (by assumption) (by assumption) ?_; intro r4 n4 e4; have hrz := fv_isL e4 HZ.out; subst hrz))
      go_ret2
      exact ⟨rfl, _, rfl⟩
theorem lawTenthsOf (b : Nat) (w : World) (hb : b < 4294967296) :
    Calls Try.prog 4 #[.float .f32 b] w fun e w' => e = .returned (.bool true) ∧ w.Since w.heap.size w' := by
  go_enter Try.func4, Try.ntmps4
  go_wp2_with (first | (go_at_call 12; refine (specTenths_any _ _ hb).mono ?_; rintro e w' ⟨rfl, q1, rfl⟩) | (go_at_call 13; refine (implTenths_any _ _ hb).mono ?_; rintro e w' ⟨rfl, q2, rfl⟩))
  go_ret
  exact ⟨rfl, since_drewN (World.Since.refl _ _) _⟩
end Go.Proofs.Ytecgipilamefmaa

