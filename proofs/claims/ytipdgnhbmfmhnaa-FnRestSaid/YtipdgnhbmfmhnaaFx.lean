/- How great words can be: exponents of what is rounded; the square root. -/
import Derived.Test.YtipdgnhbmfmhnaaFk
import Derived.Test.YtipdgnhbmfmhnaaSm
set_option linter.unusedVariables false
set_option linter.unusedSimpArgs false
namespace Go.Proofs.Ytipdgnhbmfmhnaa
namespace Fl
open Ieee

theorem log2_mono_lt {m n : Nat} (h : m < 2 ^ n) : m = 0 ∨ m.log2 < n := by
  by_cases h0 : m = 0
  · exact .inl h0
  · exact .inr ((Nat.log2_lt h0).2 h)

/-- the exponent of a finite word, by its rung -/
theorem ex_rung (k : FloatKind) {b : Nat} {g : Bool} {m : Nat} {e : Int} (q : Nat) (h : k.decode b = .number g m e) (hr : rung k b < (q + 2) * k.format.binade) :
    e + m.log2 ≤ k.format.leastPlace + q + k.format.fractionBits := by
  have hB : k.format.binade = 2 ^ k.format.fractionBits := rfl
  have hp := bin_pos k
  unfold FloatKind.decode Format.read at h
  dsimp only at h
  unfold rung at hr
  generalize b % k.format.signWeight = r at *
  split at h
  · rename_i h1
    injection h with _ h2 h3
    subst h2; subst h3
    rw [hB] at h1
    rcases log2_mono_lt h1 with h0 | h0
    · subst h0; simp; omega
    · omega
  · split at h
    · rename_i h1 _
      injection h with _ h2 h3
      subst h2; subst h3
      have h4 : k.format.binade + r % k.format.binade < 2 ^ (k.format.fractionBits + 1) := by
        have := Nat.mod_lt r hp
        rw [Nat.pow_succ, ← hB]; omega
      have h5 := log2_lt h4
      have h6 : r / k.format.binade < q + 2 := (Nat.div_lt_iff_lt_mul hp).2 hr
      omega
    · split at h <;> cases h

theorem nearest_rung_le (k : FloatKind) (neg : Bool) (mag : Nat) (place : Int) (hm : mag ≠ 0) (q : Nat) (h1 : place + mag.log2 - k.format.fractionBits - k.format.leastPlace ≤ q) :
    rung k (k.format.nearest neg mag place) ≤ (q + 2) * k.format.binade := by
  have hle : ∃ r, k.format.nearest neg mag place = k.format.word neg r ∧ r ≤ k.format.infRung ∧ r ≤ (q + 2) * k.format.binade := by
    unfold Format.nearest
    rw [if_neg hm]
    dsimp only
    refine ⟨_, rfl, Nat.min_le_right .., Nat.le_trans (Nat.min_le_left ..) ?_⟩
    generalize hlast : max (place + (mag.log2 : Int) - k.format.fractionBits) k.format.leastPlace = last
    have hk : Toward.even.cut neg (mag <<< (place - last).toNat) (last - place).toNat ≤ 2 ^ (k.format.fractionBits + 1) := by
      refine cut_le neg _ _ _ ?_
      rw [Nat.shiftLeft_eq]
      have hlt : mag < 2 ^ (mag.log2 + 1) := Nat.lt_log2_self
      calc mag * 2 ^ (place - last).toNat < 2 ^ (mag.log2 + 1) * 2 ^ (place - last).toNat := Nat.mul_lt_mul_of_pos_right hlt (Nat.two_pow_pos _)
        _ = 2 ^ (mag.log2 + 1 + (place - last).toNat) := (Nat.pow_add ..).symm
        _ ≤ 2 ^ (k.format.fractionBits + 1 + (last - place).toNat) := Nat.pow_le_pow_right (by omega) (by omega)
    have hbin : 2 ^ (k.format.fractionBits + 1) = 2 * k.format.binade := by unfold Format.binade; rw [Nat.pow_succ]; omega
    rw [hbin] at hk
    have hq : (last - k.format.leastPlace).toNat ≤ q := by omega
    have := Nat.mul_le_mul_right k.format.binade hq
    rw [Nat.add_mul]; omega
  obtain ⟨r, e, h2, h3⟩ := hle
  rw [e]
  unfold rung
  rw [word_rung_mod _ _ h2]
  exact h3

/-- the exponent of what is rounded is at most one more than the exact one's -/
theorem ex_nearest (k : FloatKind) (neg : Bool) (mag : Nat) (place : Int) (hm : mag ≠ 0) (B : Int) (h1 : place + mag.log2 ≤ B) (h2 : k.format.leastPlace + k.format.fractionBits ≤ B)
    {g : Bool} {m : Nat} {e : Int} (h : k.decode (k.format.nearest neg mag place) = .number g m e) : e + m.log2 ≤ B + 1 := by
  obtain ⟨q, hq⟩ : ∃ q : Nat, (q : Int) = B - k.format.fractionBits - k.format.leastPlace := ⟨(B - k.format.fractionBits - k.format.leastPlace).toNat, by omega⟩
  have h3 := nearest_rung_le k neg mag place hm q (by omega)
  have h4 := ex_rung k (q + 1) h (by have := bin_pos k; rw [Nat.add_mul] at h3 ⊢; rw [Nat.add_mul]; omega)
  omega

theorem rootFrom_le (n : Nat) : ∀ todo root, root * root ≤ n → Datum.rootFrom n todo root * Datum.rootFrom n todo root ≤ n
  | 0, root, h => h
  | todo + 1, root, h => by
    unfold Datum.rootFrom
    dsimp only
    split
    · rename_i h1; exact rootFrom_le n todo _ h1
    · exact rootFrom_le n todo _ h

theorem log2_shift (m s : Nat) (hm : m ≠ 0) : (m <<< s).log2 = m.log2 + s := by
  rw [Nat.shiftLeft_eq]
  have h1 : m * 2 ^ s ≠ 0 := Nat.mul_ne_zero hm (Nat.pos_iff_ne_zero.1 (Nat.two_pow_pos _))
  have h2 := Nat.log2_self_le hm
  have h3 := Nat.lt_log2_self (n := m)
  refine Nat.le_antisymm ?_ ?_
  · refine Nat.lt_succ_iff.1 ((Nat.log2_lt h1).2 ?_)
    have : 2 ^ (m.log2 + s).succ = 2 ^ (m.log2 + 1) * 2 ^ s := by rw [← Nat.pow_add]; congr 1; omega
    rw [this]
    exact Nat.mul_lt_mul_of_pos_right h3 (Nat.two_pow_pos _)
  · refine (Nat.le_log2 h1).2 ?_
    rw [Nat.pow_add]
    exact Nat.mul_le_mul_right _ h2

theorem sq_lt {a n : Nat} (h : a * a ≤ n) (hn : n ≠ 0) : a < 2 ^ (n.log2 / 2 + 1) := by
  rcases Nat.lt_or_ge a (2 ^ (n.log2 / 2 + 1)) with h1 | h1
  · exact h1
  · exfalso
    have h2 : 2 ^ (n.log2 / 2 + 1) * 2 ^ (n.log2 / 2 + 1) ≤ a * a := Nat.mul_le_mul h1 h1
    rw [← Nat.pow_add] at h2
    have h3 := Nat.lt_log2_self (n := n)
    have h4 : 2 ^ (n.log2 + 1) ≤ 2 ^ (n.log2 / 2 + 1 + (n.log2 / 2 + 1)) := Nat.pow_le_pow_right (by omega) (by omega)
    omega

/-- the exponent of an exact root -/
theorem root_ex (digits : Nat) {s : Bool} {m : Nat} {i : Int} (B : Int) (hB : i + m.log2 ≤ 2 * B) {d : Datum} (h : (Datum.number s m i).root digits = some d) :
    ∃ s' M P, d = .number s' M P ∧ (M = 0 ∨ P + M.log2 ≤ B + 1) := by
  unfold Datum.root at h
  dsimp only at h
  split at h
  · rename_i h0
    injection h with h; subst h
    exact ⟨_, _, _, rfl, .inl h0⟩
  · rename_i h0
    split at h
    · cases h
    · injection h with h
      subst h
      refine ⟨_, _, _, rfl, .inr ?_⟩
      generalize hmo : 2 * digits - m.log2 + ((i - ((2 * digits - m.log2 : Nat) : Int)) % 2).toNat = more
      have hsh := log2_shift m more h0
      have hne : m <<< more ≠ 0 := by rw [Nat.shiftLeft_eq]; exact Nat.mul_ne_zero h0 (Nat.pos_iff_ne_zero.1 (Nat.two_pow_pos _))
      have hw := sq_lt (rootFrom_le (m <<< more) ((m <<< more).log2 / 2 + 1) 0 (by simp)) hne
      generalize Datum.rootFrom (m <<< more) ((m <<< more).log2 / 2 + 1) 0 = whole at *
      have hb : (whole * whole != m <<< more).toNat ≤ 1 := by cases (whole * whole != m <<< more) <;> decide
      generalize (whole * whole != m <<< more).toNat = st at *
      have hlt : 2 * whole + st < 2 ^ ((m <<< more).log2 / 2 + 2) := by
        have : 2 ^ ((m <<< more).log2 / 2 + 2) = 2 * 2 ^ ((m <<< more).log2 / 2 + 1) := by rw [show (m <<< more).log2 / 2 + 2 = (m <<< more).log2 / 2 + 1 + 1 from rfl, Nat.pow_succ]; omega
        omega
      have hl := log2_lt (n := (m <<< more).log2 / 2 + 1) hlt
      rw [hsh] at hl
      omega

def sqrtO : Option Nat → Option Nat
  | some x => FloatKind.f64.format.sqrt x
  | none => none
def sqv (x : Nat) (w : World) : Nat := match FloatKind.f64.format.sqrt x with
  | some r => r
  | none => (Question.nanBits .f64 x x).cut (w.tape w.drawn (.nanBits .f64 x x))
def sqn (x : Nat) : Nat := if (FloatKind.f64.format.sqrt x).isNone then 1 else 0
theorem root_some {n : Nat} {d r : Datum} (h : d.root n = some r) : r.isNaN = false := by
  unfold Datum.root at h
  cases d with
  | nan s f => cases h
  | infinity s =>
    dsimp only at h
    split at h
    · cases h
    · injection h with h; subst h; rfl
  | number s m i =>
    dsimp only at h
    split at h
    · injection h with h; subst h; rfl
    · split at h
      · cases h
      · injection h with h; subst h; rfl
theorem sqv_fv (x : Nat) (w : World) : Fv .f64 (sqv x w) (sqrtO (ab .f64 x)) := by
  have hn := read_nan (k := .f64) (b := x)
  unfold sqv
  cases h : FloatKind.f64.format.sqrt x with
  | some r =>
    have h1 := h
    unfold Format.sqrt at h1
    simp only [Option.map_eq_some_iff] at h1
    obtain ⟨d, hd, e⟩ := h1
    have hab : ab .f64 x = some x := by
      cases ha : ab .f64 x with
      | some c => rw [ab_some ha]
      | none =>
        rw [ha] at hn
        cases hr : FloatKind.f64.format.read x with
        | nan s f => rw [hr] at hd; cases hd
        | infinity s => rw [hr] at hn; cases hn
        | number s m i => rw [hr] at hn; cases hn
    rw [hab]
    simp only [sqrtO, h]
    rw [← e]
    exact fv_write .f64 (root_some hd)
  | none =>
    have e : sqrtO (ab .f64 x) = none := by
      cases ha : ab .f64 x with
      | some c => rw [ab_some ha]; exact h
      | none => rfl
    rw [e]
    exact fv_nan64 _
theorem run_sqrt {P : Program} (x : Nat) (w : World) : (Extern.MathSqrt.sqrt #[.float .f64 x]).run P w = .ok (.float .f64 (sqv x w)) (w.drewN (sqn x)) := by
  unfold sqv sqn
  change Sem.run P (match FloatKind.f64.format.sqrt x with
    | some r => pure (Value.float .f64 r)
    | none => do pure (Value.float .f64 (← choose (.nanBits .f64 x x)))) w = _
  cases h : FloatKind.f64.format.sqrt x with
  | some r => rfl
  | none => rfl

/-- the root of a single-precision number fits single precision -/
theorem fits_root {b r : Nat} (h : Fv .f64 r (sqrtO (wide (ab .f32 b)))) : Fits .f64 .f32 r := by
  refine fits_of .f64 .f32 70 (fun g m e hd hm => ?_) (by decide) (by decide)
  cases hb : ab .f32 b with
  | none =>
    rw [hb] at h
    have h2 : ab .f64 r = none := h.2
    have hn := read_nan (k := .f64) (b := r)
    have hd' : FloatKind.f64.format.read r = .number g m e := hd
    rw [hd', h2] at hn; cases hn
  | some c =>
    have hcb := ab_some hb
    subst hcb
    rw [hb] at h
    have h2 : ab .f64 r = FloatKind.f64.format.sqrt (FloatKind.f64.encode (FloatKind.f32.decode c)) := h.2
    unfold Format.sqrt at h2
    have hr : ab .f64 r = some r := by
      cases h3 : ab .f64 r with
      | some x => rw [ab_some h3]
      | none =>
        have hn := read_nan (k := .f64) (b := r)
        have hd' : FloatKind.f64.format.read r = .number g m e := hd
        rw [hd', h3] at hn; cases hn
    rw [hr] at h2
    have h4 := h2.symm
    simp only [Option.map_eq_some_iff] at h4
    obtain ⟨d, hroot, hwr⟩ := h4
    rw [← hwr] at hd
    cases hw : FloatKind.f32.decode c with
    | nan s f =>
      have hn := read_nan (k := .f32) (b := c)
      have hw' : FloatKind.f32.format.read c = .nan s f := hw
      rw [hw', hb] at hn; cases hn
    | infinity s =>
      rw [hw] at hroot
      have e1 : FloatKind.f64.format.read (FloatKind.f64.encode (.infinity s)) = .infinity s := by cases s <;> rfl
      rw [e1] at hroot
      cases s with
      | true => cases hroot
      | false =>
        injection hroot with hroot
        subst hroot
        have e2 : FloatKind.f64.decode (FloatKind.f64.format.write (.infinity false)) = .infinity false := rfl
        rw [e2] at hd; cases hd
    | number s M P =>
      rw [hw] at hroot
      obtain ⟨h5, h6, h7⟩ := read32_bound hw
      cases hw2 : FloatKind.f64.format.read (FloatKind.f64.encode (.number s M P)) with
      | nan s2 f2 =>
        rw [hw2] at hroot; cases hroot
      | infinity s2 =>
        have hfit := fits_wide c
        rcases hfit with hf | hf
        · cases hf
        · rw [hw] at hf
          have hf' : (FloatKind.f64.format.read (FloatKind.f64.encode (.number s M P))).isInfinity = false := hf
          rw [hw2] at hf'; cases hf'
      | number s2 M2 P2 =>
        rw [hw2] at hroot
        have hB : P2 + M2.log2 ≤ 128 ∨ M2 = 0 := by
          by_cases hM : M = 0
          · subst hM
            right
            have e3 : FloatKind.f64.encode (.number s 0 P) = FloatKind.f64.format.word s 0 := rfl
            rw [e3] at hw2
            have e4 : FloatKind.f64.format.read (FloatKind.f64.format.word s 0) = .number s 0 FloatKind.f64.format.leastPlace := by cases s <;> rfl
            rw [e4] at hw2
            injection hw2 with _ h8 _
            exact h8.symm
          · left
            have := log2_lt (n := 23) h5
            exact ex_nearest .f64 s M P hM 127 (by omega) (by decide) hw2
        have hB' : P2 + M2.log2 ≤ 2 * 64 ∨ M2 = 0 := hB
        rcases hB' with hB' | hB'
        · obtain ⟨s3, M3, P3, rfl, h9⟩ := root_ex _ 64 hB' hroot
          rcases h9 with h9 | h9
          · subst h9
            have e3 : FloatKind.f64.format.write (.number s3 0 P3) = FloatKind.f64.format.word s3 0 := rfl
            rw [e3] at hd
            have e4 : FloatKind.f64.decode (FloatKind.f64.format.word s3 0) = .number s3 0 FloatKind.f64.format.leastPlace := by cases s3 <;> rfl
            rw [e4] at hd
            injection hd with _ h8 _
            exact absurd h8.symm hm
          · by_cases hM3 : M3 = 0
            · subst hM3
              have e3 : FloatKind.f64.format.write (.number s3 0 P3) = FloatKind.f64.format.word s3 0 := rfl
              rw [e3] at hd
              have e4 : FloatKind.f64.decode (FloatKind.f64.format.word s3 0) = .number s3 0 FloatKind.f64.format.leastPlace := by cases s3 <;> rfl
              rw [e4] at hd
              injection hd with _ h8 _
              exact absurd h8.symm hm
            · have := ex_nearest .f64 s3 M3 P3 hM3 65 (by omega) (by decide) hd
              omega
        · subst hB'
          have hz : (Datum.number s2 0 P2).root (FloatKind.f64.format.fractionBits + 2) = some (.number s2 0 P2) := rfl
          rw [hz] at hroot
          injection hroot with hroot
          subst hroot
          have e3 : FloatKind.f64.format.write (.number s2 0 P2) = FloatKind.f64.format.word s2 0 := rfl
          rw [e3] at hd
          have e4 : FloatKind.f64.decode (FloatKind.f64.format.word s2 0) = .number s2 0 FloatKind.f64.format.leastPlace := by cases s2 <;> rfl
          rw [e4] at hd
          injection hd with _ h8 _
          exact absurd h8.symm hm
end Fl
end Go.Proofs.Ytipdgnhbmfmhnaa
