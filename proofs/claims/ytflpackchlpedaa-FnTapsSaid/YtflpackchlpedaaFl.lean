/- Floats modulo the bits of not-a-numbers: laws of the walk and plain lemmas. -/
import Derived.WalkKit
import Derived.WalkLawsBesides
import Derived.Deep.Draws
set_option linter.unusedVariables false
set_option linter.unusedSimpArgs false
namespace Go.Proofs.Ytflpackchlpedaa
namespace Fl
open Ieee

theorem isNaN_read (f : Format) (hbin : f.binade ≤ f.infRung) (b : Nat) : (f.read b).isNaN = decide (f.infRung < b % f.signWeight) := by
  unfold Format.read
  dsimp only
  split
  · rename_i h
    simp [Datum.isNaN]; omega
  · split
    · simp [Datum.isNaN]; omega
    · split
      · simp [Datum.isNaN]; omega
      · simp [Datum.isNaN]; omega

/-- What a word stands for, all not-a-numbers being one. -/
def ab (k : FloatKind) (b : Nat) : Option Nat := if k.format.infRung < b % k.format.signWeight then none else some b
/-- The word r fits its kind and stands for v. -/
def Fv (k : FloatKind) (r : Nat) (v : Option Nat) : Prop := r < 2 ^ k.format.width ∧ ab k r = v

theorem w32 : FloatKind.f32.format.width = 32 := rfl
theorem w64 : FloatKind.f64.format.width = 64 := rfl
theorem ir32 : FloatKind.f32.format.infRung = 2139095040 := by decide
theorem ir64 : FloatKind.f64.format.infRung = 9218868437227405312 := by decide
theorem sw32 : FloatKind.f32.format.signWeight = 2147483648 := by decide
theorem sw64 : FloatKind.f64.format.signWeight = 9223372036854775808 := by decide

theorem read_nan {k : FloatKind} {b : Nat} : (k.format.read b).isNaN = (ab k b).isNone := by
  rw [isNaN_read _ (by cases k <;> decide)]; unfold ab; split <;> simp_all

/-- The four operations on what words stand for. -/
def opO (op : BinOp) (k : FloatKind) : Option Nat → Option Nat → Option Nat
  | some x, some y => floatBits op k x y
  | _, _ => none

def IsF (op : BinOp) : Prop := op = .add ∨ op = .sub ∨ op = .mul ∨ op = .quo

theorem opposite_nan {d : Datum} (h : d.isNaN = true) : d.opposite.isNaN = true := by
  cases d <;> simp_all [Datum.isNaN, Datum.opposite]
theorem sum_nan_l {d e : Datum} (h : d.isNaN = true) : d.sum e = none := by
  cases d <;> simp_all [Datum.isNaN, Datum.sum]
theorem sum_nan_r {d e : Datum} (h : e.isNaN = true) : d.sum e = none := by
  cases d <;> cases e <;> simp_all [Datum.isNaN, Datum.sum]
theorem product_nan_l {d e : Datum} (h : d.isNaN = true) : d.product e = none := by
  cases d <;> simp_all [Datum.isNaN, Datum.product]
theorem product_nan_r {d e : Datum} (h : e.isNaN = true) : d.product e = none := by
  cases d <;> cases e <;> simp_all [Datum.isNaN, Datum.product]
theorem quotient_nan_l {n : Nat} {d e : Datum} (h : d.isNaN = true) : d.quotient n e = none := by
  cases d <;> simp_all [Datum.isNaN, Datum.quotient]
theorem quotient_nan_r {n : Nat} {d e : Datum} (h : e.isNaN = true) : d.quotient n e = none := by
  cases d <;> cases e <;> simp_all [Datum.isNaN, Datum.quotient]
theorem order_nan_l {d e : Datum} (h : d.isNaN = true) : d.order e = none := by
  cases d <;> simp_all [Datum.isNaN, Datum.order]
theorem order_nan_r {d e : Datum} (h : e.isNaN = true) : d.order e = none := by
  cases d <;> cases e <;> simp_all [Datum.isNaN, Datum.order]

theorem floatBits_ab {op : BinOp} (hop : IsF op) (k : FloatKind) (x y : Nat) : floatBits op k x y = opO op k (ab k x) (ab k y) := by
  by_cases hx : (k.format.read x).isNaN = true
  · have e : ab k x = none := by rw [read_nan] at hx; simpa using hx
    rw [e]
    rcases hop with rfl | rfl | rfl | rfl <;> simp [floatBits, opO, Format.add, Format.sub, Format.mul, Format.div, sum_nan_l hx, product_nan_l hx, quotient_nan_l hx]
  · by_cases hy : (k.format.read y).isNaN = true
    · have e : ab k y = none := by rw [read_nan] at hy; simpa using hy
      rw [e]
      have ho := opposite_nan hy
      rcases hop with rfl | rfl | rfl | rfl <;> cases (ab k x) <;> simp [floatBits, opO, Format.add, Format.sub, Format.mul, Format.div, sum_nan_r hy, sum_nan_r ho, product_nan_r hy, quotient_nan_r hy]
    · rw [read_nan] at hx hy
      have ex : ab k x = some x := by unfold ab at hx ⊢; split <;> simp_all
      have ey : ab k y = some y := by unfold ab at hy ⊢; split <;> simp_all
      rw [ex, ey]; rfl

theorem ab_some {k : FloatKind} {b c : Nat} (h : ab k b = some c) : c = b := by
  unfold ab at h; split at h <;> simp_all

theorem word_rung_mod (f : Format) (neg : Bool) {rung : Nat} (h : rung ≤ f.infRung) : f.word neg rung % f.signWeight = rung := by
  have := f.infRung_lt
  unfold Format.word
  split
  · rw [Nat.add_mod_left]; exact Nat.mod_eq_of_lt (by omega)
  · exact Nat.mod_eq_of_lt (by omega)

theorem ab_word (k : FloatKind) (neg : Bool) {rung : Nat} (h : rung ≤ k.format.infRung) : ab k (k.format.word neg rung) = some (k.format.word neg rung) := by
  unfold ab
  rw [word_rung_mod _ _ h, if_neg (by omega)]

theorem ab_nearest (k : FloatKind) (neg : Bool) (mag : Nat) (place : Int) : ab k (k.format.nearest neg mag place) = some (k.format.nearest neg mag place) := by
  unfold Format.nearest
  dsimp only
  split
  · exact ab_word k neg (Nat.zero_le _)
  · exact ab_word k neg (Nat.min_le_right ..)

theorem ab_write (k : FloatKind) {d : Datum} (h : d.isNaN = false) : ab k (k.format.write d) = some (k.format.write d) := by
  cases d with
  | number neg mag place => exact ab_nearest k neg mag place
  | infinity neg => exact ab_word k neg (Nat.le_refl _)
  | nan neg fraction => simp [Datum.isNaN] at h

theorem fv_write (k : FloatKind) {d : Datum} (h : d.isNaN = false) : Fv k (k.format.write d) (some (k.format.write d)) := ⟨k.format.write_lt d, ab_write k h⟩

theorem sum_some {d e r : Datum} (h : d.sum e = some r) : r.isNaN = false := by
  cases d <;> cases e <;> simp_all [Datum.sum] <;> first | (subst h; rfl) | (obtain ⟨_, rfl⟩ := h; rfl)
theorem product_some {d e r : Datum} (h : d.product e = some r) : r.isNaN = false := by
  cases d with
  | nan s f => cases e <;> simp [Datum.product] at h
  | infinity s => cases e with
    | nan t g => simp [Datum.product] at h
    | infinity t => simp [Datum.product] at h; subst h; rfl
    | number t n j =>
      simp only [Datum.product] at h
      split at h
      · cases h
      · injection h with h; subst h; rfl
  | number s m i => cases e with
    | nan t g => simp [Datum.product] at h
    | infinity t =>
      simp only [Datum.product] at h
      split at h
      · cases h
      · injection h with h; subst h; rfl
    | number t n j => simp [Datum.product] at h; subst h; rfl
theorem quotient_some {n : Nat} {d e r : Datum} (h : d.quotient n e = some r) : r.isNaN = false := by
  cases d with
  | nan s f => cases e <;> simp [Datum.quotient] at h
  | infinity s => cases e with
    | nan t g => simp [Datum.quotient] at h
    | infinity t => simp [Datum.quotient] at h
    | number t m j => simp [Datum.quotient] at h; subst h; rfl
  | number s m i => cases e with
    | nan t g => simp [Datum.quotient] at h
    | infinity t => simp [Datum.quotient] at h; subst h; rfl
    | number t m j =>
      simp only [Datum.quotient] at h
      split at h
      · split at h
        · cases h
        · injection h with h; subst h; rfl
      · injection h with h; subst h; rfl

theorem fv_op {op : BinOp} (hop : IsF op) {k : FloatKind} {x y r : Nat} (h : floatBits op k x y = some r) : Fv k r (some r) := by
  rcases hop with rfl | rfl | rfl | rfl
  · simp only [floatBits, Format.add, Option.map_eq_some_iff] at h
    obtain ⟨d, hd, rfl⟩ := h
    exact fv_write k (sum_some hd)
  · simp only [floatBits, Format.sub, Option.map_eq_some_iff] at h
    obtain ⟨d, hd, rfl⟩ := h
    exact fv_write k (sum_some hd)
  · simp only [floatBits, Format.mul, Option.map_eq_some_iff] at h
    obtain ⟨d, hd, rfl⟩ := h
    exact fv_write k (product_some hd)
  · simp only [floatBits, Format.div, Option.map_eq_some_iff] at h
    obtain ⟨d, hd, rfl⟩ := h
    exact fv_write k (quotient_some hd)

theorem fv_nan32 (t : Nat) : Fv .f32 ((t % 2) * 2 ^ 31 + 0x7f800000 + 1 + (t / 2) % (2 ^ 23 - 1)) none := by
  refine ⟨?_, ?_⟩
  · rw [w32]; omega
  · unfold ab; rw [ir32, sw32, if_pos]
    have h1 : t % 2 < 2 := Nat.mod_lt _ (by omega)
    have h2 : (t / 2) % (2 ^ 23 - 1) < 2 ^ 23 - 1 := Nat.mod_lt _ (by omega)
    generalize t % 2 = a at *
    generalize (t / 2) % (2 ^ 23 - 1) = c at *
    obtain rfl | rfl : a = 0 ∨ a = 1 := by omega
    · omega
    · omega
theorem fv_nan64 (t : Nat) : Fv .f64 ((t % 2) * 2 ^ 63 + 0x7ff0000000000000 + 1 + (t / 2) % (2 ^ 52 - 1)) none := by
  refine ⟨?_, ?_⟩
  · rw [w64]; omega
  · unfold ab; rw [ir64, sw64, if_pos]
    have h1 : t % 2 < 2 := Nat.mod_lt _ (by omega)
    have h2 : (t / 2) % (2 ^ 52 - 1) < 2 ^ 52 - 1 := Nat.mod_lt _ (by omega)
    generalize t % 2 = a at *
    generalize (t / 2) % (2 ^ 52 - 1) = c at *
    obtain rfl | rfl : a = 0 ∨ a = 1 := by omega
    · omega
    · omega

section
variable {P : Program} (w : World)
theorem run_nanBits (k : FloatKind) (x y : Nat) : ∃ r, (choose (.nanBits k x y)).run P w = .ok r w.drew ∧ Fv k r none := by
  cases k
  · exact ⟨_, rfl, fv_nan32 _⟩
  · exact ⟨_, rfl, fv_nan64 _⟩
theorem run_nanConv (k : FloatKind) (x : Nat) : ∃ r, (choose (.nanConv k x)).run P w = .ok r w.drew ∧ Fv k r none := by
  cases k
  · exact ⟨_, rfl, fv_nan32 _⟩
  · exact ⟨_, rfl, fv_nan64 _⟩

theorem run_fop {op : BinOp} (hop : IsF op) (t : TypeId) (k : FloatKind) (x y : Nat) :
    ∃ r n, (binOp op t (.float k x) (.float k y)).run P w = .ok (.float k r) (w.drewN n) ∧ Fv k r (opO op k (ab k x) (ab k y)) := by
  rw [← floatBits_ab hop]
  cases h : floatBits op k x y with
  | some r => exact ⟨r, 0, run_float_arith w op t k x y r h, fv_op hop h⟩
  | none =>
    have e : (binOp op t (.float k x) (.float k y)).run P w = ((choose (.nanBits k x y)).run P w).andThen fun r w' => .ok (.float k r) w' := by
      rcases hop with rfl | rfl | rfl | rfl <;> simp only [floatBits] at h <;> simp [binOp, Op.floatArith, h]
    obtain ⟨r, hr, hf⟩ := run_nanBits (P := P) w k x y
    exact ⟨r, 1, by rw [e, hr]; rfl, hf⟩
end

def isF : BinOp → Bool
  | .add | .sub | .mul | .quo => true
  | _ => false
theorem isF_of {op : BinOp} (h : isF op = true) : IsF op := by
  cases op <;> simp_all [isF, IsF]

theorem wpList_fop {P : Program} (w : World) {ops : Array Oper} {rest : List Oper} {o : Oper} {a : Act} {Q : Exit → Act → World → Prop}
    (hg : o.guard = none) (op : BinOp) (t t2 : TypeId) (x y : Operand) (hop : o.op = Op.binOp op t x y t2) (k : FloatKind) (p q : Nat)
    (hx : a.eval x = .float k p) (hy : a.eval y = .float k q) (hf' : isF op = true)
    (hK : ∀ (r n : Nat), Fv k r (opO op k (ab k p) (ab k q)) → wpList P ops Q rest (a.put o.dst (.float k r)) (w.drewN n)) :
    wpList P ops Q (o :: rest) a w := by
  have hf := isF_of hf'
  refine wpList_plain hg fun K' hK' => ?_
  obtain ⟨r, n, hrun, hv⟩ := run_fop (P := P) w hf t k p q
  unfold Oper.wp
  have he : eqGuard op t x y (.float k p) (.float k q) = pure () := by
    rcases hf with rfl | rfl | rfl | rfl <;> rfl
  simp [execOp, hop, hx, hy, he, hrun, Result.andThen]
  exact hK' _ _ (hK r n hv)


/-! comparisons -/
def ordO (k : FloatKind) : Option Nat → Option Nat → Option Ordering
  | some x, some y => k.format.order x y
  | _, _ => none

theorem order_ab (k : FloatKind) (x y : Nat) : k.format.order x y = ordO k (ab k x) (ab k y) := by
  by_cases hx : (k.format.read x).isNaN = true
  · have e : ab k x = none := by rw [read_nan] at hx; simpa using hx
    rw [e]; simp [ordO, Format.order, order_nan_l hx]
  · by_cases hy : (k.format.read y).isNaN = true
    · have e : ab k y = none := by rw [read_nan] at hy; simpa using hy
      rw [e]; cases (ab k x) <;> simp [ordO, Format.order, order_nan_r hy]
    · rw [read_nan] at hx hy
      have ex : ab k x = some x := by unfold ab at hx ⊢; split <;> simp_all
      have ey : ab k y = some y := by unfold ab at hy ⊢; split <;> simp_all
      rw [ex, ey]; rfl

theorem order_self_num {d : Datum} (h : d.isNaN = false) : d.order d = some .eq := by
  cases d with
  | nan s f => simp [Datum.isNaN] at h
  | infinity s => simp [Datum.order]
  | number s m i => simp [Datum.order]

/-- a word and itself -/
theorem order_self (k : FloatKind) (x : Nat) : k.format.order x x = (ab k x).map fun _ => Ordering.eq := by
  by_cases hx : (k.format.read x).isNaN = true
  · have e : ab k x = none := by rw [read_nan] at hx; simpa using hx
    rw [e]; simp [Format.order, order_nan_l hx]
  · have h2 : (k.format.read x).isNaN = false := by simpa using hx
    rw [read_nan] at hx
    cases e : ab k x with
    | none => simp [e] at hx
    | some c => simp [Format.order, order_self_num h2]

theorem ord_none {k : FloatKind} {x y : Nat} (hx : ab k x = none) : k.format.order x y = none := by rw [order_ab, hx]; rfl
theorem ord_self {k : FloatKind} {x : Nat} (b : Nat) (hx : ab k x = some b) : k.format.order x x = some .eq := by rw [order_self, hx]; rfl

/-! the sign turned -/
theorem sw_eq (k : FloatKind) : k.format.signWeight = 2 ^ (k.format.exponentBits + k.format.fractionBits) := rfl

theorem neg_mod (k : FloatKind) (b : Nat) : Op.negFloat k b % k.format.signWeight = b % k.format.signWeight := by
  unfold Op.negFloat
  rw [sw_eq, Nat.xor_mod_two_pow, Nat.mod_self, Nat.xor_zero]

theorem neg_lt (k : FloatKind) {b : Nat} (h : b < 2 ^ k.format.width) : Op.negFloat k b < 2 ^ k.format.width := by
  unfold Op.negFloat
  refine Nat.xor_lt_two_pow h (Nat.pow_lt_pow_right (by omega) ?_)
  unfold Format.width; omega

theorem ab_neg (k : FloatKind) (b : Nat) : ab k (Op.negFloat k b) = (ab k b).map (Op.negFloat k) := by
  unfold ab
  rw [neg_mod]
  split <;> rfl

@[go_sem] theorem unary_neg_float (k : FloatKind) (b : Nat) : Op.unary .neg (.float k b) = pure (.float k (Op.negFloat k b)) := rfl

/-! conversions -/
/-- what a conversion between the two kinds gives, where it is fixed -/
def convO (s k : FloatKind) : Option Nat → Option Nat
  | some b => if s = k then some b else some (k.encode (s.decode b))
  | none => none

/-- the conversion's value is fixed: no finite number too great -/
def Fits (s k : FloatKind) (b : Nat) : Prop := s = k ∨ match s.decode b with
  | .number g m e => (k.decode (k.encode (.number g m e))).isInfinity = false
  | _ => True

section
variable {P : Program} (w : World)
theorem run_conv (src dst : TypeId) (s k : FloatKind) (b : Nat) (hb : b < 2 ^ s.format.width) (hs : (P.underlying src).isSome = true) (hd : P.underlying dst = some (.float k)) (hfit : Fits s k b) :
    ∃ r n, (convert src dst (.float s b)).run P w = .ok (.float k r) (w.drewN n) ∧ Fv k r (convO s k (ab s b)) := by
  obtain ⟨u, hs'⟩ := Option.isSome_iff_exists.1 hs
  have e : (convert src dst (.float s b)).run P w = (Conv.floatToFloat s b k).run P w := by
    cases u <;> simp [convert, run_underlying hs', run_underlying hd]
  rw [e]
  unfold Conv.floatToFloat
  by_cases hk : s = k
  · subst hk
    refine ⟨b, 0, by simp; rfl, hb, ?_⟩
    cases hab : ab s b with
    | none => rfl
    | some c => rw [ab_some hab]; simp [convO]
  · rw [if_neg hk]
    cases hdec : s.decode b with
    | nan g f =>
      have hn : ab s b = none := by
        have : (s.format.read b).isNaN = true := by
          have h2 : s.format.read b = .nan g f := hdec
          rw [h2]; rfl
        rw [read_nan] at this; simpa using this
      obtain ⟨r, hr, hf⟩ := run_nanConv (P := P) w k b
      refine ⟨r, 1, ?_, by rw [hn]; exact hf⟩
      simp only [Sem.run_bind, hr]; rfl
    | infinity g =>
      have hn : ab s b = some b := by
        have : (s.format.read b).isNaN = false := by
          have h2 : s.format.read b = .infinity g := hdec
          rw [h2]; rfl
        rw [read_nan] at this
        cases h : ab s b with
        | none => simp [h] at this
        | some c => rw [ab_some h]
      refine ⟨k.encode (.infinity g), 0, by simp; rfl, ?_⟩
      rw [hn]; simp only [convO, if_neg hk, hdec]
      exact fv_write k rfl
    | number g m e =>
      have hn : ab s b = some b := by
        have : (s.format.read b).isNaN = false := by
          have h2 : s.format.read b = .number g m e := hdec
          rw [h2]; rfl
        rw [read_nan] at this
        cases h : ab s b with
        | none => simp [h] at this
        | some c => rw [ab_some h]
      have hfin : (k.decode (k.encode (.number g m e))).isInfinity = false := by
        rcases hfit with h | h
        · exact absurd h hk
        · rw [hdec] at h; exact h
      refine ⟨k.encode (.number g m e), 0, by simp [hfin]; rfl, ?_⟩
      rw [hn]; simp only [convO, if_neg hk, hdec]
      exact fv_write k rfl

end

theorem wpList_conv {P : Program} (w : World) {ops : Array Oper} {rest : List Oper} {o : Oper} {a : Act} {Q : Exit → Act → World → Prop}
    (hg : o.guard = none) (src dst : TypeId) (x : Operand) (hop : o.op = Op.convert src dst x) (s k : FloatKind) (p : Nat)
    (hx : a.eval x = .float s p) (hs : (P.underlying src).isSome = true) (hd : P.underlying dst = some (.float k)) (hb : p < 2 ^ s.format.width) (hfit : Fits s k p)
    (hK : ∀ (r n : Nat), Fv k r (convO s k (ab s p)) → wpList P ops Q rest (a.put o.dst (.float k r)) (w.drewN n)) :
    wpList P ops Q (o :: rest) a w := by
  refine wpList_plain hg fun K' hK' => ?_
  obtain ⟨r, n, hrun, hv⟩ := run_conv (P := P) w src dst s k p hb hs hd hfit
  unfold Oper.wp
  simp [execOp, hop, hx, hrun, Result.andThen]
  exact hK' _ _ (hK r n hv)

/-! how great a nearest word can be -/
theorem cut_le (neg : Bool) (n drop m : Nat) (h : n < 2 ^ (m + drop)) : Toward.even.cut neg n drop ≤ 2 ^ m := by
  unfold Toward.cut
  dsimp only
  have hlow : n / (1 <<< min drop (n.log2 + 2)) < 2 ^ m := by
    rw [Nat.one_shiftLeft, Nat.div_lt_iff_lt_mul (Nat.two_pow_pos _), ← Nat.pow_add]
    rcases Nat.le_total drop (n.log2 + 2) with hd | hd
    · rw [Nat.min_eq_left hd]; exact h
    · rw [Nat.min_eq_right hd]
      refine Nat.lt_of_lt_of_le Nat.lt_log2_self (Nat.pow_le_pow_right (by omega) (by omega))
  have hb : ∀ b : Bool, b.toNat ≤ 1 := by decide
  have := hb (decide (1 <<< min drop (n.log2 + 2) < 2 * (n % 1 <<< min drop (n.log2 + 2))) || 1 <<< min drop (n.log2 + 2) == 2 * (n % 1 <<< min drop (n.log2 + 2)) && n / 1 <<< min drop (n.log2 + 2) % 2 == 1)
  omega

theorem rung_lt (f : Format) (mag : Nat) (place : Int) (B : Int) (neg : Bool) (hm : mag ≠ 0) (hB : place + mag.log2 ≤ B)
    (h1 : (B - f.fractionBits - f.leastPlace + 2) * f.binade < f.infRung) (h2 : 2 * f.binade < f.infRung) :
    ∃ r, f.nearest neg mag place = f.word neg r ∧ r < f.infRung := by
  unfold Format.nearest
  rw [if_neg hm]
  dsimp only
  refine ⟨_, rfl, ?_⟩
  refine Nat.lt_of_le_of_lt (Nat.min_le_left ..) ?_
  generalize hlast : max (place + (mag.log2 : Int) - f.fractionBits) f.leastPlace = last
  have hk : Toward.even.cut neg (mag <<< (place - last).toNat) (last - place).toNat ≤ 2 ^ (f.fractionBits + 1) := by
    refine cut_le neg _ _ _ ?_
    rw [Nat.shiftLeft_eq]
    have hlt : mag < 2 ^ (mag.log2 + 1) := Nat.lt_log2_self
    calc mag * 2 ^ (place - last).toNat < 2 ^ (mag.log2 + 1) * 2 ^ (place - last).toNat := Nat.mul_lt_mul_of_pos_right hlt (Nat.two_pow_pos _)
      _ = 2 ^ (mag.log2 + 1 + (place - last).toNat) := (Nat.pow_add ..).symm
      _ ≤ 2 ^ (f.fractionBits + 1 + (last - place).toNat) := Nat.pow_le_pow_right (by omega) (by omega)
  have hbin : 2 ^ (f.fractionBits + 1) = 2 * f.binade := by unfold Format.binade; rw [Nat.pow_succ]; omega
  rw [hbin] at hk
  rcases Int.le_total (place + (mag.log2 : Int) - f.fractionBits) f.leastPlace with hc | hc
  · have : (last - f.leastPlace).toNat = 0 := by omega
    rw [this]; omega
  · have hl : last = place + mag.log2 - f.fractionBits := by omega
    have hn : ((last - f.leastPlace).toNat : Int) = place + mag.log2 - f.fractionBits - f.leastPlace := by omega
    have hle : ((last - f.leastPlace).toNat : Int) + 2 ≤ B - f.fractionBits - f.leastPlace + 2 := by omega
    have hmul : (((last - f.leastPlace).toNat : Int) + 2) * f.binade ≤ (B - f.fractionBits - f.leastPlace + 2) * f.binade := Int.mul_le_mul_of_nonneg_right hle (by omega)
    have e : (((last - f.leastPlace).toNat * f.binade + 2 * f.binade : Nat) : Int) = (((last - f.leastPlace).toNat : Int) + 2) * f.binade := by
      rw [Int.add_mul]; push_cast; rfl
    omega

theorem word_mod_lt (f : Format) (neg : Bool) {rung : Nat} (h : rung < f.infRung) : f.word neg rung % f.signWeight = rung := word_rung_mod f neg (by omega)

theorem isInf_read (f : Format) (hbin : f.binade ≤ f.infRung) (b : Nat) : (f.read b).isInfinity = decide (f.infRung = b % f.signWeight) := by
  unfold Format.read
  dsimp only
  split
  · rename_i h
    have : 0 < f.binade := Nat.two_pow_pos _
    by_cases e : f.infRung = b % f.signWeight
    · omega
    · simp [Datum.isInfinity, e]
  · split
    · rename_i h2; simp [Datum.isInfinity]; omega
    · split
      · rename_i h2; simp [Datum.isInfinity]; omega
      · rename_i h2; simp [Datum.isInfinity]; omega

theorem bin_le (k : FloatKind) : k.format.binade ≤ k.format.infRung := by cases k <;> decide

theorem not_inf_word (k : FloatKind) (neg : Bool) {rung : Nat} (h : rung < k.format.infRung) : (k.format.read (k.format.word neg rung)).isInfinity = false := by
  rw [isInf_read _ (bin_le k), word_mod_lt _ _ h]
  simp; omega

/-- a finite single-precision word is smaller than 2 ^ 128 -/
theorem read32_bound {b : Nat} {g : Bool} {m : Nat} {e : Int} (h : FloatKind.f32.decode b = .number g m e) : m < 2 ^ 24 ∧ -149 ≤ e ∧ e ≤ 104 := by
  unfold FloatKind.decode FloatKind.format single Format.read at h
  dsimp only at h
  have hb : Format.binade { exponentBits := 8, fractionBits := 23 } = 8388608 := by decide
  have hi : Format.infRung { exponentBits := 8, fractionBits := 23 } = 2139095040 := by decide
  have hl : Format.leastPlace { exponentBits := 8, fractionBits := 23 } = -149 := by decide
  rw [hb, hi, hl] at h
  split at h
  · injection h with h1 h2 h3; omega
  · split at h
    · injection h with h1 h2 h3
      omega
    · split at h <;> cases h

theorem log2_lt {m n : Nat} (h : m < 2 ^ (n + 1)) : m.log2 ≤ n := by
  by_cases h0 : m = 0
  · subst h0; simp
  · exact Nat.lt_succ_iff.1 ((Nat.log2_lt h0).2 h)

theorem fits_of (s k : FloatKind) {b : Nat} (B : Int) (h : ∀ g m e, s.decode b = .number g m e → m ≠ 0 → e + m.log2 ≤ B)
    (h1 : (B - k.format.fractionBits - k.format.leastPlace + 2) * k.format.binade < k.format.infRung) (h2 : 2 * k.format.binade < k.format.infRung) : Fits s k b := by
  refine .inr ?_
  split
  · rename_i g m e hd
    by_cases hm : m = 0
    · subst hm
      have : k.encode (.number g 0 e) = k.format.word g 0 := rfl
      rw [this]
      exact not_inf_word k g (by have := h2; omega)
    · obtain ⟨r, hr, hlt⟩ := rung_lt k.format m e B g hm (h g m e hd hm) h1 h2
      have : k.encode (.number g m e) = k.format.word g r := hr
      rw [this]
      exact not_inf_word k g hlt
  · trivial

theorem fits_wide (b : Nat) : Fits .f32 .f64 b := by
  refine fits_of .f32 .f64 127 (fun g m e hd _ => ?_) (by decide) (by decide)
  obtain ⟨h1, h2, h3⟩ := read32_bound hd
  have := log2_lt (n := 23) h1
  omega

theorem ret_bool {a b : Bool} (h : a = b) : Ending.returned (.bool a) = .returned (.bool b) := by rw [h]
theorem ret_int {k : IntKind} {a b : Int} (h : a = b) : Ending.returned (.int k a) = .returned (.int k b) := by rw [h]
theorem ret_fl {k : FloatKind} {a b : Nat} (h : a = b) : Ending.returned (.float k a) = .returned (.float k b) := by rw [h]

/-! bits of single-precision words -/
@[go_sem] theorem bits_clear {p : Nat} (hp : p < 4294967296) : bits .andNot .u32 (p : Int) 2147483648 = ((p % 2147483648 : Nat) : Int) := by
  have h := u32_andNot_nat p 2147483648 hp (by decide)
  have e : ((2147483648 : Nat) : Int) = 2147483648 := rfl
  rw [e] at h
  rw [h]
  have e2 : (4294967295 - 2147483648 : Nat) = 2 ^ 31 - 1 := rfl
  rw [e2, Nat.and_two_pow_sub_one_eq_mod]
theorem and_top (p : Nat) (hp : p < 4294967296) : p &&& 2147483648 = p / 2147483648 * 2147483648 := by
  have h1 : (p &&& 2147483648) / 2 ^ 31 = p / 2 ^ 31 &&& 1 := by rw [Nat.and_div_two_pow]
  have h2 : (p &&& 2147483648) % 2 ^ 31 = 0 := by rw [Nat.and_mod_two_pow]; simp
  have h3 := Nat.div_add_mod (p &&& 2147483648) (2 ^ 31)
  rw [h1, h2, Nat.and_one_is_mod] at h3
  omega
@[go_sem] theorem bits_top {p : Nat} (hp : p < 4294967296) : bits .and .u32 (p : Int) 2147483648 = ((p / 2147483648 * 2147483648 : Nat) : Int) := by
  have h := u32_and_nat p 2147483648 hp (by decide)
  have e : ((2147483648 : Nat) : Int) = 2147483648 := rfl
  rw [e] at h
  rw [h, and_top p hp]

theorem ofInt_i64 (a : Nat) (ha : a < 9223372036854775808) : (BitVec.ofInt 64 (a : Int)).toNat = a := by
  rw [BitVec.ofInt_natCast, BitVec.toNat_ofNat]; exact Nat.mod_eq_of_lt (by omega)
theorem i64_and_nat (a b : Nat) (ha : a < 9223372036854775808) (hb : b < 9223372036854775808) : bits .and .i64 (a : Int) (b : Int) = ((a &&& b : Nat) : Int) := by
  have hx : a &&& b < 2 ^ 63 := Nat.and_lt_two_pow _ (by omega)
  show IntKind.i64.wrap ((BitVec.ofInt 64 (a : Int) &&& BitVec.ofInt 64 (b : Int)).toNat : Int) = _
  rw [BitVec.toNat_and, ofInt_i64 a ha, ofInt_i64 b hb, IntKind.wrap_i64]
  omega
theorem bits_top64 {p : Nat} (hp : p < 4294967296) : bits .and .i64 (p : Int) 2147483648 = ((p / 2147483648 * 2147483648 : Nat) : Int) := by
  have h := i64_and_nat p 2147483648 (by omega) (by decide)
  have e : ((2147483648 : Nat) : Int) = 2147483648 := rfl
  rw [e] at h
  rw [h, and_top p hp]
theorem and_exp (p : Nat) (hp : p < 4294967296) : p &&& 2139095040 = p / 8388608 % 256 * 8388608 := by
  have h1 : (p &&& 2139095040) / 2 ^ 23 = p / 2 ^ 23 &&& (2 ^ 8 - 1) := by rw [Nat.and_div_two_pow]
  have h2 : (p &&& 2139095040) % 2 ^ 23 = 0 := by rw [Nat.and_mod_two_pow]; simp
  have h3 := Nat.div_add_mod (p &&& 2139095040) (2 ^ 23)
  rw [h1, h2, Nat.and_two_pow_sub_one_eq_mod] at h3
  omega
/-- the exponent's bits of a word: nought for the numbers that are flushed -/
theorem bits_exp {p : Nat} (hp : p < 4294967296) : (bits .and .i64 (p : Int) 2139095040 == 0) = if p % 2147483648 < 8388608 then true else false := by
  have h := i64_and_nat p 2139095040 (by omega) (by decide)
  have e : ((2139095040 : Nat) : Int) = 2139095040 := rfl
  rw [e] at h
  rw [h, and_exp p hp]
  split
  · rw [beq_iff_eq]; omega
  · rw [beq_eq_false_iff_ne]; omega

theorem ab32 (b : Nat) : ab .f32 b = if 2139095040 < b % 2147483648 then none else some b := by
  unfold ab; rw [ir32, sw32]
theorem ab64 (b : Nat) : ab .f64 b = if 9218868437227405312 < b % 9223372036854775808 then none else some b := by
  unfold ab; rw [ir64, sw64]

/-- a single-precision number made wide -/
def wide : Option Nat → Option Nat := convO .f32 .f64
theorem wpList_wide {P : Program} (w : World) {ops : Array Oper} {rest : List Oper} {o : Oper} {a : Act} {Q : Exit → Act → World → Prop}
    (hg : o.guard = none) (src dst : TypeId) (x : Operand) (hop : o.op = Op.convert src dst x) (p : Nat)
    (hx : a.eval x = .float .f32 p) (hs : (P.underlying src).isSome = true) (hd : P.underlying dst = some (.float .f64)) (hb : p < 4294967296)
    (hK : ∀ (r n : Nat), Fv .f64 r (wide (ab .f32 p)) → wpList P ops Q rest (a.put o.dst (.float .f64 r)) (w.drewN n)) :
    wpList P ops Q (o :: rest) a w := wpList_conv w hg src dst x hop .f32 .f64 p hx hs hd hb (fits_wide p) hK

theorem wf_f32 {b : Nat} (h : (Lit.float .f32 b).wf = true) : b < 4294967296 := by simpa [Lit.wf] using h
theorem wf_f64 {b : Nat} (h : (Lit.float .f64 b).wf = true) : b < 18446744073709551616 := by simpa [Lit.wf] using h
end Fl
end Go.Proofs.Ytflpackchlpedaa
