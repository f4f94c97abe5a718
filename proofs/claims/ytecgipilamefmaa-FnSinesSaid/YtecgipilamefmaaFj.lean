/- The size of a difference. -/
import Derived.Test.YtecgipilamefmaaFi
set_option linter.unusedVariables false
set_option linter.unusedSimpArgs false
namespace Go.Proofs.Ytecgipilamefmaa
namespace Fl
open Ieee
/-- THE SIZE OF A DIFFERENCE, bounded by that of a sum of numbers without sign -/
theorem sub_size (k : FloatKind) {x y c d : Nat} (hx : Fin k x) (hy : Fin k y) (hc : Fin k c) (hd : Fin k d) (sc : sgn k c = false) (sd : sgn k d = false) (h1 : rung k x ≤ rung k c) (h2 : rung k y ≤ rung k d) :
    ∃ r t, floatBits .sub k x y = some r ∧ floatBits .add k c d = some t ∧ rung k r ≤ rung k t := by
  obtain ⟨m, e, hm, hz⟩ := read_fin k hx
  obtain ⟨n, f, hn, hz2⟩ := read_fin k hy
  obtain ⟨M, E, hM, hZ⟩ := read_fin k hc
  obtain ⟨N', F, hN, hZ2⟩ := read_fin k hd
  rw [sc] at hM
  rw [sd] at hN
  simp only [floatBits, Format.sub, Format.add, hm, hn, hM, hN, Datum.opposite, Datum.sum, Option.map_some]
  refine ⟨_, _, rfl, rfl, ?_⟩
  refine nearest_mono k _ _ (b := k.format.leastPlace) (by omega) (by omega) (by omega) ?_
  have e1 : (min (k.format.leastPlace + (e : Int)) (k.format.leastPlace + (f : Int)) - k.format.leastPlace).toNat = min e f := by omega
  have e2 : (min (k.format.leastPlace + (E : Int)) (k.format.leastPlace + (F : Int)) - k.format.leastPlace).toNat = min E F := by omega
  have e3 : (k.format.leastPlace + (e : Int) - min (k.format.leastPlace + (e : Int)) (k.format.leastPlace + (f : Int))).toNat = e - min e f := by omega
  have e4 : (k.format.leastPlace + (f : Int) - min (k.format.leastPlace + (e : Int)) (k.format.leastPlace + (f : Int))).toNat = f - min e f := by omega
  have e5 : (k.format.leastPlace + (E : Int) - min (k.format.leastPlace + (E : Int)) (k.format.leastPlace + (F : Int))).toNat = E - min E F := by omega
  have e6 : (k.format.leastPlace + (F : Int) - min (k.format.leastPlace + (E : Int)) (k.format.leastPlace + (F : Int))).toNat = F - min E F := by omega
  rw [e1, e2, e3, e4, e5, e6]
  have sgd : ∀ (s : Bool) (a u : Nat), signed s a u = sg s (a * 2 ^ u) := by intro s a u; simp only [signed, sg, Nat.shiftLeft_eq]
  rw [sgd, sgd, sgd, sgd]
  have a1 := sum_abs (sgn k x) (!sgn k y) (m * 2 ^ (e - min e f)) (n * 2 ^ (f - min e f))
  have a2 : (sg false (M * 2 ^ (E - min E F)) + sg false (N' * 2 ^ (F - min E F))).natAbs = M * 2 ^ (E - min E F) + N' * 2 ^ (F - min E F) := sum_pos _ _
  rw [a2]
  have b1 := Nat.mul_le_mul_right (2 ^ min e f) a1
  rw [Nat.add_mul, Nat.mul_assoc, Nat.mul_assoc, ← Nat.pow_add, ← Nat.pow_add, Nat.sub_add_cancel (Nat.min_le_left ..), Nat.sub_add_cancel (Nat.min_le_right ..), ← hz, ← hz2] at b1
  rw [Nat.add_mul, Nat.mul_assoc, Nat.mul_assoc, ← Nat.pow_add, ← Nat.pow_add, Nat.sub_add_cancel (Nat.min_le_left ..), Nat.sub_add_cancel (Nat.min_le_right ..), ← hZ, ← hZ2]
  have c1 := (zv_le k).2 h1
  have c2 := (zv_le k).2 h2
  omega
end Fl
end Go.Proofs.Ytecgipilamefmaa
