/- Filters with numbers in eighths: when they are stable, and their level, by reckoning. -/
import Derived.Test.YtebocaicebolaaaGi
import Derived.Test.YtebocaicebolaaaGq
import Derived.Test.YtebocaicebolaaaEg
import Derived.Test.YtebocaicebolaaaGs
set_option linter.unusedVariables false
set_option linter.unusedSimpArgs false
namespace Go.Proofs.Ytebocaicebolaaa
open Fl Go.RowKit
/-- an eighth -/
def e8O (z : Int) : O := opO .quo .f32 (some (fI z)) (some 1090519040)
def e8 (z : Int) : Nat := (e8O z).getD 0
theorem e8_some : ∀ i < 64, e8O ((i : Nat) - 20 : Int) = some (e8 ((i : Nat) - 20 : Int)) ∧ ab .f32 (e8 ((i : Nat) - 20 : Int)) = some (e8 ((i : Nat) - 20 : Int)) ∧ e8 ((i : Nat) - 20 : Int) < 4294967296 := by decide +kernel
theorem e8_ok {z : Int} (h1 : -20 ≤ z) (h2 : z ≤ 43) : e8O z = some (e8 z) ∧ ab .f32 (e8 z) = some (e8 z) ∧ e8 z < 4294967296 := by
  have h := e8_some (z + 20).toNat (by omega)
  rw [show (((z + 20).toNat : Nat) : Int) - 20 = z by omega] at h
  exact h
def stB8 (a b : Int) : Bool := (FloatKind.f32.format.order (e8 b) 3212836864 == some .gt) && (FloatKind.f32.format.order (e8 b) 1065353216 == some .lt) && stT (e8 a) (e8 b)
def inT (a b : Int) : Bool := decide (-8 < b) && decide (b < 8) && decide (a < 8 + b) && decide (-a < 8 + b)
theorem st8_all : ∀ i < 41, ∀ j < 41, stB8 ((i : Nat) - 20 : Int) ((j : Nat) - 20 : Int) = inT ((i : Nat) - 20 : Int) ((j : Nat) - 20 : Int) := by decide +kernel
theorem st8_ok {a b : Int} (h1 : -20 ≤ a) (h2 : a ≤ 20) (h3 : -20 ≤ b) (h4 : b ≤ 20) : stB8 a b = inT a b := by
  have h := st8_all (a + 20).toNat (by omega) (b + 20).toNat (by omega)
  rw [show (((a + 20).toNat : Nat) : Int) - 20 = a by omega, show (((b + 20).toNat : Nat) : Int) - 20 = b by omega] at h
  exact h
/-! the level -/
theorem one8 : ∀ i < 46, mu (e8O (i : Nat)) (some 1065353216) = e8O (i : Nat) ∧ mu (e8O (i : Nat)) (some 0) = some 0 ∧ mu (some 0) (e8O (i : Nat)) = some 0 ∧ ad (e8O (i : Nat)) (some 0) = e8O (i : Nat) ∧ ad (some 0) (e8O (i : Nat)) = e8O (i : Nat) ∧ su (e8O (i : Nat)) (some 0) = e8O (i : Nat) ∧ eqO (opO .quo .f32 (e8O (i : Nat)) (ad (ad (some 1065353216) (some 0)) (some 0))) (e8O (i : Nat)) = true := by decide +kernel
theorem two8 : ∀ i < 31, ∀ j < 16, ad (e8O (i : Nat)) (e8O (j : Nat)) = e8O ((i + j : Nat) : Int) := by decide +kernel
theorem zero8 : su (some 0) (some 0) = some 0 ∧ ad (some 0) (some 0) = some 0 ∧ mu (some 0) (some 0) = some 0 ∧ mu (some 0) (some 1065353216) = some 0 := by decide +kernel
theorem level8 (i j k : Nat) (hi : i < 16) (hj : j < 16) (hk : k < 16) :
    filY 1 false ⟨e8O i, e8O j, e8O k, some 0, some 0⟩ noM impX 0 = e8O i ∧ filY 1 false ⟨e8O i, e8O j, e8O k, some 0, some 0⟩ noM impX 1 = e8O j ∧ filY 1 false ⟨e8O i, e8O j, e8O k, some 0, some 0⟩ noM impX 2 = e8O k ∧ filY 1 false ⟨e8O i, e8O j, e8O k, some 0, some 0⟩ noM impX 3 = some 0 := by
  obtain ⟨z1, z2, z3, z4⟩ := zero8
  obtain ⟨i1, i2, i3, i4, i5, i6, i7⟩ := one8 i (by omega)
  obtain ⟨j1, j2, j3, j4, j5, j6, j7⟩ := one8 j (by omega)
  obtain ⟨k1, k2, k3, k4, k5, k6, k7⟩ := one8 k (by omega)
  have x0 : impX 0 = some 1065353216 := rfl
  have x1 : impX 1 = some 0 := rfl
  have x2 : impX 2 = some 0 := rfl
  have x3 : impX 3 = some 0 := rfl
  have y0 : turY false (e8O i) (some 0) (some 1065353216) = e8O i := by show ad (mu (e8O i) (some 1065353216)) (some 0) = _; rw [i1, i4]
  have m1 : filM 1 false ⟨e8O i, e8O j, e8O k, some 0, some 0⟩ noM impX 1 = ⟨e8O j, e8O k, some 0, some 0⟩ := by
    show stepM 1 false _ noM (impX 0) = _
    rw [x0]
    show (⟨turA (e8O j) (some 0) (some 0) (some 1065353216) (turY false (e8O i) (some 0) (some 1065353216)), turB (e8O k) (some 0) (some 1065353216) (turY false (e8O i) (some 0) (some 1065353216)), some 0, some 0⟩ : Mem) = _
    rw [y0]
    unfold turA turB
    rw [j1, k1, i3, j6, k6, j4]
  have y1 : turY false (e8O i) (e8O j) (some 0) = e8O j := by show ad (mu (e8O i) (some 0)) (e8O j) = _; rw [i2, j5]
  have m2 : filM 1 false ⟨e8O i, e8O j, e8O k, some 0, some 0⟩ noM impX 2 = ⟨e8O k, some 0, some 0, some 0⟩ := by
    show stepM 1 false _ (filM 1 false _ noM impX 1) (impX 1) = _
    rw [x1, m1]
    show (⟨turA (e8O j) (some 0) (e8O k) (some 0) (turY false (e8O i) (e8O j) (some 0)), turB (e8O k) (some 0) (some 0) (turY false (e8O i) (e8O j) (some 0)), some 0, some 0⟩ : Mem) = _
    rw [y1]
    unfold turA turB
    rw [j2, k2, j3, z1, k5]
  have y2 : turY false (e8O i) (e8O k) (some 0) = e8O k := by show ad (mu (e8O i) (some 0)) (e8O k) = _; rw [i2, k5]
  have m3 : filM 1 false ⟨e8O i, e8O j, e8O k, some 0, some 0⟩ noM impX 3 = ⟨some 0, some 0, some 0, some 0⟩ := by
    show stepM 1 false _ (filM 1 false _ noM impX 2) (impX 2) = _
    rw [x2, m2]
    show (⟨turA (e8O j) (some 0) (some 0) (some 0) (turY false (e8O i) (e8O k) (some 0)), turB (e8O k) (some 0) (some 0) (turY false (e8O i) (e8O k) (some 0)), some 0, some 0⟩ : Mem) = _
    rw [y2]
    unfold turA turB
    rw [j2, k2, k3, z1, z2]
  refine ⟨?_, ?_, ?_, ?_⟩
  · show stepY 1 false _ noM (impX 0) = _
    rw [x0]; exact y0
  · show stepY 1 false _ (filM 1 false _ noM impX 1) (impX 1) = _
    rw [m1, x1]; exact y1
  · show stepY 1 false _ (filM 1 false _ noM impX 2) (impX 2) = _
    rw [m2, x2]; exact y2
  · show stepY 1 false _ (filM 1 false _ noM impX 3) (impX 3) = _
    rw [m3, x3]
    show ad (mu (e8O i) (some 0)) (some 0) = _
    rw [i2, z2]
/-- the sum of the impulse is the level -/
theorem sum8 (i j k : Nat) (hi : i < 16) (hj : j < 16) (hk : k < 16) :
    eqO (opO .quo .f32 (ad (ad (e8O i) (e8O j)) (e8O k)) (ad (ad (some 1065353216) (some 0)) (some 0))) (ad (ad (ad (ad (some 0) (e8O i)) (e8O j)) (e8O k)) (some 0)) = true := by
  obtain ⟨i1, i2, i3, i4, i5, i6, i7⟩ := one8 i (by omega)
  obtain ⟨t1, t2, t3, t4, t5, t6, t7⟩ := one8 (i + j + k) (by omega)
  rw [i5, two8 i (by omega) j hj, two8 (i + j) (by omega) k hk, t4]
  exact t7
end Go.Proofs.Ytebocaicebolaaa
