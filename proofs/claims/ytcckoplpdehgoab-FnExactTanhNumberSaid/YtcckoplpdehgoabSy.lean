/- TanhNumber. -/
import Derived.Test.YtcckoplpdehgoabSx
import Derived.Test.YtcckoplpdehgoabFw
set_option linter.unusedVariables false
set_option linter.unusedSimpArgs false
namespace Go.Proofs.Ytcckoplpdehgoab
namespace Fl
open Ieee
/-- THE SIZE OF A DIFFERENCE, bounded by that of a sum of numbers without sign -/
theorem sub_size (k : FloatKind) {x y c d : Nat} (hx : Fin k x) (hy : Fin k y) (hc : Fin k c) (hd : Fin k d) (sc : sgn k c = false) (sd : sgn k d = false) (h1 : rung k x ≤ rung k c) (h2 : rung k y ≤ rung k d) :
    ∃ r t, floatBits .sub k x y = some r ∧ floatBits .add k c d = some t ∧ rung k r ≤ rung k t := by
  obtain ⟨m, e, hm, hz⟩ := read_fin k hx
  obtain ⟨n, f, hn, hz2⟩ := read_fin k hy
  obtain ⟨M, E, hM, hZ⟩ := read_fin k hc
  obtain ⟨N', F, hN, hZ2⟩ := read_fin k hd
  rw [sc] at hM
  rw [sd] at hN
  simp only [floatBits, Format.sub, Format.add, hm, hn, hM, hN, Datum.opposite, Datum.sum, Option.map_some]
  refine ⟨_, _, rfl, rfl, ?_⟩
  refine nearest_mono k _ _ (b := k.format.leastPlace) (by omega) (by omega) (by omega) ?_
  have e1 : (min (k.format.leastPlace + (e : Int)) (k.format.leastPlace + (f : Int)) - k.format.leastPlace).toNat = min e f := by omega
  have e2 : (min (k.format.leastPlace + (E : Int)) (k.format.leastPlace + (F : Int)) - k.format.leastPlace).toNat = min E F := by omega
  have e3 : (k.format.leastPlace + (e : Int) - min (k.format.leastPlace + (e : Int)) (k.format.leastPlace + (f : Int))).toNat = e - min e f := by omega
  have e4 : (k.format.leastPlace + (f : Int) - min (k.format.leastPlace + (e : Int)) (k.format.leastPlace + (f : Int))).toNat = f - min e f := by omega
  have e5 : (k.format.leastPlace + (E : Int) - min (k.format.leastPlace + (E : Int)) (k.format.leastPlace + (F : Int))).toNat = E - min E F := by omega
  have e6 : (k.format.leastPlace + (F : Int) - min (k.format.leastPlace + (E : Int)) (k.format.leastPlace + (F : Int))).toNat = F - min E F := by omega
  rw [e1, e2, e3, e4, e5, e6]
  have sgd : ∀ (s : Bool) (a u : Nat), signed s a u = sg s (a * 2 ^ u) := by intro s a u; simp only [signed, sg, Nat.shiftLeft_eq]
  rw [sgd, sgd, sgd, sgd]
  have a1 := sum_abs (sgn k x) (!sgn k y) (m * 2 ^ (e - min e f)) (n * 2 ^ (f - min e f))
  have a2 : (sg false (M * 2 ^ (E - min E F)) + sg false (N' * 2 ^ (F - min E F))).natAbs = M * 2 ^ (E - min E F) + N' * 2 ^ (F - min E F) := sum_pos _ _
  rw [a2]
  have b1 := Nat.mul_le_mul_right (2 ^ min e f) a1
  rw [Nat.add_mul, Nat.mul_assoc, Nat.mul_assoc, ← Nat.pow_add, ← Nat.pow_add, Nat.sub_add_cancel (Nat.min_le_left ..), Nat.sub_add_cancel (Nat.min_le_right ..), ← hz, ← hz2] at b1
  rw [Nat.add_mul, Nat.mul_assoc, Nat.mul_assoc, ← Nat.pow_add, ← Nat.pow_add, Nat.sub_add_cancel (Nat.min_le_left ..), Nat.sub_add_cancel (Nat.min_le_right ..), ← hZ, ← hZ2]
  have c1 := (zv_le k).2 h1
  have c2 := (zv_le k).2 h2
  omega


theorem sgn_sq {x m : Nat} (hx : rung .f64 x < FloatKind.f64.format.infRung) (h : floatBits .mul .f64 x x = some m) : sgn .f64 m = false := by
  obtain ⟨a, e, hr, hz⟩ := read_fin .f64 hx
  simp only [floatBits, Format.mul, hr, Datum.product, Option.map_some] at h
  injection h with h
  rw [← h]
  have e1 := sgn_nearest .f64 (sgn .f64 x != sgn .f64 x) (a * a) (FloatKind.f64.format.leastPlace + (e : Int) + (FloatKind.f64.format.leastPlace + (e : Int)))
  have e2 : (sgn .f64 x != sgn .f64 x) = false := by cases sgn .f64 x <;> rfl
  exact e1.trans e2
theorem fits_nan {r : Nat} (h : Fv .f64 r none) : Fits .f64 .f32 r := by
  refine .inr ?_
  have hn := read_nan (k := .f64) (b := r)
  rw [h.2] at hn
  cases hd : FloatKind.f64.decode r with
  | nan s f => trivial
  | infinity s => trivial
  | number g m e =>
    have hd' : FloatKind.f64.format.read r = .number g m e := hd
    rw [hd'] at hn; cases hn
end Fl
open Fl Go.RowKit Ieee

def c20 : Nat := 1101004800
def cm20 : Nat := 3248488448
def one32 : Nat := 1065353216
def mone32 : Nat := 3212836864
def mone64 : Nat := 13830554455654793216
def c2 : Nat := 4611686018427387904
theorem ab_2 : ab .f64 4611686018427387904 = some c2 := by rw [ab64]; rfl
theorem ab_20 : ab .f64 4626322717216342016 = wide (some c20) := by rw [ab64]; rfl
theorem ab_m20 : ab .f64 13849694754071117824 = wide (some cm20) := by rw [ab64]; rfl
theorem ab_20s : ab .f32 c20 = some c20 := by rw [ab32]; rfl
theorem ab_m20s : ab .f32 cm20 = some cm20 := by rw [ab32]; rfl
def tanh64 (v : Option Nat) : Option Nat := opO .quo .f64 (opO .sub .f64 (expO (opO .mul .f64 (some c2) v)) (some cOne)) (opO .add .f64 (expO (opO .mul .f64 (some c2) v)) (some cOne))
def tanhW (v : Option Nat) : Option Nat :=
  if (ordO .f32 v (some c20) == some .gt) = true then some cOne
  else if (ordO .f32 v (some cm20) == some .lt) = true then some mone64
  else tanh64 (wide v)
def tanhO (v : Option Nat) : Option Nat := convO .f64 .f32 (tanhW v)

theorem ord_wide_any (b c : Nat) (hc : ab .f32 c = some c) (hf : rung .f32 c < FloatKind.f32.format.infRung) : ordO .f64 (wide (ab .f32 b)) (wide (some c)) = ordO .f32 (ab .f32 b) (some c) := by
  cases h : ab .f32 b with
  | none => rfl
  | some x =>
    obtain rfl := ab_some h
    exact ord_wide h hc hf

theorem fits_tanh {b r : Nat} (h : Fv .f64 r (tanhW (ab .f32 b))) : Fits .f64 .f32 r := by
  unfold tanhW at h
  split at h
  · obtain rfl := ab_some h.2; exact fits_size (by decide)
  · rename_i h1
    split at h
    · obtain rfl := ab_some h.2; exact fits_size (by decide)
    · rename_i h2
      cases hb : ab .f32 b with
      | none => rw [hb] at h; exact fits_nan h
      | some x =>
        obtain rfl := ab_some hb
        rw [hb] at h h1 h2
        rw [← hb, ← ord_wide_any _ _ ab_20s (by decide), hb] at h1
        rw [← hb, ← ord_wide_any _ _ ab_m20s (by decide), hb] at h2
        have hw : ab .f64 (FloatKind.f64.encode (FloatKind.f32.decode x)) = some (FloatKind.f64.encode (FloatKind.f32.decode x)) := ab_wide hb
        have e : wide (some x) = some (FloatKind.f64.encode (FloatKind.f32.decode x)) := rfl
        rw [e] at h h1 h2
        generalize FloatKind.f64.encode (FloatKind.f32.decode x) = y at *
        have hy : rung .f64 y ≤ rung .f64 4626322717216342016 := by
          have g1 : (FloatKind.f64.format.order y 4626322717216342016 == some .gt) ≠ true := h1
          have g2 : (FloatKind.f64.format.order y 13849694754071117824 == some .lt) ≠ true := h2
          rw [order_key .f64 hw ab_20] at g1
          rw [order_key .f64 hw ab_m20] at g2
          have k1 : ¬ key .f64 4626322717216342016 < key .f64 y := fun hlt => g1 (by rw [Int.compare_eq_gt.2 hlt]; rfl)
          have k2 : ¬ key .f64 y < key .f64 13849694754071117824 := fun hlt => g2 (by rw [Int.compare_eq_lt.2 hlt]; rfl)
          have q1 : key .f64 4626322717216342016 = (rung .f64 4626322717216342016 : Int) := by decide
          have q2 : key .f64 13849694754071117824 = -(rung .f64 4626322717216342016 : Int) := by decide
          rw [q1] at k1
          rw [q2] at k2
          have hk : key .f64 y = rung .f64 y ∨ key .f64 y = -(rung .f64 y : Int) := by
            unfold key sg
            split <;> simp
          rcases hk with hk | hk <;> omega
        obtain ⟨m, m', hm, hm', hle⟩ := mul_size .f64 (x := c2) (y := y) (c := c2) (d := 4626322717216342016) (by decide : rung .f64 c2 < _) (Nat.lt_of_le_of_lt hy (by decide)) (by decide : rung .f64 c2 < _) (by decide : rung .f64 4626322717216342016 < _) (Nat.le_refl _) hy
        rw [show floatBits .mul .f64 c2 4626322717216342016 = some w40 by decide +kernel] at hm'
        injection hm' with hm'
        subst hm'
        obtain ⟨p, hp, hpl, q0, hq0, hq1⟩ := exp_size (fv_op (op := .mul) (.inr (.inr (.inl rfl))) hm).2 hle
        have hps := sgn_sq hq0 hq1
        have hpf : rung .f64 p < FloatKind.f64.format.infRung := Nat.lt_of_le_of_lt hpl (by decide)
        have o1 : rung .f64 cOne < FloatKind.f64.format.infRung := by decide
        obtain ⟨a, s, ha, hs, has⟩ := sub_size .f64 (x := p) (y := cOne) (c := p) (d := cOne) hpf o1 hpf o1 hps (by decide) (Nat.le_refl _) (Nat.le_refl _)
        obtain ⟨s2, u, hs2, hu, hsu⟩ := add_size .f64 (x := p) (y := cOne) (c := w100) (d := cOne) hpf o1 (by decide : rung .f64 w100 < _) o1 (by decide) (by decide) hpl (Nat.le_refl _)
        rw [hs] at hs2
        injection hs2 with hs2
        subst hs2
        rw [show floatBits .add .f64 w100 cOne = some w100 by decide +kernel] at hu
        injection hu with hu
        subst hu
        obtain ⟨z, s3, hz, hs3, hzs⟩ := add_size .f64 (x := 0) (y := cOne) (c := p) (d := cOne) (by decide : rung .f64 0 < _) o1 hpf o1 hps (by decide) (Nat.zero_le _) (Nat.le_refl _)
        rw [hs] at hs3
        injection hs3 with hs3
        subst hs3
        rw [show floatBits .add .f64 0 cOne = some cOne by decide +kernel] at hz
        injection hz with hz
        subst hz
        have hsf : rung .f64 s < FloatKind.f64.format.infRung := Nat.lt_of_le_of_lt hsu (by decide)
        obtain ⟨q, hq, hql⟩ := div_size .f64 (x := a) (y := s) (t := cOne) (Nat.lt_of_le_of_lt has hsf) hsf o1 (by
          have : 0 < rung .f64 cOne := by decide
          omega) 1074 (by decide) (by
          have e0 : zv .f64 (rung .f64 cOne) = 2 ^ 1074 := by decide +kernel
          exact Nat.le_trans (Nat.mul_le_mul ((zv_le .f64).2 has) (Nat.le_of_eq e0.symm)) (Nat.le_of_eq (Nat.mul_comm _ _)))
        have e2 : tanh64 (some y) = some q := by
          unfold tanh64
          show opO .quo .f64 (opO .sub .f64 (expO (floatBits .mul .f64 c2 y)) (some cOne)) (opO .add .f64 (expO (floatBits .mul .f64 c2 y)) (some cOne)) = some q
          rw [hm, hp]
          show opO .quo .f64 (floatBits .sub .f64 p cOne) (floatBits .add .f64 p cOne) = some q
          rw [ha, hs]
          exact hq
        rw [e2] at h
        obtain rfl := ab_some h.2
        exact fits_size (Nat.le_trans hql (by decide))

theorem fv_one64 : Fv .f64 4607182418800017408 (some cOne) := ⟨by decide, by rw [ab64]; rfl⟩
theorem fv_mone64 : Fv .f64 13830554455654793216 (some mone64) := ⟨by decide, by rw [ab64]; rfl⟩
theorem implTanhWide_any (y : Nat) (v : Nat) (w : World) (hy : Fv .f64 y (wide (ab .f32 v))) :
    Calls Try.prog 80 #[.float .f64 y] w (RetF .f64 (tanhW (ab .f32 v)) w) := by
  have e1 : (FloatKind.f64.format.order y 4626322717216342016 == some .gt) = (ordO .f32 (ab .f32 v) (some c20) == some .gt) := by
    rw [order_ab, hy.2, ab_20, ord_wide_any v c20 ab_20s (by decide)]
  have e2 : (FloatKind.f64.format.order y 13849694754071117824 == some .lt) = (ordO .f32 (ab .f32 v) (some cm20) == some .lt) := by
    rw [order_ab, hy.2, ab_m20, ord_wide_any v cm20 ab_m20s (by decide)]
  unfold tanhW
  have HY := Lib.hid hy
  clear hy
  cases h1 : (ordO .f32 (ab .f32 v) (some c20) == some .gt)
  · rw [h1] at e1
    rw [if_neg (by decide)]
    cases h2 : (ordO .f32 (ab .f32 v) (some cm20) == some .lt)
    · rw [h2] at e2
      rw [if_neg (by decide)]
      clear h1 h2
      go_enter Try.func80, Try.ntmps80
      go_wp2_with (with_reducible_and_instances refine wpList_fop _ rfl .mul _ _ _ _ rfl _ _ _ rfl rfl rfl ?_; intro r1 q1 hr; have V1 := Lib.hid hr; clear hr)
      refine (implExp_any _ _ V1.out.1).mono ?_
      rintro e w' ⟨r2, q2, rfl, hv, rfl⟩
      have V2 := Lib.hid hv
      clear hv
      go_wp2_with (first | (with_reducible_and_instances refine wpList_fop _ rfl .sub _ _ _ _ rfl _ _ _ rfl rfl rfl ?_; intro r3 q3 hr; have V3 := Lib.hid hr; clear hr) | (with_reducible_and_instances refine wpList_fop _ rfl .add _ _ _ _ rfl _ _ _ rfl rfl rfl ?_; intro r4 q4 hr; have V4 := Lib.hid hr; clear hr) | (with_reducible_and_instances refine wpList_fop _ rfl .quo _ _ _ _ rfl _ _ _ rfl rfl rfl ?_; intro r5 q5 hr; have V5 := Lib.hid hr; clear hr))
      go_ret
      have h5 := V5.out
      rw [V3.out.2, V4.out.2, V2.out.2, V1.out.2, ab_2, HY.out.2, ab_one] at h5
      exact ⟨r5, _, rfl, h5, rfl⟩
    · rw [h2] at e2
      rw [if_pos rfl]
      clear h1 h2
      go_enter Try.func80, Try.ntmps80
      go_wp2
      go_ret
      exact ⟨_, 0, rfl, fv_mone64, rfl⟩
  · rw [h1] at e1
    rw [if_pos rfl]
    clear h1 e2
    go_enter Try.func80, Try.ntmps80
    go_wp2
    go_ret
    exact ⟨_, 0, rfl, fv_one64, rfl⟩

theorem implTanh_any (b : Nat) (w : World) (hb : b < 4294967296) :
    Calls Try.prog 47 #[.float .f32 b] w (RetF .f32 (tanhO (ab .f32 b)) w) := by
  go_enter Try.func47, Try.ntmps47
  go_wp2_with (with_reducible_and_instances refine wpList_wide _ rfl _ _ _ rfl _ rfl (by kernel_rfl) (by kernel_rfl) hb ?_; intro r1 q1 hr; have V1 := Lib.hid hr; clear hr)
  refine (implTanhWide_any _ b _ V1.out).mono ?_
  rintro e w' ⟨r2, q2, rfl, hv, rfl⟩
  have V2 := Lib.hid hv
  clear hv
  go_wp2_with fail
  refine (implNarrow_any _ _ V2.out.1 (fits_tanh V2.out)).mono ?_
  rintro e w' ⟨r3, q3, rfl, hv, rfl⟩
  have V3 := Lib.hid hv
  clear hv
  go_wp2
  go_ret
  exact ⟨r3, _, rfl, by have := V3.out; rw [V2.out.2] at this; exact this, rfl⟩

theorem fv_one32 : Fv .f32 1065353216 (some one32) := ⟨by decide, by rw [ab32]; rfl⟩
theorem fv_mone32 : Fv .f32 3212836864 (some mone32) := ⟨by decide, by rw [ab32]; rfl⟩
theorem specTanh0_any (b : Nat) (w : World) (hb : b < 4294967296) :
    Calls Try.prog 79 #[.float .f32 b] w (RetF .f32 (tanhO (ab .f32 b)) w) := by
  have e1 : (FloatKind.f32.format.order b 1101004800 == some .gt) = (ordO .f32 (ab .f32 b) (some c20) == some .gt) := by
    rw [order_ab, show ab .f32 1101004800 = some c20 from ab_20s]
  have e2 : (FloatKind.f32.format.order b 3248488448 == some .lt) = (ordO .f32 (ab .f32 b) (some cm20) == some .lt) := by
    rw [order_ab, show ab .f32 3248488448 = some cm20 from ab_m20s]
  cases h1 : (ordO .f32 (ab .f32 b) (some c20) == some .gt)
  · rw [h1] at e1
    cases h2 : (ordO .f32 (ab .f32 b) (some cm20) == some .lt)
    · rw [h2] at e2
      have eW : tanhW (ab .f32 b) = tanh64 (wide (ab .f32 b)) := by unfold tanhW; rw [h1, h2]; rfl
      clear h1 h2
      go_enter Try.func79, Try.ntmps79
      go_wp2_with (first | (with_reducible_and_instances refine wpList_wide _ rfl _ _ _ rfl _ rfl (by kernel_rfl) (by kernel_rfl) hb ?_; intro r0 q0 hr; have V0 := Lib.hid hr; clear hr) | (with_reducible_and_instances refine wpList_fop _ rfl .mul _ _ _ _ rfl _ _ _ rfl rfl rfl ?_; intro r1 q1 hr; have V1 := Lib.hid hr; clear hr))
      refine (specExp_any _ _ V1.out.1).mono ?_
      rintro e w' ⟨r2, q2, rfl, hv, rfl⟩
      have V2 := Lib.hid hv
      clear hv
      go_wp2_with (first | (with_reducible_and_instances refine wpList_fop _ rfl .sub _ _ _ _ rfl _ _ _ rfl rfl rfl ?_; intro r3 q3 hr; have V3 := Lib.hid hr; clear hr) | (with_reducible_and_instances refine wpList_fop _ rfl .add _ _ _ _ rfl _ _ _ rfl rfl rfl ?_; intro r4 q4 hr; have V4 := Lib.hid hr; clear hr) | (with_reducible_and_instances refine wpList_fop _ rfl .quo _ _ _ _ rfl _ _ _ rfl rfl rfl ?_; intro r5 q5 hr; have V5 := Lib.hid hr; clear hr))
      have h5 := V5.out
      rw [V3.out.2, V4.out.2, V2.out.2, V1.out.2, ab_2, V0.out.2, ab_one] at h5
      have h5' : Fv .f64 r5 (tanhW (ab .f32 b)) := by rw [eW]; exact h5
      have V6 := Lib.hid h5'
      clear h5 h5'
      refine (specNarrow_any _ _ V6.out.1 (fits_tanh V6.out)).mono ?_
      rintro e w' ⟨r7, q7, rfl, hv, rfl⟩
      have V7 := Lib.hid hv
      clear hv
      go_wp2
      go_ret
      exact ⟨r7, _, rfl, by have := V7.out; rw [V6.out.2] at this; exact this, rfl⟩
    · rw [h2] at e2
      have eW : tanhO (ab .f32 b) = some mone32 := by unfold tanhO tanhW; rw [h1, h2]; rfl
      rw [eW]
      clear h1 h2
      go_enter Try.func79, Try.ntmps79
      go_wp2
      go_ret
      exact ⟨_, 0, rfl, fv_mone32, rfl⟩
  · rw [h1] at e1
    have eW : tanhO (ab .f32 b) = some one32 := by unfold tanhO tanhW; rw [h1]; rfl
    rw [eW]
    clear h1 e2
    go_enter Try.func79, Try.ntmps79
    go_wp2
    go_ret
    exact ⟨_, 0, rfl, fv_one32, rfl⟩
theorem specTanh_any (b : Nat) (w : World) (hb : b < 4294967296) :
    Calls Try.prog 46 #[.float .f32 b] w (RetF .f32 (tanhO (ab .f32 b)) w) := by
  go_enter Try.func46, Try.ntmps46
  go_wp2_with (go_at_call 79; refine (specTanh0_any _ _ hb).mono ?_; rintro e w' ⟨r3, q3, rfl, hv, rfl⟩; have V3 := Lib.hid hv; clear hv)
  go_ret
  exact ⟨r3, _, rfl, V3.out, rfl⟩

theorem lawTanhNumber (b : Nat) (w : World) (hb : b < 4294967296) :
    Calls Try.prog 13 #[.float .f32 b] w fun e w' => e = .returned (.bool true) ∧ w.Since w.heap.size w' := by
  go_enter Try.func13, Try.ntmps13
  go_wp2_with (first | (go_at_call 46; refine (specTanh_any _ _ hb).mono ?_; rintro e w' ⟨r1, q1, rfl, hv, rfl⟩; have V1 := Lib.hid hv; have L1 : r1 < 4294967296 := hv.1; clear hv) | (go_at_call 47; refine (implTanh_any _ _ hb).mono ?_; rintro e w' ⟨r2, q2, rfl, hv, rfl⟩; have V2 := Lib.hid hv; have L2 : r2 < 4294967296 := hv.1; clear hv) | (with_reducible_and_instances refine wpList_wide _ rfl _ _ _ rfl _ rfl (by kernel_rfl) (by kernel_rfl) L1 ?_; intro r3 q3 hr; have X1 := Lib.hid hr; clear hr) | (with_reducible_and_instances refine wpList_wide _ rfl _ _ _ rfl _ rfl (by kernel_rfl) (by kernel_rfl) L2 ?_; intro r4 q4 hr; have X2 := Lib.hid hr; clear hr))
  refine (sameFloat_any _ _ _ _ X2.out (by have := X1.out; rw [V1.out.2, ← V2.out.2] at this; exact this)).mono ?_
  rintro e w' ⟨rfl, q5, rfl⟩
  go_wp2
  go_ret
  exact ⟨rfl, since_drewN (World.Since.refl _ _) _⟩
end Go.Proofs.Ytcckoplpdehgoab
