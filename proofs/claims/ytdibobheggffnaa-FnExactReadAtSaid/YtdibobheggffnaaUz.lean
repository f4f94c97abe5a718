/- Joined: Ua Ub Uc Ud Ue Uf Ug -/
import Derived.Test.YtdibobheggffnaaJs
import Derived.Test.YtdibobheggffnaaJb
import Derived.Test.YtdibobheggffnaaJq
import Derived.Test.YtdibobheggffnaaHb
/- Whole parts of floats: what goes into an integer, and what is left of it. -/
set_option linter.unusedVariables false
set_option linter.unusedSimpArgs false
namespace Go.Proofs.Ytdibobheggffnaa
namespace Fl
open Ieee
theorem cutz_eq (s : Bool) (n d : Nat) : Toward.zero.cut s n d = n / 2 ^ d := by
  unfold Toward.cut
  dsimp only
  rw [Nat.shiftLeft_eq, Nat.one_mul]
  show n / 2 ^ min d (n.log2 + 2) + 0 = _
  rcases Nat.le_total d (n.log2 + 2) with h1 | h1
  · rw [Nat.min_eq_left h1]; rfl
  · have h2 : n < 2 ^ (n.log2 + 2) := Nat.lt_trans Nat.lt_log2_self (Nat.pow_lt_pow_right (by decide) (by omega))
    rw [Nat.min_eq_right h1, Nat.div_eq_of_lt h2, Nat.div_eq_of_lt (Nat.lt_of_lt_of_le h2 (Nat.pow_le_pow_right (by decide) h1))]
/-- the whole part of a finite number's size -/
def whl (D y : Nat) : Nat := zv .f64 (rung .f64 y) / 2 ^ D
theorem toInt_whole {y D : Nat} (hD : D = 1074) (hf : rung .f64 y < FloatKind.f64.format.infRung) (hlt : whl D y < 4611686018427387904) : floatToIntVal .f64 y .i64 = some (sg (sgn .f64 y) (whl D y)) := by
  obtain ⟨m, e, hr, hz⟩ := read_fin .f64 hf
  have h2 : FloatKind.f64.format.leastPlace = -(D : Int) := by rw [hD]; decide
  clear hD
  have hd : FloatKind.f64.decode y = .number (sgn .f64 y) m (-(D : Int) + e) := by rw [← h2]; exact hr
  have hc : Toward.zero.cut (sgn .f64 y) (m <<< (-(D : Int) + e).toNat) (-(-(D : Int) + e)).toNat = whl D y := by
    rw [cutz_eq, Nat.shiftLeft_eq]
    unfold whl
    rw [hz]
    rcases Nat.le_total e D with h4 | h4
    · rw [show (-(D : Int) + e).toNat = 0 by omega, show (-(-(D : Int) + e)).toNat = D - e by omega, Nat.pow_zero, Nat.mul_one]
      have h5 : 2 ^ D = 2 ^ (D - e) * 2 ^ e := by rw [← Nat.pow_add]; congr 1; omega
      rw [h5, Nat.mul_div_mul_right _ _ (Nat.two_pow_pos e)]
    · rw [show (-(D : Int) + e).toNat = e - D by omega, show (-(-(D : Int) + e)).toNat = 0 by omega, Nat.pow_zero, Nat.div_one]
      have h5 : 2 ^ e = 2 ^ (e - D) * 2 ^ D := by rw [← Nat.pow_add]; congr 1; omega
      rw [h5, ← Nat.mul_assoc, Nat.mul_div_cancel _ (Nat.two_pow_pos D)]
  have hi : (Datum.number (sgn .f64 y) m (-(D : Int) + e)).toInt .zero = some (sg (sgn .f64 y) (whl D y)) := by
    unfold Datum.toInt Datum.integral
    dsimp only
    rw [hc]
    simp only [signed, sg, Nat.shiftLeft_zero]
  unfold floatToIntVal
  rw [hd, hi]
  dsimp only
  have r1 : IntKind.i64.min ≤ sg (sgn .f64 y) (whl D y) := by show (-9223372036854775808 : Int) ≤ _; unfold sg; split <;> omega
  have r2 : sg (sgn .f64 y) (whl D y) ≤ IntKind.i64.max := by show _ ≤ (9223372036854775807 : Int); unfold sg; split <;> omega
  rw [if_pos ⟨r1, r2⟩]
theorem zv_low {C : Nat} (h : C < 9007199254740992) : zv .f64 C = C := by
  have hb : FloatKind.f64.format.binade = 4503599627370496 := by decide
  unfold zv
  rw [hb]
  by_cases h1 : C < 4503599627370496
  · rw [if_pos h1]
  · have e1 : C / 4503599627370496 = 1 := by omega
    have e2 : C % 4503599627370496 = C - 4503599627370496 := by omega
    rw [if_neg h1, e1, e2]
    simp
    omega
theorem fd_whole {C D : Nat} {s : Bool} (hD : D = 1074) (h : C < 9007199254740992) : rung .f64 (fd (sg s C)) < FloatKind.f64.format.infRung ∧ zv .f64 (rung .f64 (fd (sg s C))) = C * 2 ^ D ∧ (C ≠ 0 → sgn .f64 (fd (sg s C)) = s) := by
  obtain ⟨r, hr⟩ := zv_dbl .f64 C D
  rw [zv_low h] at hr
  have h2 : FloatKind.f64.format.leastPlace = -(D : Int) := by rw [hD]; decide
  have hbig : zv .f64 (1076 * 4503599627370496) = 9007199254740992 * 2 ^ D := by rw [hD]; decide +kernel
  have hfin : 1076 * 4503599627370496 < FloatKind.f64.format.infRung := by decide
  have hri : r < FloatKind.f64.format.infRung := by
    refine Nat.lt_trans ((zv_lt .f64).1 ?_) hfin
    rw [hr, hbig]
    exact Nat.mul_lt_mul_of_pos_right h (Nat.two_pow_pos D)
  clear hD hbig
  have hn : (sg s C).natAbs = C := by unfold sg; split <;> omega
  have e : fd (sg s C) = FloatKind.f64.format.nearest (decide (sg s C < 0)) C 0 := by
    show FloatKind.f64.format.nearest (decide (sg s C < 0)) (sg s C).natAbs 0 = _
    rw [hn]
  have hrr : rung .f64 (fd (sg s C)) = r := by
    rw [e]
    refine nearest_exact .f64 _ (b := -(D : Int)) hri (by omega) (by omega) ?_
    rw [h2, show (-(D : Int) - -(D : Int)).toNat = 0 by omega, show ((0 : Int) - -(D : Int)).toNat = D by omega, Nat.pow_zero, Nat.mul_one, hr]
  refine ⟨by rw [hrr]; exact hri, by rw [hrr, hr], fun h0 => ?_⟩
  rw [e, sgn_nearR]
  unfold sg
  cases s
  · simp
  · simp; omega
theorem sub_whole {x D : Nat} (hD : D = 1074) (hf : rung .f64 x < FloatKind.f64.format.infRung) (hlt : whl D x < 9007199254740992) : ∃ d, floatBits .sub .f64 x (fd (sg (sgn .f64 x) (whl D x))) = some d ∧ rung .f64 d ≤ 4607182418800017408 := by
  obtain ⟨hv1, hv2, hv3⟩ := fd_whole (s := sgn .f64 x) hD hlt
  have h2 : FloatKind.f64.format.leastPlace = -(D : Int) := by rw [hD]; decide
  have hone : rung .f64 (FloatKind.f64.format.nearest false 1 0) = 4607182418800017408 := by decide
  clear hD
  obtain ⟨m, e, hm, hz⟩ := read_fin .f64 hf
  obtain ⟨n, f, hn, hz2⟩ := read_fin .f64 hv1
  have hdm : zv .f64 (rung .f64 x) = whl D x * 2 ^ D + zv .f64 (rung .f64 x) % 2 ^ D := by unfold whl; rw [Nat.mul_comm]; exact (Nat.div_add_mod _ _).symm
  have hmod := Nat.mod_lt (zv .f64 (rung .f64 x)) (Nat.two_pow_pos D)
  obtain ⟨C, hC⟩ : ∃ C, C = whl D x := ⟨_, rfl⟩
  rw [← hC] at hv1 hv2 hv3 hn hz2 hdm hlt ⊢
  simp only [floatBits, Format.sub, hm, hn, Datum.opposite, Datum.sum, Option.map_some]
  refine ⟨_, rfl, ?_⟩
  rw [← hone]
  refine nearest_mono .f64 _ _ (b := FloatKind.f64.format.leastPlace) (by omega) (by omega) (by omega) ?_
  rw [h2]
  have e1 : (min (-(D : Int) + (e : Int)) (-(D : Int) + (f : Int)) - -(D : Int)).toNat = min e f := by omega
  have e3 : (-(D : Int) + (e : Int) - min (-(D : Int) + (e : Int)) (-(D : Int) + (f : Int))).toNat = e - min e f := by omega
  have e4 : (-(D : Int) + (f : Int) - min (-(D : Int) + (e : Int)) (-(D : Int) + (f : Int))).toNat = f - min e f := by omega
  have e5 : ((0 : Int) - -(D : Int)).toNat = D := by omega
  rw [e1, e3, e4, e5]
  have sgd : ∀ (s : Bool) (a u : Nat), signed s a u = sg s (a * 2 ^ u) := by intro s a u; simp only [signed, sg, Nat.shiftLeft_eq]
  rw [sgd, sgd]
  have a1 : m * 2 ^ (e - min e f) * 2 ^ min e f = C * 2 ^ D + zv .f64 (rung .f64 x) % 2 ^ D := by
    rw [Nat.mul_assoc, ← Nat.pow_add, Nat.sub_add_cancel (Nat.min_le_left ..), ← hz]; exact hdm
  have a2 : n * 2 ^ (f - min e f) * 2 ^ min e f = C * 2 ^ D := by
    rw [Nat.mul_assoc, ← Nat.pow_add, Nat.sub_add_cancel (Nat.min_le_right ..), ← hz2]; exact hv2
  generalize zv .f64 (rung .f64 x) % 2 ^ D = R at *
  generalize m * 2 ^ (e - min e f) = M at *
  generalize n * 2 ^ (f - min e f) = N' at *
  have hle : N' ≤ M := Nat.le_of_mul_le_mul_right (show N' * 2 ^ min e f ≤ M * 2 ^ min e f by rw [a1, a2]; omega) (Nat.two_pow_pos _)
  have hdiff : (M - N') * 2 ^ min e f = R := by rw [Nat.sub_mul, a1, a2]; omega
  have hab : (sg (sgn .f64 x) M + sg (!sgn .f64 (fd (sg (sgn .f64 x) C))) N').natAbs = M - N' := by
    by_cases h0 : C = 0
    · have hN : N' = 0 := by
        rw [h0, Nat.zero_mul] at a2
        rcases Nat.mul_eq_zero.1 a2 with h | h
        · exact h
        · have := Nat.two_pow_pos (min e f); omega
      rw [hN]
      unfold sg
      generalize sgn .f64 (fd (sg (sgn .f64 x) C)) = t
      generalize sgn .f64 x = u
      cases u <;> cases t <;> simp
    · rw [hv3 h0]
      unfold sg
      cases sgn .f64 x
      · simp; omega
      · simp; omega
  rw [hab, hdiff, Nat.one_mul]
  exact Nat.le_of_lt hmod
end Fl
end Go.Proofs.Ytdibobheggffnaa

/- Places: what a place is, whole part and share; the model's reading. -/
set_option linter.unusedVariables false
set_option linter.unusedSimpArgs false
namespace Go.Proofs.Ytdibobheggffnaa
open Fl Go.RowKit Ieee
/-- the share behind the whole part, in 32 bits -/
def shw (d : Nat) : Nat := FloatKind.f32.encode (FloatKind.f64.decode d)
structure Place (x n i d : Nat) : Prop where
  num : ab .f64 x = some x
  le : i + 1 ≤ n
  int : floatToIntVal .f64 x .i64 = some (i : Int)
  sub : floatBits .sub .f64 x (fd (i : Int)) = some d
  fit : Fits .f64 .f32 d
  lt : d < 2 ^ FloatKind.f64.format.width
  cv : convO .f64 .f32 (ab .f64 d) = some (shw d)
theorem place_of {x n : Nat} (hx : ab .f64 x = some x) (hn : 1 ≤ n) (hn2 : n ≤ 256) (h1 : FloatKind.f64.format.order x 0 = some .gt ∨ FloatKind.f64.format.order x 0 = some .eq)
    (h2 : FloatKind.f64.format.order x (fd ((n : Int) - 1)) = some .lt ∨ FloatKind.f64.format.order x (fd ((n : Int) - 1)) = some .eq) : ∃ i d, Place x n i d := by
  obtain ⟨D, hD⟩ : ∃ D : Nat, D = 1074 := ⟨_, rfl⟩
  have k0 : key .f64 0 = 0 := by decide
  have a0 : ab .f64 0 = some 0 := by decide
  have hk : 0 ≤ key .f64 x := by
    rcases ord_of hx a0 with ⟨q, e⟩ | ⟨q, e⟩ | ⟨q, e⟩
    · rw [e] at h1; rcases h1 with h | h <;> cases h
    · omega
    · omega
  obtain ⟨c1, c2, c3⟩ := fd_whole (C := n - 1) (D := D) (s := false) hD (by omega)
  have ec : sg false (n - 1) = (n : Int) - 1 := by unfold sg; simp; omega
  rw [ec] at c1 c2 c3
  have hc := fd_fits ((n : Int) - 1)
  have hkc : key .f64 x ≤ key .f64 (fd ((n : Int) - 1)) := by
    rcases ord_of hx hc.1 with ⟨q, e⟩ | ⟨q, e⟩ | ⟨q, e⟩
    · omega
    · omega
    · rw [e] at h2; rcases h2 with h | h <;> cases h
  have hrx : (rung .f64 x : Int) = key .f64 x := by
    unfold key sg at hk ⊢
    by_cases h : sgn .f64 x = true
    · rw [if_pos h] at hk ⊢; omega
    · rw [if_neg h]
  have hrc : key .f64 (fd ((n : Int) - 1)) ≤ rung .f64 (fd ((n : Int) - 1)) := by unfold key sg; split <;> omega
  have hle : rung .f64 x ≤ rung .f64 (fd ((n : Int) - 1)) := Int.ofNat_le.1 (by rw [hrx]; exact Int.le_trans hkc hrc)
  have hf : rung .f64 x < FloatKind.f64.format.infRung := Nat.lt_of_le_of_lt hle c1
  have hz : zv .f64 (rung .f64 x) ≤ (n - 1) * 2 ^ D := by rw [← c2]; exact (zv_le .f64).2 hle
  have hw : whl D x ≤ n - 1 := by unfold whl; exact Nat.div_le_of_le_mul (by rw [Nat.mul_comm]; exact hz)
  have hs : sg (sgn .f64 x) (whl D x) = (whl D x : Int) := by
    unfold sg
    split
    · next h =>
      have : rung .f64 x = 0 := by
        unfold key sg at hk
        rw [if_pos h] at hk
        omega
      have hz0 : whl D x = 0 := by unfold whl; rw [this]; simp [zv, bin_pos]
      rw [hz0]; rfl
    · rfl
  obtain ⟨d, e1, e2⟩ := sub_whole hD hf (by omega)
  have e3 := toInt_whole hD hf (by omega)
  rw [hs] at e1 e3
  refine ⟨whl D x, d, hx, by omega, e3, e1, fits_size (Nat.le_trans e2 (by decide)), op_lt e1, by rw [ab_of_rung (Nat.le_trans e2 (by decide))]; rfl⟩
def smI (n : Nat) (j : Int) : Nat := (max 0 (min j ((n : Int) - 1))).toNat
theorem smI_lt {n : Nat} (j : Int) (h : 1 ≤ n) : smI n j < n := by unfold smI; omega
theorem specMax_any (a b : Int) (w : World) : Calls Try.prog 100 #[.int .i64 a, .int .i64 b] w fun e w' => e = .returned (.int .i64 (max a b)) ∧ w = w' := by
  by_cases h : b < a
  · rw [show max a b = a by omega]
    go_enter Try.func100, Try.ntmps100
    go_wp2
    go_ret
    exact ⟨rfl, rfl⟩
  · rw [show max a b = b by omega]
    go_enter Try.func100, Try.ntmps100
    go_wp2
    go_ret
    exact ⟨rfl, rfl⟩
theorem specMin_any (a b : Int) (w : World) : Calls Try.prog 101 #[.int .i64 a, .int .i64 b] w fun e w' => e = .returned (.int .i64 (min a b)) ∧ w = w' := by
  by_cases h : a < b
  · rw [show min a b = a by omega]
    go_enter Try.func101, Try.ntmps101
    go_wp2
    go_ret
    exact ⟨rfl, rfl⟩
  · rw [show min a b = b by omega]
    go_enter Try.func101, Try.ntmps101
    go_wp2
    go_ret
    exact ⟨rfl, rfl⟩
theorem specSample_any (A : Option Addr) (n c : Nat) (xs : List Nat) (j : Int) (w : World) (B : Nat) (hA : Fs w B A n xs) (hn : 1 ≤ n) (hn2 : n ≤ 256) :
    Calls Try.prog 89 #[.slice A n c, .int .i64 j] w fun e w' => e = .returned (.float .f32 (wd xs (smI n j))) ∧ w = w' := by
  obtain ⟨g, off, rfl, hg, hc⟩ := hA.2.2 (by omega)
  have hcell : w.cell? ⟨g, off + smI n j, none⟩ = some (.float .f32 (wd xs (smI n j))) := hc _ (smI_lt j hn)
  have e1 : max 0 (min j ((n : Int) - 1)) = (smI n j : Nat) := by unfold smI; omega
  have e2 := smI_lt j hn
  have e3 : ∀ W, Calls Try.prog 100 #[.int .i64 0, .int .i64 (min j ((n : Int) - 1))] W fun e w' => e = .returned (.int .i64 (smI n j : Nat)) ∧ W = w' := fun W => by rw [← e1]; exact specMax_any _ _ W
  have E3 := Lib.hid e3
  generalize smI n j = i at *
  clear hc e1 e3
  go_enter Try.func89, Try.ntmps89
  go_wp2_with (first | (go_at_call 101; refine (specMin_any _ _ _).mono ?_; rintro e w' ⟨rfl, rfl⟩) | (go_at_call 100; refine (E3.out _).mono ?_; rintro e w' ⟨rfl, rfl⟩))
  go_ret
  exact ⟨rfl, rfl⟩
def cHf : O := some 1056964608
def geF (u : Nat) : Bool := FloatKind.f32.format.order u 1056964608 == some .gt || FloatKind.f32.format.order u 1056964608 == some .eq
def linO (a b : O) (u : Nat) : O := opO .add .f32 a (opO .mul .f32 (some u) (opO .sub .f32 b a))
def curP (z b : O) : O := opO .mul .f32 cHf (opO .sub .f32 b z)
def curQ (z a b c : O) : O := opO .sub .f32 (opO .add .f32 (opO .sub .f32 z (opO .mul .f32 (some 1075838976) a)) (opO .mul .f32 (some 1073741824) b)) (opO .mul .f32 cHf c)
def curR (z a b c : O) : O := opO .add .f32 (opO .mul .f32 (some 1069547520) (opO .sub .f32 a b)) (opO .mul .f32 cHf (opO .sub .f32 c z))
def curO (z a b c : O) (u : Nat) : O := opO .add .f32 (opO .mul .f32 (opO .add .f32 (opO .mul .f32 (opO .add .f32 (opO .mul .f32 (curR z a b c) (some u)) (curQ z a b c)) (some u)) (curP z b)) (some u)) a
def rdO (kind : Nat) (z a b c : O) (u : Nat) : O := if kind = 0 then (if geF u then b else a) else if kind = 1 then linO a b u else curO z a b c u
def rdX (kind n : Nat) (xs : List Nat) (i d : Nat) : O := rdO kind (ab .f32 (wd xs (smI n ((i : Int) - 1)))) (ab .f32 (wd xs (smI n (i : Int)))) (ab .f32 (wd xs (smI n ((i : Int) + 1)))) (ab .f32 (wd xs (smI n ((i : Int) + 2)))) (shw d)
theorem shw_lt (d : Nat) : shw d < 4294967296 := FloatKind.f32.format.write_lt _
end Go.Proofs.Ytdibobheggffnaa

/- Places: the model's reading. -/
set_option linter.unusedVariables false
set_option linter.unusedSimpArgs false
namespace Go.Proofs.Ytdibobheggffnaa
open Fl Go.RowKit Ieee
def PVT (o : O) (w : World) (e : Ending) (w' : World) : Prop := ∃ r m, e = .returned (.tuple #[.float .f32 r, .bool true]) ∧ Hid (Fv .f32 r o) ∧ w.drewN m = w'
theorem fv_word {k : FloatKind} {r u : Nat} (h : Hid (Fv k r (some u))) : r = u := by
  have := h.out.2
  unfold ab at this
  split at this
  · cases this
  · injection this
def geO64 (o : Option Ordering) : Bool := o == some .gt || o == some .eq
def leO64 (o : Option Ordering) : Bool := o == some .lt || o == some .eq
set_option maxHeartbeats 16000000 in
set_option maxRecDepth 100000 in
theorem specRead_ok (kind x n i d c : Nat) (A : Option Addr) (xs : List Nat) (w : World) (hA : Fs w w.heap.size A n xs) (hn1 : 1 ≤ n) (hn2 : n ≤ 256) (P : Place x n i d) (hx64 : x < 2 ^ 64)
    (h1 : geO64 (FloatKind.f64.format.order x 0) = true) (h2 : leO64 (FloatKind.f64.format.order x (floatOfInt .f64 ((n : Int) - 1))) = true) (hk : kind ≤ 2) :
    Calls Try.prog 77 #[.int .i64 kind, .slice A n c, .float .f64 x] w (PVT (rdX kind n xs i d) w) := by
  have HA := Lib.hid hA
  have hcv := fun (W : World) => run_convert_float_int (P := Try.prog) (w := W) 50 2 .f64 .i64 x i (by kernel_rfl) Try.underlying2 P.int
  have hxf : Hid (Fv .f64 x (some x)) := Lib.hid ⟨hx64, P.num⟩
  have hif := Lib.hid (show Fv .f64 (floatOfInt .f64 (i : Int)) (some (fd (i : Int))) from ⟨(fd_fits _).2, (fd_fits _).1⟩)
  have hil : i ≤ 255 := by have := P.le; omega
  have hsub : Hid (opO .sub .f64 (some x) (some (fd (i : Int))) = some d) := Lib.hid P.sub
  have hfit := P.fit
  have hdl := P.lt
  have hcO := Lib.hid P.cv
  have hsm := fun (W : World) (j : Int) (s : w.Since w.heap.size W) => specSample_any A n c xs j W w.heap.size (HA.out.since s) hn1 hn2
  have HS := Lib.hid hsm
  have hB : ∀ j, Hid (Fv .f32 (wd xs j) (ab .f32 (wd xs j))) := fun j => Lib.hid ⟨HA.out.2.1.at_ j, rfl⟩
  have g0 := hB (smI n ((i : Int) - 1)); have g1 := hB (smI n (i : Int)); have g2 := hB (smI n ((i : Int) + 1)); have g3 := hB (smI n ((i : Int) + 2))
  clear hsm hB hA P
  unfold geO64 at h1
  unfold leO64 at h2
  have fc1 : Hid (Fv .f32 1075838976 (some 1075838976)) := fvc (by decide) (by decide)
  have fc2 : Hid (Fv .f32 1073741824 (some 1073741824)) := fvc (by decide) (by decide)
  have fc3 : Hid (Fv .f32 1069547520 (some 1069547520)) := fvc (by decide) (by decide)
  have fc4 : Hid (Fv .f32 1056964608 (some 1056964608)) := fvh
  obtain rfl | rfl | rfl : kind = 0 ∨ kind = 1 ∨ kind = 2 := by omega
  · cases hge : (FloatKind.f32.format.order (shw d) 1056964608 == some .gt || FloatKind.f32.format.order (shw d) 1056964608 == some .eq)
    all_goals
      have HGE := Lib.hid (show geF (shw d) = _ from hge)
      go_enter Try.func77, Try.ntmps77
      go_wp2_with (first
        | ((with_reducible_and_instances refine Lo.wpList_fo _ rfl _ _ _ _ _ rfl _ _ _ _ _ rfl rfl rfl (by assumption) (by assumption) ?_; intro rr nn hrr); rw [hsub.out] at hrr; have er := fv_word hrr; subst er; clear hrr)
        | (with_reducible_and_instances refine wpList_conv _ rfl _ _ _ rfl .f64 .f32 _ rfl (by kernel_rfl) (by kernel_rfl) hdl hfit ?_; intro uu nu hu; rw [hcO.out] at hu; have eu := fv_word (Lib.hid hu); subst eu; have gu := Lib.hid hu; clear hu)
        | (go_at_call 89; refine (HS.out _ _ (by (repeat (first | (with_reducible refine Fl.sinDrew ?_) | (with_reducible refine World.Since.drew ?_) | (with_reducible refine Fl.sinSet ?_ ?_; rotate_left) | (with_reducible refine Fl.sinAlloc ?_ ?_; rotate_left) | with_reducible exact World.Since.refl _ _ | with_reducible assumption | (with_reducible refine Fl.sinStep (by with_reducible assumption) ?_))); all_goals (first | omega | (simp; done) | (simp; omega) | (simp [go_sem]; done) | (simp [go_sem]; omega)))).mono ?_; rintro e w' ⟨rfl, rfl⟩)
        | (with_reducible_and_instances refine Lo.wpList_fo _ rfl _ _ _ _ _ rfl _ _ _ _ _ rfl rfl rfl (by assumption) (by assumption) ?_; intro rr nn hrr)
        | fail)
      go_ret2
      refine ⟨_, _, rfl, ?_, rfl⟩
      show Hid (Fv _ _ (if geF (shw rr) then _ else _))
      rw [HGE.out]
      assumption
  all_goals
    go_enter Try.func77, Try.ntmps77
    go_wp2_with (first
      | ((with_reducible_and_instances refine Lo.wpList_fo _ rfl _ _ _ _ _ rfl _ _ _ _ _ rfl rfl rfl (by assumption) (by assumption) ?_; intro rr nn hrr); rw [hsub.out] at hrr; have er := fv_word hrr; subst er; clear hrr)
      | (with_reducible_and_instances refine wpList_conv _ rfl _ _ _ rfl .f64 .f32 _ rfl (by kernel_rfl) (by kernel_rfl) hdl hfit ?_; intro uu nu hu; rw [hcO.out] at hu; have eu := fv_word (Lib.hid hu); subst eu; have gu := Lib.hid hu; clear hu)
      | (go_at_call 89; refine (HS.out _ _ (by (repeat (first | (with_reducible refine Fl.sinDrew ?_) | (with_reducible refine World.Since.drew ?_) | (with_reducible refine Fl.sinSet ?_ ?_; rotate_left) | (with_reducible refine Fl.sinAlloc ?_ ?_; rotate_left) | with_reducible exact World.Since.refl _ _ | with_reducible assumption | (with_reducible refine Fl.sinStep (by with_reducible assumption) ?_))); all_goals (first | omega | (simp; done) | (simp; omega) | (simp [go_sem]; done) | (simp [go_sem]; omega)))).mono ?_; rintro e w' ⟨rfl, rfl⟩)
      | (with_reducible_and_instances refine Lo.wpList_fo _ rfl _ _ _ _ _ rfl _ _ _ _ _ rfl rfl rfl (by assumption) (by assumption) ?_; intro rr nn hrr)
      | fail)
    go_ret2
    exact ⟨_, _, rfl, hrr, rfl⟩
end Go.Proofs.Ytdibobheggffnaa

/- Places: the program's frames. -/
set_option linter.unusedVariables false
set_option linter.unusedSimpArgs false
namespace Go.Proofs.Ytdibobheggffnaa
open Fl Go.RowKit Ieee
theorem run_maxI {P : Program} (ts : Array TypeId) (t : TypeId) (x y r : Int) (h : r = max x y) (W : World) : (Builtin.max_ ts t #[.int .i64 x, .int .i64 y]).run P W = .ok (.int .i64 r) W := by
  by_cases h1 : x < y
  · have : r = y := by omega
    subst this
    simp [Builtin.max_, Builtin.max2, h1]
  · have : r = x := by omega
    subst this
    simp [Builtin.max_, Builtin.max2, h1]
theorem run_minI {P : Program} (ts : Array TypeId) (t : TypeId) (x y r : Int) (h : r = min x y) (W : World) : (Builtin.min_ ts t #[.int .i64 x, .int .i64 y]).run P W = .ok (.int .i64 r) W := by
  by_cases h1 : y < x
  · have : r = y := by omega
    subst this
    simp [Builtin.min_, Builtin.min2, h1]
  · have : r = x := by omega
    subst this
    simp [Builtin.min_, Builtin.min2, h1]
theorem offs0 (W : World) : (Instr.index 114 (.agg #[.int .i64 (-1), .int .i64 0, .int .i64 1, .int .i64 2]) (.int .i64 0)).run Try.prog W = .ok (.int .i64 (-1)) W := by kernel_rfl
theorem offs1 (W : World) : (Instr.index 114 (.agg #[.int .i64 (-1), .int .i64 0, .int .i64 1, .int .i64 2]) (.int .i64 1)).run Try.prog W = .ok (.int .i64 0) W := by kernel_rfl
theorem offs2 (W : World) : (Instr.index 114 (.agg #[.int .i64 (-1), .int .i64 0, .int .i64 1, .int .i64 2]) (.int .i64 2)).run Try.prog W = .ok (.int .i64 1) W := by kernel_rfl
theorem offs3 (W : World) : (Instr.index 114 (.agg #[.int .i64 (-1), .int .i64 0, .int .i64 1, .int .i64 2]) (.int .i64 3)).run Try.prog W = .ok (.int .i64 2) W := by kernel_rfl
def offs (k : Nat) : Int := if k = 0 then -1 else if k = 1 then 0 else if k = 2 then 1 else 2
def fr4 (n i k : Nat) (xs : List Nat) (j : Nat) : Value := if j < k then .float .f32 (wd xs (smI n ((i : Int) + offs j))) else .float .f32 0
def Fr4 (w : World) (b n i k : Nat) (xs : List Nat) : Prop :=
  w.heap[b]? = some (.cells #[.float .f32 0, .float .f32 0, .float .f32 0, .float .f32 0] 105 (0, 0)) ∧ w.heap[b + 1]? = some (.cells #[fr4 n i k xs 0, fr4 n i k xs 1, fr4 n i k xs 2, fr4 n i k xs 3] 105 (0, 0)) ∧ b + 1 < w.heap.size
theorem Fr4.put {w : World} {b n i k : Nat} {xs : List Nat} (h : Fr4 w b n i k xs) (j : Nat) (hj : j = k) {v : Nat} (hv : v = wd xs (smI n ((i : Int) + offs j))) (hk : k < 4 := by decide) : Fr4 (w.setCell ⟨b + 1, j, none⟩ (.float .f32 v)) b n i (k + 1) xs := by
  subst hj
  obtain ⟨h1, h2, h3⟩ := h
  refine ⟨(Go.Deep.blk_setCell_other _ _ _ _ (show b ≠ b + 1 by omega)).trans h1, ?_, by rw [Go.Deep.nblk_setCell]; exact h3⟩
  obtain rfl | rfl | rfl | rfl : j = 0 ∨ j = 1 ∨ j = 2 ∨ j = 3 := by omega
  all_goals simp [World.setCell, Array.getElem?_modify, h2, fr4, hv]
set_option maxHeartbeats 16000000 in
set_option maxRecDepth 100000 in
theorem frameAt_any (i n c : Nat) (A : Option Addr) (xs : List Nat) (w : World) (hA : Fs w w.heap.size A n xs) (hn1 : 1 ≤ n) (hn2 : n ≤ 256) (hi : i ≤ 255) :
    Calls Try.prog 93 #[.slice A n c, .int .i64 i] w fun e w' => e = .returned (.agg #[.float .f32 (wd xs (smI n ((i : Int) - 1))), .float .f32 (wd xs (smI n (i : Int))), .float .f32 (wd xs (smI n ((i : Int) + 1))), .float .f32 (wd xs (smI n ((i : Int) + 2)))]) ∧ w.Since w.heap.size w' := by
  obtain ⟨g, off, rfl, hg, hc⟩ := hA.2.2 (by omega)
  have hcs : ∀ j, Hid (w.cell? ⟨g, off + smI n j, none⟩ = some (.float .f32 (wd xs (smI n j)))) := fun j => Lib.hid (hc _ (smI_lt j hn1))
  clear hc hA
  have q0 := offs0; have q1 := offs1; have q2 := offs2; have q3 := offs3
  go_enter Try.func93, Try.ntmps93
  go_wp2_with fail
  go_loopw [13] (fun iv wr => ∃ k : Nat, k ≤ 4 ∧ iv = .int .i64 (k : Nat) ∧ Fr4 wr w.heap.size n i k xs ∧ w.Since w.heap.size wr) (fun iv _ => 4 - (intOf iv).toNat)
  case atStart =>
    refine ⟨0, by omega, rfl, ⟨?_, ?_, ?_⟩, by (repeat (first | (with_reducible refine Fl.sinDrew ?_) | (with_reducible refine World.Since.drew ?_) | (with_reducible refine Fl.sinSet ?_ ?_; rotate_left) | (with_reducible refine Fl.sinAlloc ?_ ?_; rotate_left) | with_reducible exact World.Since.refl _ _ | with_reducible assumption | (with_reducible refine Fl.sinStep (by with_reducible assumption) ?_))); all_goals (first | omega | (simp; done) | (simp; omega) | (simp [go_sem]; done) | (simp [go_sem]; omega))⟩
    · exact (((World.Since.refl (w.heap.size + 1) _).alloc (by simp) _).block _ (by omega)).trans (Go.Deep.blk_alloc_new _ _)
    · have := Go.Deep.blk_alloc_new (w.alloc (.cells #[.float .f32 0, .float .f32 0, .float .f32 0, .float .f32 0] 105)) (.cells #[.float .f32 0, .float .f32 0, .float .f32 0, .float .f32 0] 105)
      simpa [fr4] using this
    · simp
  case round =>
    obtain ⟨k, hk, rfl, hf, hs⟩ := hrel
    have HF := Lib.hid hf; have HS := Lib.hid hs
    obtain ⟨b0, b1, hz⟩ := hf
    obtain rfl | rfl | rfl | rfl | rfl : k = 0 ∨ k = 1 ∨ k = 2 ∨ k = 3 ∨ k = 4 := by omega
    · have HZ := Lib.hid hz
      have e1 := smI_lt ((i : Int) - 1) hn1
      have cl := (HS.out.cell (a := ⟨g, off + smI n ((i : Int) - 1), none⟩) hg).trans (hcs _).out
      have cf : wr.cell? ⟨w.heap.size + 1, 0, none⟩ = some (.float .f32 0) := by simp [World.cell?, b1, fr4]
      have cz : wr.frozen? ⟨w.heap.size + 1, 0, none⟩ = false := by simp [World.frozen?, b1]
      have em : min (max ((i : Int) + -1) 0) ((n : Int) - 1) = (smI n ((i : Int) - 1) : Nat) := by unfold smI; omega
      have hm1 := fun W => run_maxI (P := Try.prog) #[3, 3] 3 ((i : Int) + -1) 0 _ rfl W
      have hm2 := fun W => run_minI (P := Try.prog) #[3, 3] 3 (max ((i : Int) + -1) 0) ((n : Int) - 1) _ rfl W
      rw [em] at hm2
      have HR : Hid (Fr4 (wr.setCell ⟨w.heap.size + 1, 0, none⟩ (.float .f32 (wd xs (smI n ((i : Int) - 1))))) w.heap.size n i 1 xs) := Lib.hid (HF.out.put 0 rfl (by simp [offs, Int.sub_eq_add_neg]))
      generalize smI n ((i : Int) - 1) = p at *
      generalize max ((i : Int) + -1) 0 = M at *
      clear hs b0 b1 hz em
      rw [show ((0 : Nat) : Int) = 0 from rfl]
      go_wp2
      go_roundw
      case rel => exact ⟨1, by omega, rfl, HR.out, HS.out.setCell (by show _ ≤ w.heap.size + 1; omega) _⟩
      case measure => simp [intOf]
    · have HZ := Lib.hid hz
      have e1 := smI_lt (i : Int) hn1
      have cl := (HS.out.cell (a := ⟨g, off + smI n (i : Int), none⟩) hg).trans (hcs _).out
      have cf : wr.cell? ⟨w.heap.size + 1, 1, none⟩ = some (.float .f32 0) := by simp [World.cell?, b1, fr4]
      have cz : wr.frozen? ⟨w.heap.size + 1, 1, none⟩ = false := by simp [World.frozen?, b1]
      have em : min (max ((i : Int)) 0) ((n : Int) - 1) = (smI n (i : Int) : Nat) := by unfold smI; omega
      have hm1 := fun W => run_maxI (P := Try.prog) #[3, 3] 3 ((i : Int)) 0 _ rfl W
      have hm2 := fun W => run_minI (P := Try.prog) #[3, 3] 3 (max ((i : Int)) 0) ((n : Int) - 1) _ rfl W
      rw [em] at hm2
      have HR : Hid (Fr4 (wr.setCell ⟨w.heap.size + 1, 1, none⟩ (.float .f32 (wd xs (smI n (i : Int))))) w.heap.size n i 2 xs) := Lib.hid (HF.out.put 1 rfl (by simp [offs]))
      generalize smI n (i : Int) = p at *
      generalize max ((i : Int)) 0 = M at *
      clear hs b0 b1 hz em
      rw [show ((1 : Nat) : Int) = 1 from rfl]
      go_wp2
      go_roundw
      case rel => exact ⟨2, by omega, rfl, HR.out, HS.out.setCell (by show _ ≤ w.heap.size + 1; omega) _⟩
      case measure => simp [intOf]
    · have HZ := Lib.hid hz
      have e1 := smI_lt ((i : Int) + 1) hn1
      have cl := (HS.out.cell (a := ⟨g, off + smI n ((i : Int) + 1), none⟩) hg).trans (hcs _).out
      have cf : wr.cell? ⟨w.heap.size + 1, 2, none⟩ = some (.float .f32 0) := by simp [World.cell?, b1, fr4]
      have cz : wr.frozen? ⟨w.heap.size + 1, 2, none⟩ = false := by simp [World.frozen?, b1]
      have em : min (max ((i : Int) + 1) 0) ((n : Int) - 1) = (smI n ((i : Int) + 1) : Nat) := by unfold smI; omega
      have hm1 := fun W => run_maxI (P := Try.prog) #[3, 3] 3 ((i : Int) + 1) 0 _ rfl W
      have hm2 := fun W => run_minI (P := Try.prog) #[3, 3] 3 (max ((i : Int) + 1) 0) ((n : Int) - 1) _ rfl W
      rw [em] at hm2
      have HR : Hid (Fr4 (wr.setCell ⟨w.heap.size + 1, 2, none⟩ (.float .f32 (wd xs (smI n ((i : Int) + 1))))) w.heap.size n i 3 xs) := Lib.hid (HF.out.put 2 rfl (by simp [offs]))
      generalize smI n ((i : Int) + 1) = p at *
      generalize max ((i : Int) + 1) 0 = M at *
      clear hs b0 b1 hz em
      rw [show ((2 : Nat) : Int) = 2 from rfl]
      go_wp2
      go_roundw
      case rel => exact ⟨3, by omega, rfl, HR.out, HS.out.setCell (by show _ ≤ w.heap.size + 1; omega) _⟩
      case measure => simp [intOf]
    · have HZ := Lib.hid hz
      have e1 := smI_lt ((i : Int) + 2) hn1
      have cl := (HS.out.cell (a := ⟨g, off + smI n ((i : Int) + 2), none⟩) hg).trans (hcs _).out
      have cf : wr.cell? ⟨w.heap.size + 1, 3, none⟩ = some (.float .f32 0) := by simp [World.cell?, b1, fr4]
      have cz : wr.frozen? ⟨w.heap.size + 1, 3, none⟩ = false := by simp [World.frozen?, b1]
      have em : min (max ((i : Int) + 2) 0) ((n : Int) - 1) = (smI n ((i : Int) + 2) : Nat) := by unfold smI; omega
      have hm1 := fun W => run_maxI (P := Try.prog) #[3, 3] 3 ((i : Int) + 2) 0 _ rfl W
      have hm2 := fun W => run_minI (P := Try.prog) #[3, 3] 3 (max ((i : Int) + 2) 0) ((n : Int) - 1) _ rfl W
      rw [em] at hm2
      have HR : Hid (Fr4 (wr.setCell ⟨w.heap.size + 1, 3, none⟩ (.float .f32 (wd xs (smI n ((i : Int) + 2))))) w.heap.size n i 4 xs) := Lib.hid (HF.out.put 3 rfl (by simp [offs]))
      generalize smI n ((i : Int) + 2) = p at *
      generalize max ((i : Int) + 2) 0 = M at *
      clear hs b0 b1 hz em
      rw [show ((3 : Nat) : Int) = 3 from rfl]
      go_wp2
      go_roundw
      case rel => exact ⟨4, by omega, rfl, HR.out, HS.out.setCell (by show _ ≤ w.heap.size + 1; omega) _⟩
      case measure => simp [intOf]
    · have hz2 := hz
      have r0 : wr.cell? ⟨w.heap.size + 1, 0, none⟩ = some (.float .f32 (wd xs (smI n ((i : Int) - 1)))) := by simp [World.cell?, b1, fr4, offs, Int.sub_eq_add_neg]
      have r1 : wr.cell? ⟨w.heap.size + 1, 1, none⟩ = some (.float .f32 (wd xs (smI n (i : Int)))) := by simp [World.cell?, b1, fr4, offs]
      have r2 : wr.cell? ⟨w.heap.size + 1, 2, none⟩ = some (.float .f32 (wd xs (smI n ((i : Int) + 1)))) := by simp [World.cell?, b1, fr4, offs]
      have r3 : wr.cell? ⟨w.heap.size + 1, 3, none⟩ = some (.float .f32 (wd xs (smI n ((i : Int) + 2)))) := by simp [World.cell?, b1, fr4, offs]
      have t0 : wr.cell? ⟨w.heap.size, 0, none⟩ = some (.float .f32 0) := by simp [World.cell?, b0]
      have t1 : wr.cell? ⟨w.heap.size, 1, none⟩ = some (.float .f32 0) := by simp [World.cell?, b0]
      have t2 : wr.cell? ⟨w.heap.size, 2, none⟩ = some (.float .f32 0) := by simp [World.cell?, b0]
      have t3 : wr.cell? ⟨w.heap.size, 3, none⟩ = some (.float .f32 0) := by simp [World.cell?, b0]
      have z0 : wr.frozen? ⟨w.heap.size, 0, none⟩ = false := by simp [World.frozen?, b0]
      have z1 : wr.frozen? ⟨w.heap.size, 1, none⟩ = false := by simp [World.frozen?, b0]
      have z2 : wr.frozen? ⟨w.heap.size, 2, none⟩ = false := by simp [World.frozen?, b0]
      have z3 : wr.frozen? ⟨w.heap.size, 3, none⟩ = false := by simp [World.frozen?, b0]
      clear hs b0 b1 hz
      rw [show ((4 : Nat) : Int) = 4 from rfl]
      go_wp2
      exact bodyPost_ret (v := .agg #[.float .f32 (wd xs (smI n ((i : Int) - 1))), .float .f32 (wd xs (smI n (i : Int))), .float .f32 (wd xs (smI n ((i : Int) + 1))), .float .f32 (wd xs (smI n ((i : Int) + 2)))]) (by simp [results, Try.results93, go_sem, t0, t1, t2, t3]) rfl ⟨rfl, (((HS.out.setCell (Nat.le_refl _) _).setCell (Nat.le_refl _) _).setCell (Nat.le_refl _) _).setCell (Nat.le_refl _) _⟩
end Go.Proofs.Ytdibobheggffnaa

/- Places: the program's ways to read. -/
set_option linter.unusedVariables false
set_option linter.unusedSimpArgs false
namespace Go.Proofs.Ytdibobheggffnaa
open Fl Go.RowKit Ieee
def frV (z a b c : Nat) : Value := .agg #[.float .f32 z, .float .f32 a, .float .f32 b, .float .f32 c]
def PFl (o : O) (w : World) (e : Ending) (w' : World) : Prop := ∃ r, e = .returned (.float .f32 r) ∧ Hid (Fv .f32 r o) ∧ w.Since w.heap.size w'
set_option maxHeartbeats 4000000 in
set_option maxRecDepth 100000 in
theorem near_any (z a b c u : Nat) (o : O) (w : World) (hb : Hid (Fv .f32 b (ab .f32 b))) (ha : Hid (Fv .f32 a (ab .f32 a))) (ho : Hid ((if geF u then ab .f32 b else ab .f32 a) = o)) :
    Calls Try.prog 90 #[frV z a b c, .float .f32 u] w (PFl o w) := by
  unfold frV
  cases hge : (FloatKind.f32.format.order u 1056964608 == some .gt || FloatKind.f32.format.order u 1056964608 == some .eq)
  all_goals
    have HGE := Lib.hid (show geF u = _ from hge)
    go_enter Try.func90, Try.ntmps90
    go_wp2
    go_ret
    refine ⟨_, rfl, ?_, by (repeat (first | (with_reducible refine Fl.sinDrew ?_) | (with_reducible refine World.Since.drew ?_) | (with_reducible refine Fl.sinSet ?_ ?_; rotate_left) | (with_reducible refine Fl.sinAlloc ?_ ?_; rotate_left) | with_reducible exact World.Since.refl _ _ | with_reducible assumption | (with_reducible refine Fl.sinStep (by with_reducible assumption) ?_))); all_goals (first | omega | (simp; done) | (simp; omega) | (simp [go_sem]; done) | (simp [go_sem]; omega))⟩
    rw [← ho.out, HGE.out]
    assumption
set_option maxHeartbeats 8000000 in
set_option maxRecDepth 100000 in
theorem line_any (z a b c u : Nat) (w : World) (hb : Hid (Fv .f32 b (ab .f32 b))) (ha : Hid (Fv .f32 a (ab .f32 a))) (hu : Hid (Fv .f32 u (some u))) :
    Calls Try.prog 91 #[frV z a b c, .float .f32 u] w (PFl (linO (ab .f32 a) (ab .f32 b) u) w) := by
  unfold frV
  obtain ⟨W, hW⟩ : ∃ W, W = w.alloc (.cells #[.float .f32 z, .float .f32 a, .float .f32 b, .float .f32 c] 105) := ⟨_, rfl⟩
  have S : Hid (w.Since w.heap.size W) := Lib.hid (by rw [hW]; exact (World.Since.refl _ _).alloc (Nat.le_refl _) _)
  have c1 : W.cell? ⟨w.heap.size, 1, none⟩ = some (.float .f32 a) := by rw [hW]; simp [go_sem]
  have c2 : W.cell? ⟨w.heap.size, 2, none⟩ = some (.float .f32 b) := by rw [hW]; simp [go_sem]
  go_enter Try.func91, Try.ntmps91
  go_wp2_with fail
  rw [← hW]
  clear hW
  refine Lo.wp_loose_all [] (by kernel_rfl) (by kernel_rfl) ?_
  repeat (first
    | (refine Lo.wpL_move rfl _ (.inl rfl) (by decide) ?_; simp only [Act.put, List.setIfInBounds_toArray, List.set_cons_succ, List.set_cons_zero])
    | (refine Lo.wpL_move rfl _ (.inr rfl) (by decide) ?_; simp only [Act.put, List.setIfInBounds_toArray, List.set_cons_succ, List.set_cons_zero])
    | (refine Lo.wpL_fop rfl _ _ _ _ rfl rfl (by decide) _ _ _ _ _ rfl rfl (by assumption) (by assumption) ?_; intro rr hrr; simp only [Act.put, List.setIfInBounds_toArray, List.set_cons_succ, List.set_cons_zero])
    | (refine Lo.wpL_wide rfl _ _ _ rfl (by decide) _ _ rfl (by kernel_rfl) (by kernel_rfl) (by assumption) ?_; intro rr hrr; simp only [Act.put, List.setIfInBounds_toArray, List.set_cons_succ, List.set_cons_zero])
    | (refine Lo.wpL_quiet rfl (by decide) (fun K hK => ?_); go_big_quiet_op; (refine hK _ ?_; clear hK K)))
  refine Lo.wpL_nil ?_
  refine Lo.after_nil ?_; intro nq
  go_wp2_with (first | (with_reducible_and_instances refine Lo.wpList_fo _ rfl _ _ _ _ _ rfl _ _ _ _ _ rfl rfl rfl (by assumption) (by assumption) ?_; intro rr nn hrr))
  go_ret
  exact ⟨_, rfl, hrr, by (repeat (first | (with_reducible refine Fl.sinDrew ?_) | (with_reducible refine World.Since.drew ?_) | (with_reducible refine Fl.sinSet ?_ ?_; rotate_left) | (with_reducible refine Fl.sinAlloc ?_ ?_; rotate_left) | with_reducible exact World.Since.refl _ _ | with_reducible assumption | (with_reducible refine Fl.sinStep (by with_reducible assumption) ?_))); all_goals (first | omega | (simp; done) | (simp; omega) | (simp [go_sem]; done) | (simp [go_sem]; omega))⟩
set_option maxHeartbeats 8000000 in
set_option maxRecDepth 100000 in
theorem curve_any (z a b c u : Nat) (w : World) (hz : Hid (Fv .f32 z (ab .f32 z))) (hb : Hid (Fv .f32 b (ab .f32 b))) (ha : Hid (Fv .f32 a (ab .f32 a))) (hc : Hid (Fv .f32 c (ab .f32 c))) (hu : Hid (Fv .f32 u (some u))) :
    Calls Try.prog 92 #[frV z a b c, .float .f32 u] w (PFl (curO (ab .f32 z) (ab .f32 a) (ab .f32 b) (ab .f32 c) u) w) := by
  unfold frV
  have fc1 : Hid (Fv .f32 1075838976 (some 1075838976)) := fvc (by decide) (by decide)
  have fc2 : Hid (Fv .f32 1073741824 (some 1073741824)) := fvc (by decide) (by decide)
  have fc3 : Hid (Fv .f32 1069547520 (some 1069547520)) := fvc (by decide) (by decide)
  have fc4 : Hid (Fv .f32 1056964608 (some 1056964608)) := fvh
  obtain ⟨W, hW⟩ : ∃ W, W = w.alloc (.cells #[.float .f32 z, .float .f32 a, .float .f32 b, .float .f32 c] 105) := ⟨_, rfl⟩
  have S : Hid (w.Since w.heap.size W) := Lib.hid (by rw [hW]; exact (World.Since.refl _ _).alloc (Nat.le_refl _) _)
  have c0 : W.cell? ⟨w.heap.size, 0, none⟩ = some (.float .f32 z) := by rw [hW]; simp [go_sem]
  have c1 : W.cell? ⟨w.heap.size, 1, none⟩ = some (.float .f32 a) := by rw [hW]; simp [go_sem]
  have c2 : W.cell? ⟨w.heap.size, 2, none⟩ = some (.float .f32 b) := by rw [hW]; simp [go_sem]
  have c3 : W.cell? ⟨w.heap.size, 3, none⟩ = some (.float .f32 c) := by rw [hW]; simp [go_sem]
  go_enter Try.func92, Try.ntmps92
  go_wp2_with fail
  rw [← hW]
  clear hW
  refine Lo.wp_loose_all [] (by kernel_rfl) (by kernel_rfl) ?_
  repeat (first
    | (refine Lo.wpL_move rfl _ (.inl rfl) (by decide) ?_; simp only [Act.put, List.setIfInBounds_toArray, List.set_cons_succ, List.set_cons_zero])
    | (refine Lo.wpL_move rfl _ (.inr rfl) (by decide) ?_; simp only [Act.put, List.setIfInBounds_toArray, List.set_cons_succ, List.set_cons_zero])
    | (refine Lo.wpL_fop rfl _ _ _ _ rfl rfl (by decide) _ _ _ _ _ rfl rfl (by assumption) (by assumption) ?_; intro rr hrr; simp only [Act.put, List.setIfInBounds_toArray, List.set_cons_succ, List.set_cons_zero])
    | (refine Lo.wpL_wide rfl _ _ _ rfl (by decide) _ _ rfl (by kernel_rfl) (by kernel_rfl) (by assumption) ?_; intro rr hrr; simp only [Act.put, List.setIfInBounds_toArray, List.set_cons_succ, List.set_cons_zero])
    | (refine Lo.wpL_quiet rfl (by decide) (fun K hK => ?_); go_big_quiet_op; (refine hK _ ?_; clear hK K)))
  refine Lo.wpL_nil ?_
  refine Lo.after_nil ?_; intro nq
  go_wp2_with (first | (with_reducible_and_instances refine Lo.wpList_fo _ rfl _ _ _ _ _ rfl _ _ _ _ _ rfl rfl rfl (by assumption) (by assumption) ?_; intro rr nn hrr))
  go_ret
  exact ⟨_, rfl, hrr, by (repeat (first | (with_reducible refine Fl.sinDrew ?_) | (with_reducible refine World.Since.drew ?_) | (with_reducible refine Fl.sinSet ?_ ?_; rotate_left) | (with_reducible refine Fl.sinAlloc ?_ ?_; rotate_left) | with_reducible exact World.Since.refl _ _ | with_reducible assumption | (with_reducible refine Fl.sinStep (by with_reducible assumption) ?_))); all_goals (first | omega | (simp; done) | (simp; omega) | (simp [go_sem]; done) | (simp [go_sem]; omega))⟩
set_option maxHeartbeats 4000000 in
theorem narrow_fit (d : Nat) (w : World) (hd : d < 2 ^ FloatKind.f64.format.width) (hf : Fits .f64 .f32 d) (hc : convO .f64 .f32 (ab .f64 d) = some (shw d)) :
    Calls Try.prog 94 #[.float .f64 d] w fun e w' => e = .returned (.float .f32 (shw d)) ∧ Hid (Fv .f32 (shw d) (some (shw d))) ∧ ∃ m, w.drewN m = w' := by
  have HC := Lib.hid hc
  clear hc
  go_enter Try.func94, Try.ntmps94
  go_wp2_with (first | (with_reducible_and_instances refine wpList_conv _ rfl _ _ _ rfl .f64 .f32 _ rfl (by kernel_rfl) (by kernel_rfl) hd hf ?_; intro uu nu hu; rw [HC.out] at hu; have eu := fv_word (Lib.hid hu); subst eu; have gu := Lib.hid hu; clear hu))
  go_ret
  exact ⟨rfl, gu, nu, rfl⟩
theorem readerOf_ok (k : Nat) (hk : k ≤ 2) (w : World) : Calls Try.prog 78 #[.int .i64 k] w fun e w' => e = .returned (.tuple #[.func (.func (if k = 0 then 90 else if k = 1 then 91 else 92)) #[] #[], .bool true]) ∧ w = w' := by
  obtain rfl | rfl | rfl : k = 0 ∨ k = 1 ∨ k = 2 := by omega
  all_goals
    go_enter Try.func78, Try.ntmps78
    go_wp2
    go_ret2
    exact ⟨rfl, rfl⟩
theorem readerOf_no (k : Int) (hk : inB k 0 2 = false) (w : World) : Calls Try.prog 78 #[.int .i64 k] w fun e w' => ∃ v, e = .returned (.tuple #[v, .bool false]) ∧ w = w' := by
  have h : ¬ (0 ≤ k ∧ k ≤ 2) := fun h => by simp [inB, h.1, h.2] at hk
  have h0 : (k == 0) = false := beq_eq_false_iff_ne.2 (by omega)
  have h1 : (k == 1) = false := beq_eq_false_iff_ne.2 (by omega)
  have h2 : (k == 2) = false := beq_eq_false_iff_ne.2 (by omega)
  go_enter Try.func78, Try.ntmps78
  go_wp2
  go_ret2
  exact ⟨_, rfl, rfl⟩
end Go.Proofs.Ytdibobheggffnaa

/- Places: reading at a place, both. -/
set_option linter.unusedVariables false
set_option linter.unusedSimpArgs false
namespace Go.Proofs.Ytdibobheggffnaa
open Fl Go.RowKit Ieee
def rdFn (k : Nat) : FuncId := if k = 0 then 90 else if k = 1 then 91 else 92
def isP (x n : Nat) : Bool := geO64 (FloatKind.f64.format.order x 0) && leO64 (FloatKind.f64.format.order x (floatOfInt .f64 ((n : Int) - 1)))
theorem isPlace_any (x n c : Nat) (A : Option Addr) (b : Bool) (w : World) (hn : n ≤ 1048576) (h : isP x n = b) : Calls Try.prog 79 #[.float .f64 x, .slice A n c] w fun e w' => e = .returned (.bool b) ∧ w = w' := by
  subst h
  have HB := Lib.hid (show isP x n = _ from rfl)
  cases h1 : (FloatKind.f64.format.order x 0 == some .gt || FloatKind.f64.format.order x 0 == some .eq)
  · have e : isP x n = false := by unfold isP geO64; rw [h1]; rfl
    rw [e]
    go_enter Try.func79, Try.ntmps79
    go_wp2
    go_ret
    exact ⟨rfl, rfl⟩
  · cases h2 : (FloatKind.f64.format.order x (floatOfInt .f64 ((n : Int) - 1)) == some .lt || FloatKind.f64.format.order x (floatOfInt .f64 ((n : Int) - 1)) == some .eq)
    all_goals
      unfold isP geO64 leO64
      rw [h1, h2, Bool.true_and]
      clear HB
      go_enter Try.func79, Try.ntmps79
      go_wp2
      go_ret
      exact ⟨rfl, rfl⟩
set_option maxHeartbeats 8000000 in
set_option maxRecDepth 100000 in
theorem at_any (kind x n i d c : Nat) (A : Option Addr) (xs : List Nat) (w : World) (hA : Fs w w.heap.size A n xs) (hn1 : 1 ≤ n) (hn2 : n ≤ 256) (P : Place x n i d) (hx64 : x < 2 ^ 64) (hk : kind ≤ 2) :
    Calls Try.prog 80 #[.func (.func (rdFn kind)) #[] #[], .float .f64 x, .slice A n c] w (PFl (rdX kind n xs i d) w) := by
  have HA := Lib.hid hA
  have hcv := fun (W : World) => run_convert_float_int (P := Try.prog) (w := W) 50 3 .f64 .i64 x i (by kernel_rfl) Try.underlying3 P.int
  have hxf : Hid (Fv .f64 x (some x)) := Lib.hid ⟨hx64, P.num⟩
  have hif := Lib.hid (show Fv .f64 (floatOfInt .f64 (i : Int)) (some (fd (i : Int))) from ⟨(fd_fits _).2, (fd_fits _).1⟩)
  have hil : i ≤ 255 := by have := P.le; omega
  have hsub : Hid (opO .sub .f64 (some x) (some (fd (i : Int))) = some d) := Lib.hid P.sub
  have HNF := Lib.hid (fun (W : World) => narrow_fit d W P.lt P.fit P.cv)
  have HFR := Lib.hid (fun (W : World) (s : w.Since w.heap.size W) => frameAt_any i n c A xs W (HA.out.now s) hn1 hn2 hil)
  have hB : ∀ j, Hid (Fv .f32 (wd xs j) (ab .f32 (wd xs j))) := fun j => Lib.hid ⟨HA.out.2.1.at_ j, rfl⟩
  have HN := Lib.hid (fun z a b c u (o : O) W => near_any z a b c u o W)
  have HL := Lib.hid (fun z a b c u W => line_any z a b c u W)
  have HC := Lib.hid (fun z a b c u W => curve_any z a b c u W)
  have g0 := hB (smI n ((i : Int) - 1)); have g1 := hB (smI n (i : Int)); have g2 := hB (smI n ((i : Int) + 1)); have g3 := hB (smI n ((i : Int) + 2))
  have eX : Hid (rdX kind n xs i d = rdO kind (ab .f32 (wd xs (smI n ((i : Int) - 1)))) (ab .f32 (wd xs (smI n (i : Int)))) (ab .f32 (wd xs (smI n ((i : Int) + 1)))) (ab .f32 (wd xs (smI n ((i : Int) + 2)))) (shw d)) := Lib.hid rfl
  unfold frV at HN HL HC
  generalize wd xs (smI n ((i : Int) - 1)) = y0 at *
  generalize wd xs (smI n (i : Int)) = y1 at *
  generalize wd xs (smI n ((i : Int) + 1)) = y2 at *
  generalize wd xs (smI n ((i : Int) + 2)) = y3 at *
  rw [eX.out]
  clear hA P hB eX
  obtain rfl | rfl | rfl : kind = 0 ∨ kind = 1 ∨ kind = 2 := by omega
  all_goals
    simp only [rdFn, if_true, if_false, show ¬ (1 : Nat) = 0 by decide, show ¬ (2 : Nat) = 0 by decide, show ¬ (2 : Nat) = 1 by decide]
    go_enter Try.func80, Try.ntmps80
    go_wp2_with (first
      | (go_at_call 93; refine (HFR.out _ (by (repeat (first | (with_reducible refine Fl.sinDrew ?_) | (with_reducible refine World.Since.drew ?_) | (with_reducible refine Fl.sinSet ?_ ?_; rotate_left) | (with_reducible refine Fl.sinAlloc ?_ ?_; rotate_left) | with_reducible exact World.Since.refl _ _ | with_reducible assumption | (with_reducible refine Fl.sinStep (by with_reducible assumption) ?_))); all_goals (first | omega | (simp; done) | (simp; omega) | (simp [go_sem]; done) | (simp [go_sem]; omega)))).mono ?_; rintro e w1 ⟨rfl, hs1⟩; have HS1 := Lib.hid hs1; clear hs1)
      | ((with_reducible_and_instances refine Lo.wpList_fo _ rfl _ _ _ _ _ rfl _ _ _ _ _ rfl rfl rfl (by assumption) (by assumption) ?_; intro rr nn hrr); rw [hsub.out] at hrr; have er := fv_word hrr; subst er; clear hrr)
      | (go_at_call 94; refine (HNF.out _).mono ?_; rintro e w2 ⟨rfl, gu, m2, rfl⟩)
      | (go_at_call 90; refine (HN.out y0 y1 y2 y3 _ _ _ g2 g1 (Lib.hid rfl)).mono ?_; rintro e w3 ⟨r3, rfl, hr3, hs3⟩)
      | (go_at_call 91; refine (HL.out y0 y1 y2 y3 _ _ g2 g1 gu).mono ?_; rintro e w3 ⟨r3, rfl, hr3, hs3⟩)
      | (go_at_call 92; refine (HC.out y0 y1 y2 y3 _ _ g0 g2 g1 g3 gu).mono ?_; rintro e w3 ⟨r3, rfl, hr3, hs3⟩)
      | fail)
    go_ret
    exact ⟨r3, rfl, hr3, since_step (by (repeat (first | (with_reducible refine Fl.sinDrew ?_) | (with_reducible refine World.Since.drew ?_) | (with_reducible refine Fl.sinSet ?_ ?_; rotate_left) | (with_reducible refine Fl.sinAlloc ?_ ?_; rotate_left) | with_reducible exact World.Since.refl _ _ | with_reducible assumption | (with_reducible refine Fl.sinStep (by with_reducible assumption) ?_))); all_goals (first | omega | (simp; done) | (simp; omega) | (simp [go_sem]; done) | (simp [go_sem]; omega))) hs3⟩
theorem num_of_order {x : Nat} {o : Ordering} (h : FloatKind.f64.format.order x 0 = some o) : ab .f64 x = some x := by
  rw [order_ab] at h
  cases e : ab .f64 x with
  | none => rw [e] at h; cases h
  | some y => rw [ab_some e]
theorem isP_place {x n : Nat} (h : isP x n = true) (hn2 : n ≤ 256) : 1 ≤ n ∧ ∃ i d, Place x n i d := by
  unfold isP geO64 leO64 at h
  simp only [Bool.and_eq_true, Bool.or_eq_true, beq_iff_eq] at h
  obtain ⟨h1, h2⟩ := h
  have hx : ab .f64 x = some x := by rcases h1 with h1 | h1 <;> exact num_of_order h1
  have hn : 1 ≤ n := by
    rcases Nat.eq_zero_or_pos n with h0 | h0
    · subst h0
      have a0 : ab .f64 0 = some 0 := by decide
      have k0 : key .f64 0 = 0 := by decide
      have a1 : ab .f64 (floatOfInt .f64 (((0 : Nat) : Int) - 1)) = some (floatOfInt .f64 (((0 : Nat) : Int) - 1)) := by decide
      have k1 : key .f64 (floatOfInt .f64 (((0 : Nat) : Int) - 1)) < 0 := by decide
      exfalso
      have p1 : 0 ≤ key .f64 x := by
        rcases ord_of hx a0 with ⟨q, e⟩ | ⟨q, e⟩ | ⟨q, e⟩
        · rw [e] at h1; rcases h1 with h | h <;> cases h
        · omega
        · omega
      rcases ord_of hx a1 with ⟨q, e⟩ | ⟨q, e⟩ | ⟨q, e⟩
      · omega
      · omega
      · rw [e] at h2; rcases h2 with h | h <;> cases h
    · exact h0
  exact ⟨hn, place_of hx hn hn2 h1 h2⟩
def PVB (F : O) (b : Bool) (w : World) (e : Ending) (w' : World) : Prop := ∃ r, e = .returned (.tuple #[.float .f32 r, .bool b]) ∧ Hid (Fv .f32 r F) ∧ w.Since w.heap.size w'
theorem PVB.none_ {w w' : World} (s : w.Since w.heap.size w') : PVB (some 0) false w (.returned (.tuple #[.float .f32 0, .bool false])) w' := ⟨0, rfl, fv0, s⟩
theorem specKind_b (k : Int) (b : Bool) (w : World) (h : inB k 0 2 = b) : Calls Try.prog 76 #[.int .i64 k] w fun e w' => e = .returned (.bool b) ∧ w = w' := by
  go_enter Try.func76, Try.ntmps76
  go_wp2_with (go_at_call 53; refine (specIn_b _ _ _ b _ h).mono ?_; rintro e w' ⟨rfl, rfl⟩)
  go_ret
  exact ⟨rfl, rfl⟩
/-- a place that is none -/
theorem specRead_no (kind : Int) (x n c : Nat) (A : Option Addr) (w : World) (hn : n ≤ 1048576) (h : isP x n = false) :
    Calls Try.prog 77 #[.int .i64 kind, .slice A n c, .float .f64 x] w fun e w' => e = .returned (.tuple #[.float .f32 0, .bool false]) ∧ w = w' := by
  unfold isP geO64 leO64 at h
  cases h1 : (FloatKind.f64.format.order x 0 == some .gt || FloatKind.f64.format.order x 0 == some .eq)
  · go_enter Try.func77, Try.ntmps77
    go_wp2
    go_ret2
    exact ⟨rfl, rfl⟩
  · rw [h1, Bool.true_and] at h
    go_enter Try.func77, Try.ntmps77
    go_wp2
    go_ret2
    exact ⟨rfl, rfl⟩
def okRead (k : Int) (n x : Nat) : Bool := inB k 0 2 && decide ((n : Int) ≤ 256) && isP x n
set_option maxHeartbeats 4000000 in
theorem specReadAt_ok (kind x n i d c : Nat) (A : Option Addr) (xs : List Nat) (w : World) (hA : Fs w w.heap.size A n xs) (hn1 : 1 ≤ n) (hn2 : n ≤ 256) (P : Place x n i d) (hp : isP x n = true) (hx64 : x < 2 ^ 64) (hk : kind ≤ 2) :
    Calls Try.prog 40 #[.int .i64 kind, .slice A n c, .float .f64 x] w (PVB (rdX kind n xs i d) true w) := by
  have hkb : inB (kind : Int) 0 2 = true := by simp [inB]; omega
  have hfew : decide ((n : Int) ≤ 256) = true := decide_eq_true (by omega)
  have hn0 : ((n : Int) == 0) = false := beq_eq_false_iff_ne.2 (by omega)
  unfold isP at hp
  rw [Bool.and_eq_true] at hp
  have HR := Lib.hid (specRead_ok kind x n i d c A xs w hA hn1 hn2 P hx64 hp.1 hp.2 hk)
  clear hp P hA
  go_enter Try.func40, Try.ntmps40
  go_wp2_with (first | (go_at_call 76; refine (specKind_b _ _ _ hkb).mono ?_; rintro e w' ⟨rfl, rfl⟩) | (go_at_call 49; refine (specFew_any _ _ _ _ _ hfew).mono ?_; rintro e w' ⟨rfl, rfl⟩) | (go_at_call 77; refine HR.out.mono ?_; rintro e w' ⟨r, m, rfl, hr, rfl⟩))
  go_ret2
  exact ⟨r, rfl, hr, by (repeat (first | (with_reducible refine Fl.sinDrew ?_) | (with_reducible refine World.Since.drew ?_) | (with_reducible refine Fl.sinSet ?_ ?_; rotate_left) | (with_reducible refine Fl.sinAlloc ?_ ?_; rotate_left) | with_reducible exact World.Since.refl _ _ | with_reducible assumption | (with_reducible refine Fl.sinStep (by with_reducible assumption) ?_))); all_goals (first | omega | (simp; done) | (simp; omega) | (simp [go_sem]; done) | (simp [go_sem]; omega))⟩
set_option maxHeartbeats 4000000 in
theorem specReadAt_no (kind : Int) (x n c : Nat) (A : Option Addr) (w : World) (hn : n ≤ 1048576) (h : okRead kind n x = false) :
    Calls Try.prog 40 #[.int .i64 kind, .slice A n c, .float .f64 x] w (PVB (some 0) false w) := by
  unfold okRead at h
  cases h1 : inB kind 0 2
  · go_enter Try.func40, Try.ntmps40
    go_wp2_with (go_at_call 76; refine (specKind_b _ _ _ h1).mono ?_; rintro e w' ⟨rfl, rfl⟩)
    go_ret2
    exact PVB.none_ (by (repeat (first | (with_reducible refine Fl.sinDrew ?_) | (with_reducible refine World.Since.drew ?_) | (with_reducible refine Fl.sinSet ?_ ?_; rotate_left) | (with_reducible refine Fl.sinAlloc ?_ ?_; rotate_left) | with_reducible exact World.Since.refl _ _ | with_reducible assumption | (with_reducible refine Fl.sinStep (by with_reducible assumption) ?_))); all_goals (first | omega | (simp; done) | (simp; omega) | (simp [go_sem]; done) | (simp [go_sem]; omega)))
  · cases h2 : decide ((n : Int) ≤ 256)
    · go_enter Try.func40, Try.ntmps40
      go_wp2_with (first | (go_at_call 76; refine (specKind_b _ _ _ h1).mono ?_; rintro e w' ⟨rfl, rfl⟩) | (go_at_call 49; refine (specFew_any _ _ _ _ _ h2).mono ?_; rintro e w' ⟨rfl, rfl⟩))
      go_ret2
      exact PVB.none_ (by (repeat (first | (with_reducible refine Fl.sinDrew ?_) | (with_reducible refine World.Since.drew ?_) | (with_reducible refine Fl.sinSet ?_ ?_; rotate_left) | (with_reducible refine Fl.sinAlloc ?_ ?_; rotate_left) | with_reducible exact World.Since.refl _ _ | with_reducible assumption | (with_reducible refine Fl.sinStep (by with_reducible assumption) ?_))); all_goals (first | omega | (simp; done) | (simp; omega) | (simp [go_sem]; done) | (simp [go_sem]; omega)))
    · have hp : isP x n = false := by rw [h1, h2] at h; simpa using h
      cases h3 : ((n : Int) == 0)
      all_goals
        go_enter Try.func40, Try.ntmps40
        go_wp2_with (first | (go_at_call 76; refine (specKind_b _ _ _ h1).mono ?_; rintro e w' ⟨rfl, rfl⟩) | (go_at_call 49; refine (specFew_any _ _ _ _ _ h2).mono ?_; rintro e w' ⟨rfl, rfl⟩) | (go_at_call 77; refine (specRead_no _ _ _ _ _ _ hn hp).mono ?_; rintro e w' ⟨rfl, rfl⟩))
        go_ret2
        exact PVB.none_ (by (repeat (first | (with_reducible refine Fl.sinDrew ?_) | (with_reducible refine World.Since.drew ?_) | (with_reducible refine Fl.sinSet ?_ ?_; rotate_left) | (with_reducible refine Fl.sinAlloc ?_ ?_; rotate_left) | with_reducible exact World.Since.refl _ _ | with_reducible assumption | (with_reducible refine Fl.sinStep (by with_reducible assumption) ?_))); all_goals (first | omega | (simp; done) | (simp; omega) | (simp [go_sem]; done) | (simp [go_sem]; omega)))
set_option maxHeartbeats 4000000 in
theorem implReadAt_ok (kind x n i d c : Nat) (A : Option Addr) (xs : List Nat) (w : World) (hA : Fs w w.heap.size A n xs) (hn1 : 1 ≤ n) (hn2 : n ≤ 256) (P : Place x n i d) (hp : isP x n = true) (hx64 : x < 2 ^ 64) (hk : kind ≤ 2) :
    Calls Try.prog 41 #[.int .i64 kind, .slice A n c, .float .f64 x] w (PVB (rdX kind n xs i d) true w) := by
  have hfew : decide ((n : Int) ≤ 256) = true := decide_eq_true (by omega)
  have HR := Lib.hid (at_any kind x n i d c A xs w hA hn1 hn2 P hx64 hk)
  have HK := Lib.hid (readerOf_ok kind hk)
  have eF : (if kind = 0 then 90 else if kind = 1 then 91 else 92) = rdFn kind := rfl
  rw [eF] at HK
  generalize rdFn kind = F at *
  have hn3 : n ≤ 1048576 := by omega
  clear P hA eF
  go_enter Try.func41, Try.ntmps41
  go_wp2_with (first | (go_at_call 78; refine (HK.out _).mono ?_; rintro e w' ⟨rfl, rfl⟩) | (go_at_call 56; refine (implSamples_b _ _ _ _ _ hfew).mono ?_; rintro e w' ⟨rfl, rfl⟩) | (go_at_call 79; refine (isPlace_any _ _ _ _ _ _ hn3 hp).mono ?_; rintro e w' ⟨rfl, rfl⟩) | (go_at_call 80; refine HR.out.mono ?_; rintro e w' ⟨r, rfl, hr, hs⟩; have HS := Lib.hid hs; clear hs))
  go_ret2
  exact ⟨r, rfl, hr, HS.out⟩
set_option maxHeartbeats 4000000 in
theorem implReadAt_no (kind : Int) (x n c : Nat) (A : Option Addr) (w : World) (hn : n ≤ 1048576) (h : okRead kind n x = false) :
    Calls Try.prog 41 #[.int .i64 kind, .slice A n c, .float .f64 x] w (PVB (some 0) false w) := by
  unfold okRead at h
  cases h1 : inB kind 0 2
  · have HK := Lib.hid (readerOf_no kind h1)
    go_enter Try.func41, Try.ntmps41
    go_wp2_with (go_at_call 78; refine (HK.out _).mono ?_; rintro e w' ⟨v, rfl, rfl⟩)
    go_ret2
    exact PVB.none_ (by (repeat (first | (with_reducible refine Fl.sinDrew ?_) | (with_reducible refine World.Since.drew ?_) | (with_reducible refine Fl.sinSet ?_ ?_; rotate_left) | (with_reducible refine Fl.sinAlloc ?_ ?_; rotate_left) | with_reducible exact World.Since.refl _ _ | with_reducible assumption | (with_reducible refine Fl.sinStep (by with_reducible assumption) ?_))); all_goals (first | omega | (simp; done) | (simp; omega) | (simp [go_sem]; done) | (simp [go_sem]; omega)))
  · have hk := h1
    simp only [inB, Bool.and_eq_true, decide_eq_true_eq] at hk
    obtain ⟨k', rfl⟩ : ∃ k' : Nat, kind = k' := ⟨kind.toNat, by omega⟩
    have HK := Lib.hid (readerOf_ok k' (by omega))
    generalize (if k' = 0 then 90 else if k' = 1 then 91 else 92) = F at *
    cases h2 : decide ((n : Int) ≤ 256)
    · go_enter Try.func41, Try.ntmps41
      go_wp2_with (first | (go_at_call 78; refine (HK.out _).mono ?_; rintro e w' ⟨rfl, rfl⟩) | (go_at_call 56; refine (implSamples_b _ _ _ _ _ h2).mono ?_; rintro e w' ⟨rfl, rfl⟩))
      go_ret2
      exact PVB.none_ (by (repeat (first | (with_reducible refine Fl.sinDrew ?_) | (with_reducible refine World.Since.drew ?_) | (with_reducible refine Fl.sinSet ?_ ?_; rotate_left) | (with_reducible refine Fl.sinAlloc ?_ ?_; rotate_left) | with_reducible exact World.Since.refl _ _ | with_reducible assumption | (with_reducible refine Fl.sinStep (by with_reducible assumption) ?_))); all_goals (first | omega | (simp; done) | (simp; omega) | (simp [go_sem]; done) | (simp [go_sem]; omega)))
    · have hp : isP x n = false := by rw [h1, h2] at h; simpa using h
      go_enter Try.func41, Try.ntmps41
      go_wp2_with (first | (go_at_call 78; refine (HK.out _).mono ?_; rintro e w' ⟨rfl, rfl⟩) | (go_at_call 56; refine (implSamples_b _ _ _ _ _ h2).mono ?_; rintro e w' ⟨rfl, rfl⟩) | (go_at_call 79; refine (isPlace_any _ _ _ _ _ _ hn hp).mono ?_; rintro e w' ⟨rfl, rfl⟩))
      go_ret2
      exact PVB.none_ (by (repeat (first | (with_reducible refine Fl.sinDrew ?_) | (with_reducible refine World.Since.drew ?_) | (with_reducible refine Fl.sinSet ?_ ?_; rotate_left) | (with_reducible refine Fl.sinAlloc ?_ ?_; rotate_left) | with_reducible exact World.Since.refl _ _ | with_reducible assumption | (with_reducible refine Fl.sinStep (by with_reducible assumption) ?_))); all_goals (first | omega | (simp; done) | (simp; omega) | (simp [go_sem]; done) | (simp [go_sem]; omega)))
end Go.Proofs.Ytdibobheggffnaa

/- Walks of laws whose results are lists. -/
set_option linter.unusedVariables false
set_option linter.unusedSimpArgs false
namespace Go.Proofs.Ytdibobheggffnaa
open Fl Go.RowKit
set_option maxHeartbeats 16000000 in
set_option maxRecDepth 100000 in
theorem lawReadAt_gen (a0 : Int) (A1 : Option Addr) (n1 c1 : Nat) (x1 : List Nat) (a2 : Nat) (ro0 : O) (rb1 : Bool) (w : World)
    (h1 : Fs w w.heap.size A1 n1 x1) (hn1 : n1 ≤ 1048576) 
    (hsp : ∀ (v : World) (b1 : Nat), Fs v v.heap.size (some ⟨b1, 0, none⟩) n1 x1 → Calls Try.prog 40 #[.int .i64 a0, .slice (some ⟨b1, 0, none⟩) n1 n1, .float .f64 a2] v (PVB ro0 rb1 v))
    (him : ∀ (v : World) (b1 : Nat), Fs v v.heap.size (some ⟨b1, 0, none⟩) n1 x1 → Calls Try.prog 41 #[.int .i64 a0, .slice (some ⟨b1, 0, none⟩) n1 n1, .float .f64 a2] v (PVB ro0 rb1 v)) :
    Calls Try.prog 11 #[.int .i64 a0, .slice A1 n1 c1, .float .f64 a2] w fun e w' => e = .returned (.bool true) ∧ w.Since w.heap.size w' := by
  have S0 : Hid (w.Since w.heap.size w) := Lib.hid (World.Since.refl _ _)
  have F1 : Hid (Fs w w.heap.size A1 n1 x1) := Lib.hid (h1.now S0.out); clear h1
  have hd1 : decide ((1048576 : Int) < n1) = false := decide_eq_false (by omega)
  have HSP := Lib.hid hsp; have HIM := Lib.hid him; clear hsp him
  go_enter Try.func11, Try.ntmps11
  go_wp2_with fail
  have S : Hid (w.Since w.heap.size w) := Lib.hid (World.Since.refl _ _)
  have LV : Hid (He w.heap.size w []) := Lib.hid trivial
  go_at_call 16
  refine (toFE_any A1 n1 c1 x1 w _ F1.out S.out hn1).mono ?_
  rintro e v1 ⟨rfl, hg, hs⟩
  have LV' := Lib.hid (LV.out.new hs hg S.out.size); clear LV; have LV := LV'; clear LV'
  have S' := Lib.hid (since_step S.out hs); clear S; have S := S'; clear S'
  clear hs hg
  go_wp2_with fail
  go_at_call 40
  refine (HSP.out _ _ ((LV.out.1.1).readF)).mono ?_
  rintro e v2 ⟨w0, rfl, how0, hs⟩
  have LV' := Lib.hid ((LV.out.2).since hs); clear LV; have LV := LV'; clear LV'
  have S' := Lib.hid (since_step S.out hs); clear S; have S := S'; clear S'
  clear hs
  have Vw0 := Lib.hid how0; have Lw0 := Lib.hid how0.out.1; clear how0
  go_wp2_with fail
  go_at_call 16
  refine (toFE_any A1 n1 c1 x1 w _ F1.out S.out hn1).mono ?_
  rintro e v3 ⟨rfl, hg, hs⟩
  have LV' := Lib.hid (LV.out.new hs hg S.out.size); clear LV; have LV := LV'; clear LV'
  have S' := Lib.hid (since_step S.out hs); clear S; have S := S'; clear S'
  clear hs hg
  go_wp2_with fail
  go_at_call 41
  refine (HIM.out _ _ ((LV.out.1.1).readF)).mono ?_
  rintro e v4 ⟨g0, rfl, hog0, hs⟩
  have LV' := Lib.hid ((LV.out).since hs); clear LV; have LV := LV'; clear LV'
  have S' := Lib.hid (since_step S.out hs); clear S; have S := S'; clear S'
  clear hs
  have Vg0 := Lib.hid hog0; have Lg0 := Lib.hid hog0.out.1; clear hog0
  have L1 := Lg0.out; have L2 := Lw0.out
  go_wp2_with (first | (with_reducible_and_instances refine wpList_wide _ rfl _ _ _ rfl _ rfl (by kernel_rfl) (by kernel_rfl) L1 ?_; intro r3 m3 hr; have X1 := Lib.hid hr; clear hr) | (with_reducible_and_instances refine wpList_wide _ rfl _ _ _ rfl _ rfl (by kernel_rfl) (by kernel_rfl) L2 ?_; intro r4 m4 hr; have X2 := Lib.hid hr; clear hr))
  clear L1 L2
  go_at_call 39
  refine (sameFloat_any _ _ _ _ X1.out (by have := X2.out; rw [Vw0.out.out.2, ← Vg0.out.out.2] at this; exact this)).mono ?_
  rintro e w' ⟨rfl, m5, rfl⟩
  clear X1 X2
  have hs : World.Since v4.heap.size v4 (v4.drewN (m3 + m4 + m5)) := since_drewN (World.Since.refl _ _) _
  simp only [World.drewN_drewN]
  generalize hV : World.drewN v4 (m3 + m4 + m5) = v5 at hs ⊢
  clear hV
  have S' := Lib.hid (since_step S.out hs); clear S; have S := S'; clear S'
  have LV' := Lib.hid (LV.out.since hs); clear LV; have LV := LV'; clear LV'
  clear hs
  go_wp2_with fail
  go_at_call 16
  refine (toFE_any A1 n1 c1 x1 w _ F1.out S.out hn1).mono ?_
  rintro e v6 ⟨rfl, hg, hs⟩
  have LV' := Lib.hid (LV.out.new hs hg S.out.size); clear LV; have LV := LV'; clear LV'
  have S' := Lib.hid (since_step S.out hs); clear S; have S := S'; clear S'
  clear hs hg
  go_wp2_with fail
  go_at_call 18
  refine (eqL_any ⟨some ⟨v2.heap.size, 0, none⟩, n1, x1⟩ ⟨some ⟨v5.heap.size, 0, none⟩, n1, x1⟩ _ _ _ _ (LV.out.2.1.1).readF (LV.out.1.1).readF (by omega) rfl (fun _ _ => rfl) (fun _ _ => rfl)).mono ?_
  rintro e v7 ⟨rfl, hs⟩
  have S' := Lib.hid (since_step S.out hs); clear S; have S := S'; clear S'
  have LV' := Lib.hid (LV.out.since hs); clear LV; have LV := LV'; clear LV'
  clear hs
  have LV' := Lib.hid LV.out.2; clear LV; have LV := LV'; clear LV'
  go_wp2_with fail
  go_ret
  exact ⟨rfl, S.out⟩
set_option maxHeartbeats 2000000 in
set_option maxRecDepth 100000 in
theorem lawReadAt_big (a0 : Int) (A1 : Option Addr) (n1 c1 : Nat) (a2 : Nat) (w : World) (h : 1048576 < n1) :
    Calls Try.prog 11 #[.int .i64 a0, .slice A1 n1 c1, .float .f64 a2] w fun e w' => e = .returned (.bool true) ∧ w.Since w.heap.size w' := by
  by_cases b1 : 1048576 < n1
  · have hd1 : decide ((1048576 : Int) < n1) = true := decide_eq_true (by omega)
    go_enter Try.func11, Try.ntmps11
    go_wp2
    go_ret
    exact ⟨rfl, by (repeat (first | (with_reducible refine Fl.sinDrew ?_) | (with_reducible refine World.Since.drew ?_) | (with_reducible refine Fl.sinSet ?_ ?_; rotate_left) | (with_reducible refine Fl.sinAlloc ?_ ?_; rotate_left) | with_reducible exact World.Since.refl _ _ | with_reducible assumption | (with_reducible refine Fl.sinStep (by with_reducible assumption) ?_))); all_goals (first | omega | (simp; done) | (simp; omega) | (simp [go_sem]; done) | (simp [go_sem]; omega))⟩
  · have hd1 : decide ((1048576 : Int) < n1) = false := decide_eq_false (by omega)
    omega
theorem lawReadAt_any (k : Int) (A : Option Addr) (n c : Nat) (xs : List Nat) (x : Nat) (w : World) (w1 : (Lit.int .i64 k).wf = true) (h0 : Fs w w.heap.size A n xs) (m0 : n ≤ 9223372036854775807) (hx : x < 18446744073709551616) :
    Calls Try.prog 11 #[.int .i64 k, .slice A n c, .float .f64 x] w fun e w' => e = .returned (.bool true) ∧ w.Since w.heap.size w' := by
  by_cases b1 : 1048576 < n
  · exact lawReadAt_big k A n c x w b1
  cases hok : okRead k n x
  · exact lawReadAt_gen k A n c xs x (some 0) false w h0 (by omega) (fun v g hg => specReadAt_no k x n _ _ v (by omega) hok) (fun v g hg => implReadAt_no k x n _ _ v (by omega) hok)
  · unfold okRead at hok
    simp only [inB, Bool.and_eq_true, decide_eq_true_eq] at hok
    obtain ⟨⟨k1, k2⟩, k3⟩ := hok
    obtain ⟨k', rfl⟩ : ∃ k' : Nat, k = k' := ⟨k.toNat, by omega⟩
    obtain ⟨hn1, i, d, P⟩ := isP_place k3 (by omega)
    exact lawReadAt_gen k' A n c xs x _ true w h0 (by omega) (fun v g hg => specReadAt_ok k' x n i d _ _ xs v hg hn1 (by omega) P k3 hx (by omega)) (fun v g hg => implReadAt_ok k' x n i d _ _ xs v hg hn1 (by omega) P k3 hx (by omega))
end Go.Proofs.Ytdibobheggffnaa

