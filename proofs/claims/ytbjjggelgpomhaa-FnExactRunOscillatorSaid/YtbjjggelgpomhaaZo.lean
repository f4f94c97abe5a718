/- Joined: Wd We Fs Fp Wf Wg Wm Wn Wo Wp Ha Hb Wq Vf Wr -/
import Derived.Test.YtbjjggelgpomhaaZp
import Derived.Test.YtbjjggelgpomhaaFd
/- Sines of phases: the model's; both sides narrowed. -/
set_option linter.unusedVariables false
set_option linter.unusedSimpArgs false
namespace Go.Proofs.Ytbjjggelgpomhaa
open Fl Go.RowKit Ieee
theorem sub_self64 {y : Nat} (h : rung .f64 y < rung .f64 c52) : opO .sub .f64 (some y) (some y) = some 0 := by
  have h1 := sub_self_any .f64 y
  rw [abx h] at h1
  rw [h1, if_pos (Nat.lt_trans h (by decide))]
theorem ord00 : ordO .f64 (some 0) (some 0) = some .eq := by decide +kernel
set_option maxHeartbeats 8000000 in
set_option maxRecDepth 100000 in
theorem specSine_000 (y : Nat) (w : World) (hy : y < 18446744073709551616) (h : rung .f64 y < rung .f64 c52) (b1 b2 : Bool) (el : lt64 (sinF0 y) (some 0) = false) (h1 : gt64 (sinF0 y) (some cHalf) = b1) (h2 : eq64 (sinF0 y) (some cHalf) = b2) (hb : (b1 || b2) = false) (e3 : gt64 (sinF0 y) (some cQuar) = false) :
    Calls Try.prog 29 #[.float .f64 y] w (RetF .f64 (ser (opO .mul .f64 (sinF0 y) (some c2pi))) w) := by
  have hcv := conv0 h
  have hy2 := fv64c hy (abx h)
  have e00 := sub_self64 h
  have ho1 := ord_lt (c := 4841369599423283200) (abx h) (by rw [ab64]; rfl) h (by decide) (by decide)
  have ho2 := ord_gt (c := 14064741636278059008) (abx h) (by rw [ab64]; rfl) h (by decide) (by decide)
  have h0 := fqi (wpI y)
  have k1 := fqh; have k2 := fqp; have k3 := fq1
  clear h
  have E00 := Lib.hid e00; clear e00
  cases b1 <;> cases b2 <;> simp only [Bool.or_self, Bool.or_true, Bool.true_or, Bool.false_eq_true, Bool.true_eq_false] at hb
  all_goals
    go_enter Try.func29, Try.ntmps29
    go_wp2_with (first | (with_reducible_and_instances refine Lo.wpList_fo _ rfl .sub _ _ _ _ rfl _ _ _ _ _ rfl rfl rfl hy2 hy2 ?_; intro r0 n0 hr0; rw [E00.out] at hr0; have g0 := ord_fv hr0 fqz; rw [ord00] at g0) | (with_reducible_and_instances refine Lo.wpList_fo _ rfl .sub _ _ _ _ rfl _ _ _ _ _ rfl rfl rfl hy2 h0 ?_; intro r1 n1 hr1; have gl := lt64_fv hr1 fqz; rw [show opO .sub .f64 (some y) (some (floatOfInt .f64 (wpI y))) = sinF0 y from rfl] at hr1 gl; rw [el] at gl; have g1 := gt64_fv hr1 fqh; have g2 := eq64_fv hr1 fqh; rw [h1] at g1; rw [h2] at g2; have g3 := gt64_fv hr1 fqq; rw [e3] at g3) | (with_reducible_and_instances refine Lo.wpList_fo _ rfl .mul _ _ _ _ rfl _ _ _ _ _ rfl rfl rfl hr1 k2 ?_; intro rz nz hz) | (with_reducible_and_instances refine Lo.wpList_fo _ rfl .mul _ _ _ _ rfl _ _ _ _ _ rfl rfl rfl hz hz ?_; intro ru nu hu))
    generalize hZ : opO .mul .f64 (sinF0 y) (some c2pi) = Z at *
    clear hZ
    go_loopw [7, 8] (fun p kk wr => ∃ (k m r : Nat), k ≤ 8 ∧ kk = .int .i64 k ∧ p = .float .f64 r ∧ Hid (Fv .f64 r (sinP (opO .mul .f64 Z Z) (8 - k))) ∧ wr = w.drewN m) (fun _ kk _ => (intOf kk).toNat)
    case atStart => exact ⟨8, _, _, Nat.le_refl _, rfl, rfl, fq1, rfl⟩
    case round =>
      obtain ⟨k, m, r, hk, rfl, rfl, hr, rfl⟩ := hrel
      by_cases hlt : 1 ≤ k
      · obtain ⟨M, hM⟩ : ∃ M, 2 * k * (2 * k + 1) = M := ⟨_, rfl⟩
        have hM2 : 2 * (k : Int) * (2 * (k : Int) + 1) = (M : Int) := by rw [← hM]; push_cast; rfl
        have hMb : M ≤ 272 := by rw [← hM]; exact Nat.mul_le_mul (show 2 * k ≤ 16 by omega) (show 2 * k + 1 ≤ 17 by omega)
        have hi := fqi (M : Int)
        have eK : Hid (sinP (opO .mul .f64 Z Z) (8 - (k - 1)) = opO .sub .f64 (some cOne) (opO .quo .f64 (opO .mul .f64 (opO .mul .f64 Z Z) (sinP (opO .mul .f64 Z Z) (8 - k))) (some (floatOfInt .f64 (M : Int))))) := Lib.hid (by
          rw [show 8 - (k - 1) = (8 - k) + 1 by omega, ← hM, ← sinK_of (by omega)]; rfl)
        clear hM
        go_wp2_with (with_reducible_and_instances refine Lo.wpList_fo _ rfl _ _ _ _ _ rfl _ _ _ _ _ rfl rfl rfl (by assumption) (by assumption) ?_; intro rr nn hrr)
        rw [← eK.out] at hrr
        go_roundw
        case rel => exact ⟨k - 1, _, _, by omega, by go_num, rfl, hrr, rfl⟩
        case measure => simp [intOf]; omega
      · obtain rfl : k = 0 := by omega
        rw [show ((0 : Nat) : Int) = 0 from rfl]
        go_wp2_with (with_reducible_and_instances refine Lo.wpList_fo _ rfl _ _ _ _ _ rfl _ _ _ _ _ rfl rfl rfl (by assumption) (by assumption) ?_; intro rr nn hrr)
        go_ret
        exact ⟨_, _, rfl, hrr.out, rfl⟩
set_option maxHeartbeats 8000000 in
set_option maxRecDepth 100000 in
theorem specSine_001 (y : Nat) (w : World) (hy : y < 18446744073709551616) (h : rung .f64 y < rung .f64 c52) (b1 b2 : Bool) (el : lt64 (sinF0 y) (some 0) = false) (h1 : gt64 (sinF0 y) (some cHalf) = b1) (h2 : eq64 (sinF0 y) (some cHalf) = b2) (hb : (b1 || b2) = false) (e3 : gt64 (sinF0 y) (some cQuar) = true) :
    Calls Try.prog 29 #[.float .f64 y] w (RetF .f64 (ser (opO .mul .f64 (opO .sub .f64 (some cHalf) (sinF0 y)) (some c2pi))) w) := by
  have hcv := conv0 h
  have hy2 := fv64c hy (abx h)
  have e00 := sub_self64 h
  have ho1 := ord_lt (c := 4841369599423283200) (abx h) (by rw [ab64]; rfl) h (by decide) (by decide)
  have ho2 := ord_gt (c := 14064741636278059008) (abx h) (by rw [ab64]; rfl) h (by decide) (by decide)
  have h0 := fqi (wpI y)
  have k1 := fqh; have k2 := fqp; have k3 := fq1
  clear h
  have E00 := Lib.hid e00; clear e00
  cases b1 <;> cases b2 <;> simp only [Bool.or_self, Bool.or_true, Bool.true_or, Bool.false_eq_true, Bool.true_eq_false] at hb
  all_goals
    go_enter Try.func29, Try.ntmps29
    go_wp2_with (first | (with_reducible_and_instances refine Lo.wpList_fo _ rfl .sub _ _ _ _ rfl _ _ _ _ _ rfl rfl rfl hy2 hy2 ?_; intro r0 n0 hr0; rw [E00.out] at hr0; have g0 := ord_fv hr0 fqz; rw [ord00] at g0) | (with_reducible_and_instances refine Lo.wpList_fo _ rfl .sub _ _ _ _ rfl _ _ _ _ _ rfl rfl rfl hy2 h0 ?_; intro r1 n1 hr1; have gl := lt64_fv hr1 fqz; rw [show opO .sub .f64 (some y) (some (floatOfInt .f64 (wpI y))) = sinF0 y from rfl] at hr1 gl; rw [el] at gl; have g1 := gt64_fv hr1 fqh; have g2 := eq64_fv hr1 fqh; rw [h1] at g1; rw [h2] at g2; have g3 := gt64_fv hr1 fqq; rw [e3] at g3) | (with_reducible_and_instances refine Lo.wpList_fo _ rfl .sub _ _ _ _ rfl _ _ _ _ _ rfl rfl rfl k1 hr1 ?_; intro r4 n4 hr4) | (with_reducible_and_instances refine Lo.wpList_fo _ rfl .mul _ _ _ _ rfl _ _ _ _ _ rfl rfl rfl hr4 k2 ?_; intro rz nz hz) | (with_reducible_and_instances refine Lo.wpList_fo _ rfl .mul _ _ _ _ rfl _ _ _ _ _ rfl rfl rfl hz hz ?_; intro ru nu hu))
    generalize hZ : opO .mul .f64 (opO .sub .f64 (some cHalf) (sinF0 y)) (some c2pi) = Z at *
    clear hZ
    go_loopw [7, 8] (fun p kk wr => ∃ (k m r : Nat), k ≤ 8 ∧ kk = .int .i64 k ∧ p = .float .f64 r ∧ Hid (Fv .f64 r (sinP (opO .mul .f64 Z Z) (8 - k))) ∧ wr = w.drewN m) (fun _ kk _ => (intOf kk).toNat)
    case atStart => exact ⟨8, _, _, Nat.le_refl _, rfl, rfl, fq1, rfl⟩
    case round =>
      obtain ⟨k, m, r, hk, rfl, rfl, hr, rfl⟩ := hrel
      by_cases hlt : 1 ≤ k
      · obtain ⟨M, hM⟩ : ∃ M, 2 * k * (2 * k + 1) = M := ⟨_, rfl⟩
        have hM2 : 2 * (k : Int) * (2 * (k : Int) + 1) = (M : Int) := by rw [← hM]; push_cast; rfl
        have hMb : M ≤ 272 := by rw [← hM]; exact Nat.mul_le_mul (show 2 * k ≤ 16 by omega) (show 2 * k + 1 ≤ 17 by omega)
        have hi := fqi (M : Int)
        have eK : Hid (sinP (opO .mul .f64 Z Z) (8 - (k - 1)) = opO .sub .f64 (some cOne) (opO .quo .f64 (opO .mul .f64 (opO .mul .f64 Z Z) (sinP (opO .mul .f64 Z Z) (8 - k))) (some (floatOfInt .f64 (M : Int))))) := Lib.hid (by
          rw [show 8 - (k - 1) = (8 - k) + 1 by omega, ← hM, ← sinK_of (by omega)]; rfl)
        clear hM
        go_wp2_with (with_reducible_and_instances refine Lo.wpList_fo _ rfl _ _ _ _ _ rfl _ _ _ _ _ rfl rfl rfl (by assumption) (by assumption) ?_; intro rr nn hrr)
        rw [← eK.out] at hrr
        go_roundw
        case rel => exact ⟨k - 1, _, _, by omega, by go_num, rfl, hrr, rfl⟩
        case measure => simp [intOf]; omega
      · obtain rfl : k = 0 := by omega
        rw [show ((0 : Nat) : Int) = 0 from rfl]
        go_wp2_with (with_reducible_and_instances refine Lo.wpList_fo _ rfl _ _ _ _ _ rfl _ _ _ _ _ rfl rfl rfl (by assumption) (by assumption) ?_; intro rr nn hrr)
        go_ret
        exact ⟨_, _, rfl, hrr.out, rfl⟩
set_option maxHeartbeats 8000000 in
set_option maxRecDepth 100000 in
theorem specSine_010 (y : Nat) (w : World) (hy : y < 18446744073709551616) (h : rung .f64 y < rung .f64 c52) (b1 b2 : Bool) (el : lt64 (sinF0 y) (some 0) = false) (h1 : gt64 (sinF0 y) (some cHalf) = b1) (h2 : eq64 (sinF0 y) (some cHalf) = b2) (hb : (b1 || b2) = true) (e3 : gt64 (opO .sub .f64 (sinF0 y) (some cHalf)) (some cQuar) = false) :
    Calls Try.prog 29 #[.float .f64 y] w (RetF .f64 ((ser (opO .mul .f64 (opO .sub .f64 (sinF0 y) (some cHalf)) (some c2pi))).map (Op.negFloat .f64)) w) := by
  have hcv := conv0 h
  have hy2 := fv64c hy (abx h)
  have e00 := sub_self64 h
  have ho1 := ord_lt (c := 4841369599423283200) (abx h) (by rw [ab64]; rfl) h (by decide) (by decide)
  have ho2 := ord_gt (c := 14064741636278059008) (abx h) (by rw [ab64]; rfl) h (by decide) (by decide)
  have h0 := fqi (wpI y)
  have k1 := fqh; have k2 := fqp; have k3 := fq1
  clear h
  have E00 := Lib.hid e00; clear e00
  cases b1 <;> cases b2 <;> simp only [Bool.or_self, Bool.or_true, Bool.true_or, Bool.false_eq_true, Bool.true_eq_false] at hb
  all_goals
    go_enter Try.func29, Try.ntmps29
    go_wp2_with (first | (with_reducible_and_instances refine Lo.wpList_fo _ rfl .sub _ _ _ _ rfl _ _ _ _ _ rfl rfl rfl hy2 hy2 ?_; intro r0 n0 hr0; rw [E00.out] at hr0; have g0 := ord_fv hr0 fqz; rw [ord00] at g0) | (with_reducible_and_instances refine Lo.wpList_fo _ rfl .sub _ _ _ _ rfl _ _ _ _ _ rfl rfl rfl hy2 h0 ?_; intro r1 n1 hr1; have gl := lt64_fv hr1 fqz; rw [show opO .sub .f64 (some y) (some (floatOfInt .f64 (wpI y))) = sinF0 y from rfl] at hr1 gl; rw [el] at gl; have g1 := gt64_fv hr1 fqh; have g2 := eq64_fv hr1 fqh; rw [h1] at g1; rw [h2] at g2) | (with_reducible_and_instances refine Lo.wpList_fo _ rfl .sub _ _ _ _ rfl _ _ _ _ _ rfl rfl rfl hr1 k1 ?_; intro r3 n3 hr3; have g3 := gt64_fv hr3 fqq; rw [e3] at g3) | (with_reducible_and_instances refine Lo.wpList_fo _ rfl .mul _ _ _ _ rfl _ _ _ _ _ rfl rfl rfl hr3 k2 ?_; intro rz nz hz) | (with_reducible_and_instances refine Lo.wpList_fo _ rfl .mul _ _ _ _ rfl _ _ _ _ _ rfl rfl rfl hz hz ?_; intro ru nu hu))
    generalize hZ : opO .mul .f64 (opO .sub .f64 (sinF0 y) (some cHalf)) (some c2pi) = Z at *
    clear hZ
    go_loopw [7, 8] (fun p kk wr => ∃ (k m r : Nat), k ≤ 8 ∧ kk = .int .i64 k ∧ p = .float .f64 r ∧ Hid (Fv .f64 r (sinP (opO .mul .f64 Z Z) (8 - k))) ∧ wr = w.drewN m) (fun _ kk _ => (intOf kk).toNat)
    case atStart => exact ⟨8, _, _, Nat.le_refl _, rfl, rfl, fq1, rfl⟩
    case round =>
      obtain ⟨k, m, r, hk, rfl, rfl, hr, rfl⟩ := hrel
      by_cases hlt : 1 ≤ k
      · obtain ⟨M, hM⟩ : ∃ M, 2 * k * (2 * k + 1) = M := ⟨_, rfl⟩
        have hM2 : 2 * (k : Int) * (2 * (k : Int) + 1) = (M : Int) := by rw [← hM]; push_cast; rfl
        have hMb : M ≤ 272 := by rw [← hM]; exact Nat.mul_le_mul (show 2 * k ≤ 16 by omega) (show 2 * k + 1 ≤ 17 by omega)
        have hi := fqi (M : Int)
        have eK : Hid (sinP (opO .mul .f64 Z Z) (8 - (k - 1)) = opO .sub .f64 (some cOne) (opO .quo .f64 (opO .mul .f64 (opO .mul .f64 Z Z) (sinP (opO .mul .f64 Z Z) (8 - k))) (some (floatOfInt .f64 (M : Int))))) := Lib.hid (by
          rw [show 8 - (k - 1) = (8 - k) + 1 by omega, ← hM, ← sinK_of (by omega)]; rfl)
        clear hM
        go_wp2_with (with_reducible_and_instances refine Lo.wpList_fo _ rfl _ _ _ _ _ rfl _ _ _ _ _ rfl rfl rfl (by assumption) (by assumption) ?_; intro rr nn hrr)
        rw [← eK.out] at hrr
        go_roundw
        case rel => exact ⟨k - 1, _, _, by omega, by go_num, rfl, hrr, rfl⟩
        case measure => simp [intOf]; omega
      · obtain rfl : k = 0 := by omega
        rw [show ((0 : Nat) : Int) = 0 from rfl]
        go_wp2_with (with_reducible_and_instances refine Lo.wpList_fo _ rfl _ _ _ _ _ rfl _ _ _ _ _ rfl rfl rfl (by assumption) (by assumption) ?_; intro rr nn hrr)
        go_ret
        exact ⟨_, _, rfl, (neg64_fv hrr).out, rfl⟩
set_option maxHeartbeats 8000000 in
set_option maxRecDepth 100000 in
theorem specSine_011 (y : Nat) (w : World) (hy : y < 18446744073709551616) (h : rung .f64 y < rung .f64 c52) (b1 b2 : Bool) (el : lt64 (sinF0 y) (some 0) = false) (h1 : gt64 (sinF0 y) (some cHalf) = b1) (h2 : eq64 (sinF0 y) (some cHalf) = b2) (hb : (b1 || b2) = true) (e3 : gt64 (opO .sub .f64 (sinF0 y) (some cHalf)) (some cQuar) = true) :
    Calls Try.prog 29 #[.float .f64 y] w (RetF .f64 ((ser (opO .mul .f64 (opO .sub .f64 (some cHalf) (opO .sub .f64 (sinF0 y) (some cHalf))) (some c2pi))).map (Op.negFloat .f64)) w) := by
  have hcv := conv0 h
  have hy2 := fv64c hy (abx h)
  have e00 := sub_self64 h
  have ho1 := ord_lt (c := 4841369599423283200) (abx h) (by rw [ab64]; rfl) h (by decide) (by decide)
  have ho2 := ord_gt (c := 14064741636278059008) (abx h) (by rw [ab64]; rfl) h (by decide) (by decide)
  have h0 := fqi (wpI y)
  have k1 := fqh; have k2 := fqp; have k3 := fq1
  clear h
  have E00 := Lib.hid e00; clear e00
  cases b1 <;> cases b2 <;> simp only [Bool.or_self, Bool.or_true, Bool.true_or, Bool.false_eq_true, Bool.true_eq_false] at hb
  all_goals
    go_enter Try.func29, Try.ntmps29
    go_wp2_with (first | (with_reducible_and_instances refine Lo.wpList_fo _ rfl .sub _ _ _ _ rfl _ _ _ _ _ rfl rfl rfl hy2 hy2 ?_; intro r0 n0 hr0; rw [E00.out] at hr0; have g0 := ord_fv hr0 fqz; rw [ord00] at g0) | (with_reducible_and_instances refine Lo.wpList_fo _ rfl .sub _ _ _ _ rfl _ _ _ _ _ rfl rfl rfl hy2 h0 ?_; intro r1 n1 hr1; have gl := lt64_fv hr1 fqz; rw [show opO .sub .f64 (some y) (some (floatOfInt .f64 (wpI y))) = sinF0 y from rfl] at hr1 gl; rw [el] at gl; have g1 := gt64_fv hr1 fqh; have g2 := eq64_fv hr1 fqh; rw [h1] at g1; rw [h2] at g2) | (with_reducible_and_instances refine Lo.wpList_fo _ rfl .sub _ _ _ _ rfl _ _ _ _ _ rfl rfl rfl hr1 k1 ?_; intro r3 n3 hr3; have g3 := gt64_fv hr3 fqq; rw [e3] at g3) | (with_reducible_and_instances refine Lo.wpList_fo _ rfl .sub _ _ _ _ rfl _ _ _ _ _ rfl rfl rfl k1 hr3 ?_; intro r4 n4 hr4) | (with_reducible_and_instances refine Lo.wpList_fo _ rfl .mul _ _ _ _ rfl _ _ _ _ _ rfl rfl rfl hr4 k2 ?_; intro rz nz hz) | (with_reducible_and_instances refine Lo.wpList_fo _ rfl .mul _ _ _ _ rfl _ _ _ _ _ rfl rfl rfl hz hz ?_; intro ru nu hu))
    generalize hZ : opO .mul .f64 (opO .sub .f64 (some cHalf) (opO .sub .f64 (sinF0 y) (some cHalf))) (some c2pi) = Z at *
    clear hZ
    go_loopw [7, 8] (fun p kk wr => ∃ (k m r : Nat), k ≤ 8 ∧ kk = .int .i64 k ∧ p = .float .f64 r ∧ Hid (Fv .f64 r (sinP (opO .mul .f64 Z Z) (8 - k))) ∧ wr = w.drewN m) (fun _ kk _ => (intOf kk).toNat)
    case atStart => exact ⟨8, _, _, Nat.le_refl _, rfl, rfl, fq1, rfl⟩
    case round =>
      obtain ⟨k, m, r, hk, rfl, rfl, hr, rfl⟩ := hrel
      by_cases hlt : 1 ≤ k
      · obtain ⟨M, hM⟩ : ∃ M, 2 * k * (2 * k + 1) = M := ⟨_, rfl⟩
        have hM2 : 2 * (k : Int) * (2 * (k : Int) + 1) = (M : Int) := by rw [← hM]; push_cast; rfl
        have hMb : M ≤ 272 := by rw [← hM]; exact Nat.mul_le_mul (show 2 * k ≤ 16 by omega) (show 2 * k + 1 ≤ 17 by omega)
        have hi := fqi (M : Int)
        have eK : Hid (sinP (opO .mul .f64 Z Z) (8 - (k - 1)) = opO .sub .f64 (some cOne) (opO .quo .f64 (opO .mul .f64 (opO .mul .f64 Z Z) (sinP (opO .mul .f64 Z Z) (8 - k))) (some (floatOfInt .f64 (M : Int))))) := Lib.hid (by
          rw [show 8 - (k - 1) = (8 - k) + 1 by omega, ← hM, ← sinK_of (by omega)]; rfl)
        clear hM
        go_wp2_with (with_reducible_and_instances refine Lo.wpList_fo _ rfl _ _ _ _ _ rfl _ _ _ _ _ rfl rfl rfl (by assumption) (by assumption) ?_; intro rr nn hrr)
        rw [← eK.out] at hrr
        go_roundw
        case rel => exact ⟨k - 1, _, _, by omega, by go_num, rfl, hrr, rfl⟩
        case measure => simp [intOf]; omega
      · obtain rfl : k = 0 := by omega
        rw [show ((0 : Nat) : Int) = 0 from rfl]
        go_wp2_with (with_reducible_and_instances refine Lo.wpList_fo _ rfl _ _ _ _ _ rfl _ _ _ _ _ rfl rfl rfl (by assumption) (by assumption) ?_; intro rr nn hrr)
        go_ret
        exact ⟨_, _, rfl, (neg64_fv hrr).out, rfl⟩
set_option maxHeartbeats 8000000 in
set_option maxRecDepth 100000 in
theorem specSine_100 (y : Nat) (w : World) (hy : y < 18446744073709551616) (h : rung .f64 y < rung .f64 c52) (b1 b2 : Bool) (el : lt64 (sinF0 y) (some 0) = true) (h1 : gt64 (opO .add .f64 (sinF0 y) (some cOne)) (some cHalf) = b1) (h2 : eq64 (opO .add .f64 (sinF0 y) (some cOne)) (some cHalf) = b2) (hb : (b1 || b2) = false) (e3 : gt64 (opO .add .f64 (sinF0 y) (some cOne)) (some cQuar) = false) :
    Calls Try.prog 29 #[.float .f64 y] w (RetF .f64 (ser (opO .mul .f64 (opO .add .f64 (sinF0 y) (some cOne)) (some c2pi))) w) := by
  have hcv := conv0 h
  have hy2 := fv64c hy (abx h)
  have e00 := sub_self64 h
  have ho1 := ord_lt (c := 4841369599423283200) (abx h) (by rw [ab64]; rfl) h (by decide) (by decide)
  have ho2 := ord_gt (c := 14064741636278059008) (abx h) (by rw [ab64]; rfl) h (by decide) (by decide)
  have h0 := fqi (wpI y)
  have k1 := fqh; have k2 := fqp; have k3 := fq1
  clear h
  have E00 := Lib.hid e00; clear e00
  cases b1 <;> cases b2 <;> simp only [Bool.or_self, Bool.or_true, Bool.true_or, Bool.false_eq_true, Bool.true_eq_false] at hb
  all_goals
    go_enter Try.func29, Try.ntmps29
    go_wp2_with (first | (with_reducible_and_instances refine Lo.wpList_fo _ rfl .sub _ _ _ _ rfl _ _ _ _ _ rfl rfl rfl hy2 hy2 ?_; intro r0 n0 hr0; rw [E00.out] at hr0; have g0 := ord_fv hr0 fqz; rw [ord00] at g0) | (with_reducible_and_instances refine Lo.wpList_fo _ rfl .sub _ _ _ _ rfl _ _ _ _ _ rfl rfl rfl hy2 h0 ?_; intro r1 n1 hr1; have gl := lt64_fv hr1 fqz; rw [show opO .sub .f64 (some y) (some (floatOfInt .f64 (wpI y))) = sinF0 y from rfl] at hr1 gl; rw [el] at gl) | (with_reducible_and_instances refine Lo.wpList_fo _ rfl .add _ _ _ _ rfl _ _ _ _ _ rfl rfl rfl hr1 k3 ?_; intro r2 n2 hr2; have g1 := gt64_fv hr2 fqh; have g2 := eq64_fv hr2 fqh; rw [h1] at g1; rw [h2] at g2; have g3 := gt64_fv hr2 fqq; rw [e3] at g3) | (with_reducible_and_instances refine Lo.wpList_fo _ rfl .mul _ _ _ _ rfl _ _ _ _ _ rfl rfl rfl hr2 k2 ?_; intro rz nz hz) | (with_reducible_and_instances refine Lo.wpList_fo _ rfl .mul _ _ _ _ rfl _ _ _ _ _ rfl rfl rfl hz hz ?_; intro ru nu hu))
    generalize hZ : opO .mul .f64 (opO .add .f64 (sinF0 y) (some cOne)) (some c2pi) = Z at *
    clear hZ
    go_loopw [7, 8] (fun p kk wr => ∃ (k m r : Nat), k ≤ 8 ∧ kk = .int .i64 k ∧ p = .float .f64 r ∧ Hid (Fv .f64 r (sinP (opO .mul .f64 Z Z) (8 - k))) ∧ wr = w.drewN m) (fun _ kk _ => (intOf kk).toNat)
    case atStart => exact ⟨8, _, _, Nat.le_refl _, rfl, rfl, fq1, rfl⟩
    case round =>
      obtain ⟨k, m, r, hk, rfl, rfl, hr, rfl⟩ := hrel
      by_cases hlt : 1 ≤ k
      · obtain ⟨M, hM⟩ : ∃ M, 2 * k * (2 * k + 1) = M := ⟨_, rfl⟩
        have hM2 : 2 * (k : Int) * (2 * (k : Int) + 1) = (M : Int) := by rw [← hM]; push_cast; rfl
        have hMb : M ≤ 272 := by rw [← hM]; exact Nat.mul_le_mul (show 2 * k ≤ 16 by omega) (show 2 * k + 1 ≤ 17 by omega)
        have hi := fqi (M : Int)
        have eK : Hid (sinP (opO .mul .f64 Z Z) (8 - (k - 1)) = opO .sub .f64 (some cOne) (opO .quo .f64 (opO .mul .f64 (opO .mul .f64 Z Z) (sinP (opO .mul .f64 Z Z) (8 - k))) (some (floatOfInt .f64 (M : Int))))) := Lib.hid (by
          rw [show 8 - (k - 1) = (8 - k) + 1 by omega, ← hM, ← sinK_of (by omega)]; rfl)
        clear hM
        go_wp2_with (with_reducible_and_instances refine Lo.wpList_fo _ rfl _ _ _ _ _ rfl _ _ _ _ _ rfl rfl rfl (by assumption) (by assumption) ?_; intro rr nn hrr)
        rw [← eK.out] at hrr
        go_roundw
        case rel => exact ⟨k - 1, _, _, by omega, by go_num, rfl, hrr, rfl⟩
        case measure => simp [intOf]; omega
      · obtain rfl : k = 0 := by omega
        rw [show ((0 : Nat) : Int) = 0 from rfl]
        go_wp2_with (with_reducible_and_instances refine Lo.wpList_fo _ rfl _ _ _ _ _ rfl _ _ _ _ _ rfl rfl rfl (by assumption) (by assumption) ?_; intro rr nn hrr)
        go_ret
        exact ⟨_, _, rfl, hrr.out, rfl⟩
set_option maxHeartbeats 8000000 in
set_option maxRecDepth 100000 in
theorem specSine_101 (y : Nat) (w : World) (hy : y < 18446744073709551616) (h : rung .f64 y < rung .f64 c52) (b1 b2 : Bool) (el : lt64 (sinF0 y) (some 0) = true) (h1 : gt64 (opO .add .f64 (sinF0 y) (some cOne)) (some cHalf) = b1) (h2 : eq64 (opO .add .f64 (sinF0 y) (some cOne)) (some cHalf) = b2) (hb : (b1 || b2) = false) (e3 : gt64 (opO .add .f64 (sinF0 y) (some cOne)) (some cQuar) = true) :
    Calls Try.prog 29 #[.float .f64 y] w (RetF .f64 (ser (opO .mul .f64 (opO .sub .f64 (some cHalf) (opO .add .f64 (sinF0 y) (some cOne))) (some c2pi))) w) := by
  have hcv := conv0 h
  have hy2 := fv64c hy (abx h)
  have e00 := sub_self64 h
  have ho1 := ord_lt (c := 4841369599423283200) (abx h) (by rw [ab64]; rfl) h (by decide) (by decide)
  have ho2 := ord_gt (c := 14064741636278059008) (abx h) (by rw [ab64]; rfl) h (by decide) (by decide)
  have h0 := fqi (wpI y)
  have k1 := fqh; have k2 := fqp; have k3 := fq1
  clear h
  have E00 := Lib.hid e00; clear e00
  cases b1 <;> cases b2 <;> simp only [Bool.or_self, Bool.or_true, Bool.true_or, Bool.false_eq_true, Bool.true_eq_false] at hb
  all_goals
    go_enter Try.func29, Try.ntmps29
    go_wp2_with (first | (with_reducible_and_instances refine Lo.wpList_fo _ rfl .sub _ _ _ _ rfl _ _ _ _ _ rfl rfl rfl hy2 hy2 ?_; intro r0 n0 hr0; rw [E00.out] at hr0; have g0 := ord_fv hr0 fqz; rw [ord00] at g0) | (with_reducible_and_instances refine Lo.wpList_fo _ rfl .sub _ _ _ _ rfl _ _ _ _ _ rfl rfl rfl hy2 h0 ?_; intro r1 n1 hr1; have gl := lt64_fv hr1 fqz; rw [show opO .sub .f64 (some y) (some (floatOfInt .f64 (wpI y))) = sinF0 y from rfl] at hr1 gl; rw [el] at gl) | (with_reducible_and_instances refine Lo.wpList_fo _ rfl .add _ _ _ _ rfl _ _ _ _ _ rfl rfl rfl hr1 k3 ?_; intro r2 n2 hr2; have g1 := gt64_fv hr2 fqh; have g2 := eq64_fv hr2 fqh; rw [h1] at g1; rw [h2] at g2; have g3 := gt64_fv hr2 fqq; rw [e3] at g3) | (with_reducible_and_instances refine Lo.wpList_fo _ rfl .sub _ _ _ _ rfl _ _ _ _ _ rfl rfl rfl k1 hr2 ?_; intro r4 n4 hr4) | (with_reducible_and_instances refine Lo.wpList_fo _ rfl .mul _ _ _ _ rfl _ _ _ _ _ rfl rfl rfl hr4 k2 ?_; intro rz nz hz) | (with_reducible_and_instances refine Lo.wpList_fo _ rfl .mul _ _ _ _ rfl _ _ _ _ _ rfl rfl rfl hz hz ?_; intro ru nu hu))
    generalize hZ : opO .mul .f64 (opO .sub .f64 (some cHalf) (opO .add .f64 (sinF0 y) (some cOne))) (some c2pi) = Z at *
    clear hZ
    go_loopw [7, 8] (fun p kk wr => ∃ (k m r : Nat), k ≤ 8 ∧ kk = .int .i64 k ∧ p = .float .f64 r ∧ Hid (Fv .f64 r (sinP (opO .mul .f64 Z Z) (8 - k))) ∧ wr = w.drewN m) (fun _ kk _ => (intOf kk).toNat)
    case atStart => exact ⟨8, _, _, Nat.le_refl _, rfl, rfl, fq1, rfl⟩
    case round =>
      obtain ⟨k, m, r, hk, rfl, rfl, hr, rfl⟩ := hrel
      by_cases hlt : 1 ≤ k
      · obtain ⟨M, hM⟩ : ∃ M, 2 * k * (2 * k + 1) = M := ⟨_, rfl⟩
        have hM2 : 2 * (k : Int) * (2 * (k : Int) + 1) = (M : Int) := by rw [← hM]; push_cast; rfl
        have hMb : M ≤ 272 := by rw [← hM]; exact Nat.mul_le_mul (show 2 * k ≤ 16 by omega) (show 2 * k + 1 ≤ 17 by omega)
        have hi := fqi (M : Int)
        have eK : Hid (sinP (opO .mul .f64 Z Z) (8 - (k - 1)) = opO .sub .f64 (some cOne) (opO .quo .f64 (opO .mul .f64 (opO .mul .f64 Z Z) (sinP (opO .mul .f64 Z Z) (8 - k))) (some (floatOfInt .f64 (M : Int))))) := Lib.hid (by
          rw [show 8 - (k - 1) = (8 - k) + 1 by omega, ← hM, ← sinK_of (by omega)]; rfl)
        clear hM
        go_wp2_with (with_reducible_and_instances refine Lo.wpList_fo _ rfl _ _ _ _ _ rfl _ _ _ _ _ rfl rfl rfl (by assumption) (by assumption) ?_; intro rr nn hrr)
        rw [← eK.out] at hrr
        go_roundw
        case rel => exact ⟨k - 1, _, _, by omega, by go_num, rfl, hrr, rfl⟩
        case measure => simp [intOf]; omega
      · obtain rfl : k = 0 := by omega
        rw [show ((0 : Nat) : Int) = 0 from rfl]
        go_wp2_with (with_reducible_and_instances refine Lo.wpList_fo _ rfl _ _ _ _ _ rfl _ _ _ _ _ rfl rfl rfl (by assumption) (by assumption) ?_; intro rr nn hrr)
        go_ret
        exact ⟨_, _, rfl, hrr.out, rfl⟩
set_option maxHeartbeats 8000000 in
set_option maxRecDepth 100000 in
theorem specSine_110 (y : Nat) (w : World) (hy : y < 18446744073709551616) (h : rung .f64 y < rung .f64 c52) (b1 b2 : Bool) (el : lt64 (sinF0 y) (some 0) = true) (h1 : gt64 (opO .add .f64 (sinF0 y) (some cOne)) (some cHalf) = b1) (h2 : eq64 (opO .add .f64 (sinF0 y) (some cOne)) (some cHalf) = b2) (hb : (b1 || b2) = true) (e3 : gt64 (opO .sub .f64 (opO .add .f64 (sinF0 y) (some cOne)) (some cHalf)) (some cQuar) = false) :
    Calls Try.prog 29 #[.float .f64 y] w (RetF .f64 ((ser (opO .mul .f64 (opO .sub .f64 (opO .add .f64 (sinF0 y) (some cOne)) (some cHalf)) (some c2pi))).map (Op.negFloat .f64)) w) := by
  have hcv := conv0 h
  have hy2 := fv64c hy (abx h)
  have e00 := sub_self64 h
  have ho1 := ord_lt (c := 4841369599423283200) (abx h) (by rw [ab64]; rfl) h (by decide) (by decide)
  have ho2 := ord_gt (c := 14064741636278059008) (abx h) (by rw [ab64]; rfl) h (by decide) (by decide)
  have h0 := fqi (wpI y)
  have k1 := fqh; have k2 := fqp; have k3 := fq1
  clear h
  have E00 := Lib.hid e00; clear e00
  cases b1 <;> cases b2 <;> simp only [Bool.or_self, Bool.or_true, Bool.true_or, Bool.false_eq_true, Bool.true_eq_false] at hb
  all_goals
    go_enter Try.func29, Try.ntmps29
    go_wp2_with (first | (with_reducible_and_instances refine Lo.wpList_fo _ rfl .sub _ _ _ _ rfl _ _ _ _ _ rfl rfl rfl hy2 hy2 ?_; intro r0 n0 hr0; rw [E00.out] at hr0; have g0 := ord_fv hr0 fqz; rw [ord00] at g0) | (with_reducible_and_instances refine Lo.wpList_fo _ rfl .sub _ _ _ _ rfl _ _ _ _ _ rfl rfl rfl hy2 h0 ?_; intro r1 n1 hr1; have gl := lt64_fv hr1 fqz; rw [show opO .sub .f64 (some y) (some (floatOfInt .f64 (wpI y))) = sinF0 y from rfl] at hr1 gl; rw [el] at gl) | (with_reducible_and_instances refine Lo.wpList_fo _ rfl .add _ _ _ _ rfl _ _ _ _ _ rfl rfl rfl hr1 k3 ?_; intro r2 n2 hr2; have g1 := gt64_fv hr2 fqh; have g2 := eq64_fv hr2 fqh; rw [h1] at g1; rw [h2] at g2) | (with_reducible_and_instances refine Lo.wpList_fo _ rfl .sub _ _ _ _ rfl _ _ _ _ _ rfl rfl rfl hr2 k1 ?_; intro r3 n3 hr3; have g3 := gt64_fv hr3 fqq; rw [e3] at g3) | (with_reducible_and_instances refine Lo.wpList_fo _ rfl .mul _ _ _ _ rfl _ _ _ _ _ rfl rfl rfl hr3 k2 ?_; intro rz nz hz) | (with_reducible_and_instances refine Lo.wpList_fo _ rfl .mul _ _ _ _ rfl _ _ _ _ _ rfl rfl rfl hz hz ?_; intro ru nu hu))
    generalize hZ : opO .mul .f64 (opO .sub .f64 (opO .add .f64 (sinF0 y) (some cOne)) (some cHalf)) (some c2pi) = Z at *
    clear hZ
    go_loopw [7, 8] (fun p kk wr => ∃ (k m r : Nat), k ≤ 8 ∧ kk = .int .i64 k ∧ p = .float .f64 r ∧ Hid (Fv .f64 r (sinP (opO .mul .f64 Z Z) (8 - k))) ∧ wr = w.drewN m) (fun _ kk _ => (intOf kk).toNat)
    case atStart => exact ⟨8, _, _, Nat.le_refl _, rfl, rfl, fq1, rfl⟩
    case round =>
      obtain ⟨k, m, r, hk, rfl, rfl, hr, rfl⟩ := hrel
      by_cases hlt : 1 ≤ k
      · obtain ⟨M, hM⟩ : ∃ M, 2 * k * (2 * k + 1) = M := ⟨_, rfl⟩
        have hM2 : 2 * (k : Int) * (2 * (k : Int) + 1) = (M : Int) := by rw [← hM]; push_cast; rfl
        have hMb : M ≤ 272 := by rw [← hM]; exact Nat.mul_le_mul (show 2 * k ≤ 16 by omega) (show 2 * k + 1 ≤ 17 by omega)
        have hi := fqi (M : Int)
        have eK : Hid (sinP (opO .mul .f64 Z Z) (8 - (k - 1)) = opO .sub .f64 (some cOne) (opO .quo .f64 (opO .mul .f64 (opO .mul .f64 Z Z) (sinP (opO .mul .f64 Z Z) (8 - k))) (some (floatOfInt .f64 (M : Int))))) := Lib.hid (by
          rw [show 8 - (k - 1) = (8 - k) + 1 by omega, ← hM, ← sinK_of (by omega)]; rfl)
        clear hM
        go_wp2_with (with_reducible_and_instances refine Lo.wpList_fo _ rfl _ _ _ _ _ rfl _ _ _ _ _ rfl rfl rfl (by assumption) (by assumption) ?_; intro rr nn hrr)
        rw [← eK.out] at hrr
        go_roundw
        case rel => exact ⟨k - 1, _, _, by omega, by go_num, rfl, hrr, rfl⟩
        case measure => simp [intOf]; omega
      · obtain rfl : k = 0 := by omega
        rw [show ((0 : Nat) : Int) = 0 from rfl]
        go_wp2_with (with_reducible_and_instances refine Lo.wpList_fo _ rfl _ _ _ _ _ rfl _ _ _ _ _ rfl rfl rfl (by assumption) (by assumption) ?_; intro rr nn hrr)
        go_ret
        exact ⟨_, _, rfl, (neg64_fv hrr).out, rfl⟩
set_option maxHeartbeats 8000000 in
set_option maxRecDepth 100000 in
theorem specSine_111 (y : Nat) (w : World) (hy : y < 18446744073709551616) (h : rung .f64 y < rung .f64 c52) (b1 b2 : Bool) (el : lt64 (sinF0 y) (some 0) = true) (h1 : gt64 (opO .add .f64 (sinF0 y) (some cOne)) (some cHalf) = b1) (h2 : eq64 (opO .add .f64 (sinF0 y) (some cOne)) (some cHalf) = b2) (hb : (b1 || b2) = true) (e3 : gt64 (opO .sub .f64 (opO .add .f64 (sinF0 y) (some cOne)) (some cHalf)) (some cQuar) = true) :
    Calls Try.prog 29 #[.float .f64 y] w (RetF .f64 ((ser (opO .mul .f64 (opO .sub .f64 (some cHalf) (opO .sub .f64 (opO .add .f64 (sinF0 y) (some cOne)) (some cHalf))) (some c2pi))).map (Op.negFloat .f64)) w) := by
  have hcv := conv0 h
  have hy2 := fv64c hy (abx h)
  have e00 := sub_self64 h
  have ho1 := ord_lt (c := 4841369599423283200) (abx h) (by rw [ab64]; rfl) h (by decide) (by decide)
  have ho2 := ord_gt (c := 14064741636278059008) (abx h) (by rw [ab64]; rfl) h (by decide) (by decide)
  have h0 := fqi (wpI y)
  have k1 := fqh; have k2 := fqp; have k3 := fq1
  clear h
  have E00 := Lib.hid e00; clear e00
  cases b1 <;> cases b2 <;> simp only [Bool.or_self, Bool.or_true, Bool.true_or, Bool.false_eq_true, Bool.true_eq_false] at hb
  all_goals
    go_enter Try.func29, Try.ntmps29
    go_wp2_with (first | (with_reducible_and_instances refine Lo.wpList_fo _ rfl .sub _ _ _ _ rfl _ _ _ _ _ rfl rfl rfl hy2 hy2 ?_; intro r0 n0 hr0; rw [E00.out] at hr0; have g0 := ord_fv hr0 fqz; rw [ord00] at g0) | (with_reducible_and_instances refine Lo.wpList_fo _ rfl .sub _ _ _ _ rfl _ _ _ _ _ rfl rfl rfl hy2 h0 ?_; intro r1 n1 hr1; have gl := lt64_fv hr1 fqz; rw [show opO .sub .f64 (some y) (some (floatOfInt .f64 (wpI y))) = sinF0 y from rfl] at hr1 gl; rw [el] at gl) | (with_reducible_and_instances refine Lo.wpList_fo _ rfl .add _ _ _ _ rfl _ _ _ _ _ rfl rfl rfl hr1 k3 ?_; intro r2 n2 hr2; have g1 := gt64_fv hr2 fqh; have g2 := eq64_fv hr2 fqh; rw [h1] at g1; rw [h2] at g2) | (with_reducible_and_instances refine Lo.wpList_fo _ rfl .sub _ _ _ _ rfl _ _ _ _ _ rfl rfl rfl hr2 k1 ?_; intro r3 n3 hr3; have g3 := gt64_fv hr3 fqq; rw [e3] at g3) | (with_reducible_and_instances refine Lo.wpList_fo _ rfl .sub _ _ _ _ rfl _ _ _ _ _ rfl rfl rfl k1 hr3 ?_; intro r4 n4 hr4) | (with_reducible_and_instances refine Lo.wpList_fo _ rfl .mul _ _ _ _ rfl _ _ _ _ _ rfl rfl rfl hr4 k2 ?_; intro rz nz hz) | (with_reducible_and_instances refine Lo.wpList_fo _ rfl .mul _ _ _ _ rfl _ _ _ _ _ rfl rfl rfl hz hz ?_; intro ru nu hu))
    generalize hZ : opO .mul .f64 (opO .sub .f64 (some cHalf) (opO .sub .f64 (opO .add .f64 (sinF0 y) (some cOne)) (some cHalf))) (some c2pi) = Z at *
    clear hZ
    go_loopw [7, 8] (fun p kk wr => ∃ (k m r : Nat), k ≤ 8 ∧ kk = .int .i64 k ∧ p = .float .f64 r ∧ Hid (Fv .f64 r (sinP (opO .mul .f64 Z Z) (8 - k))) ∧ wr = w.drewN m) (fun _ kk _ => (intOf kk).toNat)
    case atStart => exact ⟨8, _, _, Nat.le_refl _, rfl, rfl, fq1, rfl⟩
    case round =>
      obtain ⟨k, m, r, hk, rfl, rfl, hr, rfl⟩ := hrel
      by_cases hlt : 1 ≤ k
      · obtain ⟨M, hM⟩ : ∃ M, 2 * k * (2 * k + 1) = M := ⟨_, rfl⟩
        have hM2 : 2 * (k : Int) * (2 * (k : Int) + 1) = (M : Int) := by rw [← hM]; push_cast; rfl
        have hMb : M ≤ 272 := by rw [← hM]; exact Nat.mul_le_mul (show 2 * k ≤ 16 by omega) (show 2 * k + 1 ≤ 17 by omega)
        have hi := fqi (M : Int)
        have eK : Hid (sinP (opO .mul .f64 Z Z) (8 - (k - 1)) = opO .sub .f64 (some cOne) (opO .quo .f64 (opO .mul .f64 (opO .mul .f64 Z Z) (sinP (opO .mul .f64 Z Z) (8 - k))) (some (floatOfInt .f64 (M : Int))))) := Lib.hid (by
          rw [show 8 - (k - 1) = (8 - k) + 1 by omega, ← hM, ← sinK_of (by omega)]; rfl)
        clear hM
        go_wp2_with (with_reducible_and_instances refine Lo.wpList_fo _ rfl _ _ _ _ _ rfl _ _ _ _ _ rfl rfl rfl (by assumption) (by assumption) ?_; intro rr nn hrr)
        rw [← eK.out] at hrr
        go_roundw
        case rel => exact ⟨k - 1, _, _, by omega, by go_num, rfl, hrr, rfl⟩
        case measure => simp [intOf]; omega
      · obtain rfl : k = 0 := by omega
        rw [show ((0 : Nat) : Int) = 0 from rfl]
        go_wp2_with (with_reducible_and_instances refine Lo.wpList_fo _ rfl _ _ _ _ _ rfl _ _ _ _ _ rfl rfl rfl (by assumption) (by assumption) ?_; intro rr nn hrr)
        go_ret
        exact ⟨_, _, rfl, (neg64_fv hrr).out, rfl⟩
theorem specSineWide_any (y : Nat) (w : World) (hy : y < 18446744073709551616) (h : rung .f64 y < rung .f64 c52) :
    Calls Try.prog 29 #[.float .f64 y] w (RetF .f64 (sinR (sinF0 y)) w) := by
  cases el : lt64 (sinF0 y) (some 0)
  · have hF : sinF1 (sinF0 y) = (sinF0 y) := by unfold sinF1; rw [el]; rfl
    cases hb : sinB (sinF0 y)
    · rw [sinR_no hF hb]
      have hb2 : (gt64 (sinF0 y) (some cHalf) || eq64 (sinF0 y) (some cHalf)) = false := hb
      cases e3 : gt64 (sinF0 y) (some cQuar)
      · rw [sinF3_no e3]; exact specSine_000 y w hy h _ _ el rfl rfl hb2 e3
      · rw [sinF3_yes e3]; exact specSine_001 y w hy h _ _ el rfl rfl hb2 e3
    · rw [sinR_yes hF hb]
      have hb2 : (gt64 (sinF0 y) (some cHalf) || eq64 (sinF0 y) (some cHalf)) = true := hb
      cases e3 : gt64 (opO .sub .f64 (sinF0 y) (some cHalf)) (some cQuar)
      · rw [sinF3_no e3]; exact specSine_010 y w hy h _ _ el rfl rfl hb2 e3
      · rw [sinF3_yes e3]; exact specSine_011 y w hy h _ _ el rfl rfl hb2 e3
  · have hF : sinF1 (sinF0 y) = (opO .add .f64 (sinF0 y) (some cOne)) := by unfold sinF1; rw [el]; rfl
    cases hb : sinB (opO .add .f64 (sinF0 y) (some cOne))
    · rw [sinR_no hF hb]
      have hb2 : (gt64 (opO .add .f64 (sinF0 y) (some cOne)) (some cHalf) || eq64 (opO .add .f64 (sinF0 y) (some cOne)) (some cHalf)) = false := hb
      cases e3 : gt64 (opO .add .f64 (sinF0 y) (some cOne)) (some cQuar)
      · rw [sinF3_no e3]; exact specSine_100 y w hy h _ _ el rfl rfl hb2 e3
      · rw [sinF3_yes e3]; exact specSine_101 y w hy h _ _ el rfl rfl hb2 e3
    · rw [sinR_yes hF hb]
      have hb2 : (gt64 (opO .add .f64 (sinF0 y) (some cOne)) (some cHalf) || eq64 (opO .add .f64 (sinF0 y) (some cOne)) (some cHalf)) = true := hb
      cases e3 : gt64 (opO .sub .f64 (opO .add .f64 (sinF0 y) (some cOne)) (some cHalf)) (some cQuar)
      · rw [sinF3_no e3]; exact specSine_110 y w hy h _ _ el rfl rfl hb2 e3
      · rw [sinF3_yes e3]; exact specSine_111 y w hy h _ _ el rfl rfl hb2 e3
end Go.Proofs.Ytbjjggelgpomhaa

/- SineTurns of phases, of both sides. -/
set_option linter.unusedVariables false
set_option linter.unusedSimpArgs false
namespace Go.Proofs.Ytbjjggelgpomhaa
open Fl Go.RowKit Ieee
def wideW (x : Nat) : Nat := FloatKind.f64.encode (FloatKind.f32.decode x)
theorem wide_small {x : Nat} (h : rung .f32 x < rung .f32 1501560832) : rung .f64 (wideW x) < rung .f64 c52 := by
  obtain ⟨D, hD⟩ : ∃ D, D = 925 := ⟨_, rfl⟩
  have h1 := (wide_zv (b := x) (Nat.lt_trans h (by decide)) D hD).2
  have h2 := (wide_zv (b := 1501560832) (by decide) D hD).2
  rw [show FloatKind.f64.encode (FloatKind.f32.decode 1501560832) = c52 by decide +kernel] at h2
  refine (zv_lt .f64).1 ?_
  unfold wideW
  rw [h1, h2]
  exact Nat.mul_lt_mul_of_pos_right ((zv_lt .f32).2 h) (Nat.two_pow_pos D)
theorem turn_small {x : Nat} {X : O} (hx : Fv .f32 x X) (ht : turnB X = true) : X = some x ∧ rung .f32 x < rung .f32 1065353216 := by
  unfold turnB geO at ht
  rw [Bool.and_eq_true] at ht
  obtain ⟨h1, h2⟩ := ht
  cases X with
  | none => cases h2
  | some b =>
    obtain rfl := ab_some hx.2
    refine ⟨rfl, ?_⟩
    have h3 : FloatKind.f32.format.order b 1065353216 = some .lt := by unfold ltO ordO at h2; simpa using h2
    have h4 : FloatKind.f32.format.order b 0 = some .gt ∨ FloatKind.f32.format.order b 0 = some .eq := by unfold gtO eqO ordO at h1; simpa using h1
    have c1 : ab .f32 1065353216 = some 1065353216 := by rw [ab32]; rfl
    have c0 : ab .f32 0 = some 0 := by rw [ab32]; rfl
    rw [order_key .f32 hx.2 c1] at h3
    rw [order_key .f32 hx.2 c0] at h4
    have k1 : key .f32 1065353216 = (rung .f32 1065353216 : Nat) := by decide
    have k0 : key .f32 0 = 0 := by decide
    rw [k1] at h3
    rw [k0] at h4
    have h5 : key .f32 b < ((rung .f32 1065353216 : Nat) : Int) := by
      simp only [compare, compareOfLessAndEq, Option.some.injEq] at h3
      split at h3
      · assumption
      · split at h3 <;> cases h3
    have h6 : 0 ≤ key .f32 b := by
      rcases h4 with h4 | h4
      · simp only [compare, compareOfLessAndEq, Option.some.injEq] at h4
        split at h4
        · cases h4
        · omega
      · simp only [compare, compareOfLessAndEq, Option.some.injEq] at h4
        split at h4
        · cases h4
        · omega
    have h7 : 0 < rung .f32 1065353216 := by decide
    unfold key sg at h5 h6
    split at h5 <;> simp_all <;> omega
def sinX : O → O
  | some b => convO .f64 .f32 (sinR (sinF0 (wideW b)))
  | none => none
set_option maxRecDepth 100000 in
theorem implSineS_any (x : Nat) (w : World) (hx : Hid (Fv .f32 x (some x))) (hs : rung .f32 x < rung .f32 1501560832) :
    Calls Try.prog 52 #[.float .f32 x] w (RetF .f32 (sinX (some x)) w) := by
  have h1 := wide_small hs
  obtain ⟨f, hf, hfb⟩ := sinF0_size h1
  clear hs
  go_enter Try.func52, Try.ntmps52
  go_wp2_with (with_reducible_and_instances refine Lo.wpList_wi _ rfl _ _ _ rfl _ _ rfl (by kernel_rfl) (by kernel_rfl) (by assumption) ?_; intro rr nn hrr)
  have h2 : Fv .f64 rr (some (wideW x)) := hrr.out
  obtain rfl := ab_some h2.2
  have h3 := h2.1
  clear h2 hrr
  refine (implSine_any _ _ h3 h1).mono ?_
  rintro e w' ⟨r2, q2, rfl, hv, rfl⟩
  have V2 := Lib.hid hv
  clear hv
  go_wp2_with fail
  refine (implNarrow_any _ _ V2.out.1 (fits_sin hfb (by have := V2.out; rw [hf] at this; exact this))).mono ?_
  rintro e w' ⟨r3, q3, rfl, hv, rfl⟩
  have V3 : Hid (Fv .f32 r3 (sinX (some x))) := Lib.hid (by rw [V2.out.2] at hv; exact hv)
  clear hv
  go_wp2
  go_ret
  exact ⟨r3, _, rfl, V3.out, rfl⟩
set_option maxRecDepth 100000 in
theorem specSineS_any (x : Nat) (w : World) (hx : Hid (Fv .f32 x (some x))) (hs : rung .f32 x < rung .f32 1501560832) :
    Calls Try.prog 23 #[.float .f32 x] w (RetF .f32 (sinX (some x)) w) := by
  have h1 := wide_small hs
  obtain ⟨f, hf, hfb⟩ := sinF0_size h1
  clear hs
  go_enter Try.func23, Try.ntmps23
  go_wp2_with (with_reducible_and_instances refine Lo.wpList_wi _ rfl _ _ _ rfl _ _ rfl (by kernel_rfl) (by kernel_rfl) (by assumption) ?_; intro rr nn hrr)
  have h2 : Fv .f64 rr (some (wideW x)) := hrr.out
  obtain rfl := ab_some h2.2
  have h3 := h2.1
  clear h2 hrr
  refine (specSineWide_any _ _ h3 h1).mono ?_
  rintro e w' ⟨r2, q2, rfl, hv, rfl⟩
  have V2 := Lib.hid hv
  clear hv
  go_wp2_with fail
  refine (specNarrow_any _ _ V2.out.1 (fits_sin hfb (by have := V2.out; rw [hf] at this; exact this))).mono ?_
  rintro e w' ⟨r3, q3, rfl, hv, rfl⟩
  have V3 : Hid (Fv .f32 r3 (sinX (some x))) := Lib.hid (by rw [V2.out.2] at hv; exact hv)
  clear hv
  go_wp2
  go_ret
  exact ⟨r3, _, rfl, V3.out, rfl⟩
theorem implSineT_any (x : Nat) (X : O) (w : World) (hx : Hid (Fv .f32 x X)) (ht : turnB X = true) :
    Calls Try.prog 52 #[.float .f32 x] w (RetF .f32 (sinX X) w) := by
  obtain ⟨rfl, hs⟩ := turn_small hx.out ht
  exact implSineS_any x w hx (Nat.lt_trans hs (by decide))
theorem specSineT_any (x : Nat) (X : O) (w : World) (hx : Hid (Fv .f32 x X)) (ht : turnB X = true) :
    Calls Try.prog 23 #[.float .f32 x] w (RetF .f32 (sinX X) w) := by
  obtain ⟨rfl, hs⟩ := turn_small hx.out ht
  exact specSineS_any x w hx (Nat.lt_trans hs (by decide))
end Go.Proofs.Ytbjjggelgpomhaa

/- Signs of sums, products, quotients; the part of a spread in which a number is. -/
set_option linter.unusedVariables false
set_option linter.unusedSimpArgs false
namespace Go.Proofs.Ytbjjggelgpomhaa
namespace Fl
open Ieee
theorem add_sign (k : FloatKind) {x y : Nat} (hx : Fin k x) (hy : Fin k y) (sy : sgn k y = false) (h : sgn k x = false ∨ rung k x ≤ rung k y) :
    ∃ r, floatBits .add k x y = some r ∧ sgn k r = false := by
  obtain ⟨m, e, hm, hz⟩ := read_fin k hx
  obtain ⟨n, f, hn, hz2⟩ := read_fin k hy
  rw [sy] at hn
  simp only [floatBits, Format.add, hm, hn, Datum.sum, Option.map_some]
  refine ⟨_, rfl, ?_⟩
  refine (sgn_nearest k _ _ _).trans ?_
  have e1 : (min (k.format.leastPlace + (e : Int)) (k.format.leastPlace + (f : Int)) - k.format.leastPlace).toNat = min e f := by omega
  have e3 : (k.format.leastPlace + (e : Int) - min (k.format.leastPlace + (e : Int)) (k.format.leastPlace + (f : Int))).toNat = e - min e f := by omega
  have e4 : (k.format.leastPlace + (f : Int) - min (k.format.leastPlace + (e : Int)) (k.format.leastPlace + (f : Int))).toNat = f - min e f := by omega
  rw [e3, e4]
  have sgd : ∀ (s : Bool) (a u : Nat), signed s a u = sg s (a * 2 ^ u) := by intro s a u; simp only [signed, sg, Nat.shiftLeft_eq]
  rw [sgd, sgd]
  have hge : 0 ≤ sg (sgn k x) (m * 2 ^ (e - min e f)) + sg false (n * 2 ^ (f - min e f)) := by
    rcases h with h | h
    · rw [h]
      generalize m * 2 ^ (e - min e f) = p1
      generalize n * 2 ^ (f - min e f) = p2
      simp only [sg]; simp; omega
    · have c := (zv_le k).2 h
      rw [hz, hz2] at c
      have c2 : m * 2 ^ (e - min e f) ≤ n * 2 ^ (f - min e f) := by
        have hp : 0 < 2 ^ min e f := Nat.two_pow_pos _
        refine Nat.le_of_mul_le_mul_right ?_ hp
        rw [Nat.mul_assoc, Nat.mul_assoc, ← Nat.pow_add, ← Nat.pow_add, Nat.sub_add_cancel (Nat.min_le_left ..), Nat.sub_add_cancel (Nat.min_le_right ..)]
        exact c
      generalize m * 2 ^ (e - min e f) = p1 at *
      generalize n * 2 ^ (f - min e f) = p2 at *
      cases sgn k x <;> simp only [sg] <;> simp <;> omega
  split
  · simp
  · exact decide_eq_false (by omega)
theorem mul_sign (k : FloatKind) {x y : Nat} (hx : Fin k x) (hy : Fin k y) : ∃ r, floatBits .mul k x y = some r ∧ sgn k r = (sgn k x ^^ sgn k y) := by
  obtain ⟨m, e, hm, hz⟩ := read_fin k hx
  obtain ⟨n, f, hn, hz2⟩ := read_fin k hy
  simp only [floatBits, Format.mul, hm, hn, Datum.product, Option.map_some]
  exact ⟨_, rfl, sgn_nearest k _ _ _⟩
theorem div_sign (k : FloatKind) {x y : Nat} (hx : Fin k x) (hy : Fin k y) (hy0 : rung k y ≠ 0) : ∃ r, floatBits .quo k x y = some r ∧ sgn k r = (sgn k x ^^ sgn k y) := by
  obtain ⟨m, e, hm, hz⟩ := read_fin k hx
  obtain ⟨n, f, hn, hz2⟩ := read_fin k hy
  have hn0 : n ≠ 0 := by
    intro e0
    subst e0
    rw [Nat.zero_mul] at hz2
    exact hy0 ((zv_inj k (r := rung k y) (s := 0)).1 (by rw [zv_zero]; exact hz2))
  simp only [floatBits, Format.div, hm, hn, Datum.quotient, if_neg hn0, Option.map_some]
  exact ⟨_, rfl, sgn_nearest k _ _ _⟩
def cA : Nat := 4607182418263146496
def cO : Nat := 4607182418800017408
def cT : Nat := 4611686018427387904
def cS : Nat := 4611686018158952448
def cH : Nat := 4607182418531581952
theorem part_tab : ∀ p : _root_.Fin 65, 1 ≤ p.val → (match floatBits .mul .f64 cH (fd (p.val : Nat)) with | some u => decide (zv .f64 (rung .f64 u) < p.val * 2 ^ 1074) && decide (rung .f64 u < FloatKind.f64.format.infRung) | none => false) = true := by decide +kernel
theorem fd_tab : ∀ p : _root_.Fin 65, rung .f64 (fd (p.val : Nat)) < FloatKind.f64.format.infRung ∧ sgn .f64 (fd (p.val : Nat)) = false ∧ ab .f64 (fd (p.val : Nat)) = some (fd (p.val : Nat)) := by decide +kernel
theorem part_sum {b : Nat} (hb : ab .f32 b = some b) (h : rung .f32 b ≤ 1065353216) (h2 : rung .f32 b ≤ 1065353215 ∨ b = 3212836864) :
    ∃ s, floatBits .add .f64 (FloatKind.f64.encode (FloatKind.f32.decode b)) cO = some s ∧ sgn .f64 s = false ∧ rung .f64 s ≤ rung .f64 cS := by
  have inf32 : FloatKind.f32.format.infRung = 2139095040 := by decide
  obtain ⟨D, hD⟩ : ∃ D : Nat, D = 925 := ⟨_, rfl⟩
  obtain ⟨w1, w2⟩ := wide_zv (b := b) (by omega) D hD
  obtain ⟨o1, o2⟩ := wide_zv (b := 1065353216) (by decide) D hD
  obtain ⟨a1, a2⟩ := wide_zv (b := 1065353215) (by decide) D hD
  have eO : FloatKind.f64.encode (FloatKind.f32.decode 1065353216) = cO := by decide +kernel
  have eA : FloatKind.f64.encode (FloatKind.f32.decode 1065353215) = cA := by decide +kernel
  rw [eO] at o2; rw [eA] at a2
  have le1 : rung .f64 (FloatKind.f64.encode (FloatKind.f32.decode b)) ≤ rung .f64 cO := (zv_le .f64).1 (by rw [w2, o2]; exact Nat.mul_le_mul_right _ ((zv_le .f32).2 (by rw [show rung .f32 1065353216 = 1065353216 by decide]; exact h)))
  have fO : Fin .f64 cO := by unfold Fin; decide
  have fW : Fin .f64 (FloatKind.f64.encode (FloatKind.f32.decode b)) := by unfold Fin at fO ⊢; omega
  obtain ⟨s, hs, hsg⟩ := add_sign .f64 fW fO (by decide) (.inr le1)
  refine ⟨s, hs, hsg, ?_⟩
  rcases h2 with h2 | rfl
  · have le2 : rung .f64 (FloatKind.f64.encode (FloatKind.f32.decode b)) ≤ rung .f64 cA := (zv_le .f64).1 (by rw [w2, a2]; exact Nat.mul_le_mul_right _ ((zv_le .f32).2 (by rw [show rung .f32 1065353215 = 1065353215 by decide]; exact h2)))
    obtain ⟨r, t, h3, h4, h5⟩ := add_size .f64 fW fO (c := cA) (d := cO) (by unfold Fin; decide) fO (by decide) (by decide) le2 (Nat.le_refl _)
    rw [hs] at h3; cases h3
    have e4 : floatBits .add .f64 cA cO = some cS := by decide +kernel
    rw [e4] at h4; cases h4
    exact h5
  · have e4 : floatBits .add .f64 (FloatKind.f64.encode (FloatKind.f32.decode 3212836864)) cO = some 0 := by decide +kernel
    rw [hs] at e4; cases e4
    decide
theorem part_of {b p : Nat} (hb32 : b < 4294967296) (hge : geO (ab .f32 b) (some 3212836864) = true) (hlt : ltO (ab .f32 b) (some 1065353216) = true) (hp : 1 ≤ p) (hp2 : p ≤ 64) :
    ∃ s h m q : Nat, opO .add .f64 (wide (ab .f32 b)) (some cO) = some s ∧ opO .quo .f64 (some s) (some cT) = some h ∧ opO .mul .f64 (some h) (some (fd (p : Nat))) = some m ∧ floatToIntVal .f64 m .i64 = some (q : Int) ∧ q < p := by
  have hb : ab .f32 b = some b := by
    cases e : ab .f32 b with
    | none => rw [e] at hlt; exact absurd hlt (by decide)
    | some c => rw [ab_some e]
  have hc1 : ab .f32 1065353216 = some 1065353216 := by decide
  have hc2 : ab .f32 3212836864 = some 3212836864 := by decide
  rw [hb] at hge hlt ⊢
  have k1 := order_key .f32 hb hc1
  have k2 := order_key .f32 hb hc2
  have e1 : key .f32 1065353216 = 1065353216 := by decide
  have e2 : key .f32 3212836864 = -1065353216 := by decide
  rw [e1] at k1; rw [e2] at k2
  have l1 : key .f32 b < 1065353216 := by
    have h1 : (FloatKind.f32.format.order b 1065353216 == some .lt) = true := hlt
    rw [k1] at h1
    simp only [beq_iff_eq, Option.some.injEq] at h1
    exact Int.compare_eq_lt.1 h1
  have l2 : -1065353216 ≤ key .f32 b := by
    have h1 : (FloatKind.f32.format.order b 3212836864 == some .gt || FloatKind.f32.format.order b 3212836864 == some .eq) = true := hge
    rw [k2] at h1
    simp only [Bool.or_eq_true, beq_iff_eq, Option.some.injEq] at h1
    rcases h1 with h | h
    · have := Int.compare_eq_gt.1 h; omega
    · have := Int.compare_eq_eq.1 h; omega
  have hr : rung .f32 b ≤ 1065353216 ∧ (rung .f32 b ≤ 1065353215 ∨ b = 3212836864) := by
    unfold key sg at l1 l2
    cases hs : sgn .f32 b
    · rw [hs] at l1; simp at l1; omega
    · rw [hs] at l2; simp at l2
      have hs2 := hs
      unfold sgn at hs2
      rw [sw32] at hs2
      have hd : b / 2147483648 % 2 = 1 := by simpa using hs2
      have hrr : rung .f32 b = b % 2147483648 := by unfold rung; rw [sw32]
      omega
  obtain ⟨s, h3, h4, h5⟩ := part_sum hb hr.1 hr.2
  have inf64 : FloatKind.f64.format.infRung = 9218868437227405312 := by decide
  have rS : rung .f64 cS = 4611686018158952448 := by decide
  have rT : rung .f64 cT = 4611686018427387904 := by decide
  have rH : rung .f64 cH = 4607182418531581952 := by decide
  have fs : Fin .f64 s := by unfold Fin; omega
  have fT : Fin .f64 cT := by unfold Fin; omega
  have fH : Fin .f64 cH := by unfold Fin; omega
  obtain ⟨h, q1, q2⟩ := div_sign .f64 fs fT (by omega)
  obtain ⟨D, hD⟩ : ∃ D : Nat, D = 1074 := ⟨_, rfl⟩
  obtain ⟨h', q3, q4⟩ := div_size .f64 fs fT fH (by omega) D (by rw [hD]; decide) (by
    have c1 := (zv_le .f64).2 h5
    have c2 : zv .f64 (rung .f64 cS) * 2 ^ D ≤ zv .f64 (rung .f64 cH) * zv .f64 (rung .f64 cT) := by rw [hD]; decide +kernel
    exact Nat.le_trans (Nat.mul_le_mul_right _ c1) c2)
  rw [q1] at q3; cases q3
  have sT : sgn .f64 cT = false := by decide
  rw [h4, sT] at q2
  have fh : Fin .f64 h := by unfold Fin; omega
  obtain ⟨fp1, fp2, fp3⟩ := fd_tab ⟨p, by omega⟩
  have tb := part_tab ⟨p, by omega⟩ hp
  dsimp only at fp1 fp2 fp3 tb
  obtain ⟨m, q5, q6⟩ := mul_sign .f64 fh (show Fin .f64 (fd (p : Nat)) from fp1)
  obtain ⟨m', u, q7, q8, q9⟩ := mul_size .f64 fh (show Fin .f64 (fd (p : Nat)) from fp1) fH (show Fin .f64 (fd (p : Nat)) from fp1) q4 (Nat.le_refl _)
  rw [q5] at q7; cases q7
  rw [q8] at tb
  simp only [Bool.and_eq_true, decide_eq_true_eq] at tb
  have q2' : sgn .f64 h = false := q2
  rw [q2', fp2] at q6
  have fm : rung .f64 m < FloatKind.f64.format.infRung := by omega
  have hw : whl D m < p := by
    unfold whl
    have c3 := (zv_le .f64).2 q9
    have tb1 : zv .f64 (rung .f64 u) < p * 2 ^ D := by rw [hD]; exact tb.1
    clear tb
    exact Nat.div_lt_of_lt_mul (by rw [Nat.mul_comm]; exact Nat.lt_of_le_of_lt c3 tb1)
  have hti := toInt_whole hD fm (by omega)
  have q6' : sgn .f64 m = false := q6
  rw [q6'] at hti
  have aw : ab .f64 (FloatKind.f64.encode (FloatKind.f32.decode b)) = some (FloatKind.f64.encode (FloatKind.f32.decode b)) := ab_wide hb
  refine ⟨s, h, m, whl D m, ?_, q1, q5, ?_, hw⟩
  · have hwd : wide (some b) = some (FloatKind.f64.encode (FloatKind.f32.decode b)) := rfl
    rw [hwd]
    exact h3
  · rw [hti]; simp [sg]
end Fl
end Go.Proofs.Ytbjjggelgpomhaa

/- Differences grow with what is taken from; phases stay from 0 to less than 1. -/
set_option linter.unusedVariables false
set_option linter.unusedSimpArgs false
namespace Go.Proofs.Ytbjjggelgpomhaa
namespace Fl
open Ieee
theorem sub_mono (k : FloatKind) {x y c : Nat} (hx : Fin k x) (hy : Fin k y) (hc : Fin k c) (sx : sgn k x = false) (sy : sgn k y = false) (sc : sgn k c = false) (h1 : rung k y ≤ rung k x) (h2 : rung k x ≤ rung k c) :
    ∃ r t, floatBits .sub k x y = some r ∧ floatBits .sub k c y = some t ∧ rung k r ≤ rung k t ∧ sgn k r = false := by
  obtain ⟨m, e, hm, hz⟩ := read_fin k hx
  obtain ⟨n, f, hn, hz2⟩ := read_fin k hy
  obtain ⟨M, E, hM, hZ⟩ := read_fin k hc
  rw [sx] at hm
  rw [sy] at hn
  rw [sc] at hM
  have sgd : ∀ (s : Bool) (a u : Nat), signed s a u = sg s (a * 2 ^ u) := by intro s a u; simp only [signed, sg, Nat.shiftLeft_eq]
  simp only [floatBits, Format.sub, hm, hn, hM, Datum.opposite, Datum.sum, Option.map_some, Bool.not_false]
  have e1 : (min (k.format.leastPlace + (e : Int)) (k.format.leastPlace + (f : Int)) - k.format.leastPlace).toNat = min e f := by omega
  have e2 : (min (k.format.leastPlace + (E : Int)) (k.format.leastPlace + (f : Int)) - k.format.leastPlace).toNat = min E f := by omega
  have e3 : (k.format.leastPlace + (e : Int) - min (k.format.leastPlace + (e : Int)) (k.format.leastPlace + (f : Int))).toNat = e - min e f := by omega
  have e4 : (k.format.leastPlace + (f : Int) - min (k.format.leastPlace + (e : Int)) (k.format.leastPlace + (f : Int))).toNat = f - min e f := by omega
  have e5 : (k.format.leastPlace + (E : Int) - min (k.format.leastPlace + (E : Int)) (k.format.leastPlace + (f : Int))).toNat = E - min E f := by omega
  have e6 : (k.format.leastPlace + (f : Int) - min (k.format.leastPlace + (E : Int)) (k.format.leastPlace + (f : Int))).toNat = f - min E f := by omega
  rw [e3, e4, e5, e6, sgd, sgd, sgd, sgd]
  have c1 := (zv_le k).2 h1
  have c2 := (zv_le k).2 h2
  have p1 : m * 2 ^ (e - min e f) * 2 ^ min e f = zv k (rung k x) := by rw [Nat.mul_assoc, ← Nat.pow_add, Nat.sub_add_cancel (Nat.min_le_left ..), hz]
  have p2 : n * 2 ^ (f - min e f) * 2 ^ min e f = zv k (rung k y) := by rw [Nat.mul_assoc, ← Nat.pow_add, Nat.sub_add_cancel (Nat.min_le_right ..), hz2]
  have p3 : M * 2 ^ (E - min E f) * 2 ^ min E f = zv k (rung k c) := by rw [Nat.mul_assoc, ← Nat.pow_add, Nat.sub_add_cancel (Nat.min_le_left ..), hZ]
  have p4 : n * 2 ^ (f - min E f) * 2 ^ min E f = zv k (rung k y) := by rw [Nat.mul_assoc, ← Nat.pow_add, Nat.sub_add_cancel (Nat.min_le_right ..), hz2]
  generalize hA : m * 2 ^ (e - min e f) = A at *
  generalize hB : n * 2 ^ (f - min e f) = B at *
  generalize hC : M * 2 ^ (E - min E f) = C at *
  generalize hD : n * 2 ^ (f - min E f) = D at *
  have q1 : B ≤ A := by
    have hp : 0 < 2 ^ min e f := Nat.two_pow_pos _
    exact Nat.le_of_mul_le_mul_right (by rw [p1, p2]; exact c1) hp
  have q2 : D ≤ C := by
    have hp : 0 < 2 ^ min E f := Nat.two_pow_pos _
    exact Nat.le_of_mul_le_mul_right (by rw [p3, p4]; omega) hp
  have t1 : sg false A + sg true B = ((A - B : Nat) : Int) := by simp only [sg]; simp; omega
  have t2 : sg false C + sg true D = ((C - D : Nat) : Int) := by simp only [sg]; simp; omega
  rw [t1, t2]
  refine ⟨_, _, rfl, rfl, ?_, ?_⟩
  · refine nearest_mono k _ _ (b := k.format.leastPlace) (by omega) (by omega) (by omega) ?_
    rw [e1, e2, Int.natAbs_natCast, Int.natAbs_natCast, Nat.sub_mul, Nat.sub_mul, p1, p2, p3, p4]
    omega
  · refine (sgn_nearest k _ _ _).trans ?_
    split
    · rfl
    · exact decide_eq_false (by omega)
end Fl
open Fl Go.RowKit Ieee
def onO (P S : O) : O := if geO (ad P S) (some 1065353216) then su (ad P S) (some 1065353216) else ad P S
theorem add_comm_fin (k : FloatKind) {x y : Nat} (hx : Fin k x) (hy : Fin k y) : floatBits .add k x y = floatBits .add k y x := by
  obtain ⟨m, e, hm, _⟩ := read_fin k hx
  obtain ⟨n, f, hn, _⟩ := read_fin k hy
  simp only [floatBits, Format.add, hm, hn, Datum.sum, Option.map_some]
  rw [Int.add_comm, Int.min_comm, Bool.and_comm]
/-- a number that is no -0 but from 0 to less than 1, or -0 -/
def Ph (b : Nat) : Prop := b < 1065353216 ∨ b = 2147483648
theorem Ph.rung {b : Nat} (h : Ph b) : rung .f32 b ≤ 1065353215 ∧ (sgn .f32 b = false ∨ b = 2147483648) := by
  unfold Fl.rung Fl.sgn
  rw [sw32]
  rcases h with h | rfl
  · exact ⟨by omega, .inl (by simp; omega)⟩
  · exact ⟨by decide, .inr rfl⟩
theorem turn_ph {b : Nat} {X : O} (hb : Hid (Fv .f32 b X)) (h : turnB X = true) : X = some b ∧ Ph b := by
  obtain ⟨h1, h2⟩ := turn_small hb.out h
  refine ⟨h1, ?_⟩
  subst h1
  have hlt := hb.out.1
  rw [w32] at hlt
  have r1 : rung .f32 1065353216 = 1065353216 := by decide
  rw [r1] at h2
  have hr : rung .f32 b = b % 2147483648 := by unfold Fl.rung; rw [sw32]
  rw [hr] at h2
  by_cases hs : b < 2147483648
  · exact .inl (by omega)
  · refine .inr ?_
    have hg : geO (some b) (some 0) = true := by unfold turnB at h; rw [Bool.and_eq_true] at h; exact h.1
    have hk := order_key .f32 hb.out.2 (show ab .f32 0 = some 0 by decide)
    have h3 : (FloatKind.f32.format.order b 0 == some .gt || FloatKind.f32.format.order b 0 == some .eq) = true := hg
    rw [hk] at h3
    have k0 : key .f32 0 = 0 := by decide
    have hkb : key .f32 b = -((b % 2147483648 : Nat) : Int) := by
      unfold Fl.key sg Fl.sgn
      rw [hr, sw32, if_pos (by simp; omega)]
    rw [k0, hkb] at h3
    simp only [Bool.or_eq_true, beq_iff_eq, Option.some.injEq] at h3
    rcases h3 with h3 | h3
    · have := Int.compare_eq_gt.1 h3; omega
    · have := Int.compare_eq_eq.1 h3; omega
theorem ph_turn {b : Nat} (h : Ph b) : turnB (some b) = true := by
  have hab : ab .f32 b = some b := by rw [ab32, if_neg (by rcases h with h | rfl <;> omega)]
  have h1 : ab .f32 1065353216 = some 1065353216 := by decide
  have h0 : ab .f32 0 = some 0 := by decide
  have k0 : key .f32 0 = 0 := by decide
  have k1 : key .f32 1065353216 = 1065353216 := by decide
  have hkb : 0 ≤ key .f32 b ∧ key .f32 b < 1065353216 := by
    rcases h with h | rfl
    · have : key .f32 b = (b : Int) := by
        unfold Fl.key sg Fl.sgn Fl.rung
        rw [sw32, if_neg (by simp; omega), Nat.mod_eq_of_lt (by omega)]
      omega
    · decide
  unfold turnB
  rw [Bool.and_eq_true]
  constructor
  · show (FloatKind.f32.format.order b 0 == some .gt || FloatKind.f32.format.order b 0 == some .eq) = true
    rw [order_key .f32 hab h0, k0]
    rcases Int.lt_or_eq_of_le hkb.1 with h | h
    · rw [Int.compare_eq_gt.2 h]; rfl
    · rw [Int.compare_eq_eq.2 h.symm]; rfl
  · show (FloatKind.f32.format.order b 1065353216 == some .lt) = true
    rw [order_key .f32 hab h1, k1, Int.compare_eq_lt.2 hkb.2]; rfl
theorem ph_add {p s : Nat} (hp : Ph p) (hs : Ph s) : ∃ a, floatBits .add .f32 p s = some a ∧ rung .f32 a ≤ 1073741823 ∧ (sgn .f32 a = false ∨ a = 2147483648) := by
  obtain ⟨r1, g1⟩ := hp.rung
  obtain ⟨r2, g2⟩ := hs.rung
  have inf : FloatKind.f32.format.infRung = 2139095040 := by decide
  have fp : Fl.Fin .f32 p := by unfold Fl.Fin; omega
  have fs : Fl.Fin .f32 s := by unfold Fl.Fin; omega
  have fc : Fl.Fin .f32 1065353215 := by unfold Fl.Fin; decide
  have rc : rung .f32 1065353215 = 1065353215 := by decide
  obtain ⟨a, t, h1, h2, h3⟩ := add_size .f32 fp fs fc fc (by decide) (by decide) (by rw [rc]; exact r1) (by rw [rc]; exact r2)
  have e1 : floatBits .add .f32 1065353215 1065353215 = some 1073741823 := by decide +kernel
  rw [e1] at h2; cases h2
  have rt : rung .f32 1073741823 = 1073741823 := by decide
  rw [rt] at h3
  refine ⟨a, h1, h3, ?_⟩
  rcases g2 with g2 | rfl
  · obtain ⟨b, q1, q2⟩ := add_sign .f32 fp fs g2 (by
      rcases g1 with g1 | rfl
      · exact .inl g1
      · exact .inr (by rw [show rung .f32 2147483648 = 0 by decide]; omega))
    rw [h1] at q1; cases q1
    exact .inl q2
  · rcases g1 with g1 | rfl
    · obtain ⟨b, q1, q2⟩ := add_sign .f32 fs fp g1 (.inr (by rw [show rung .f32 2147483648 = 0 by decide]; omega))
      rw [add_comm_fin .f32 fp fs] at h1
      rw [h1] at q1; cases q1
      exact .inl q2
    · have e2 : floatBits .add .f32 2147483648 2147483648 = some 2147483648 := by decide +kernel
      rw [h1] at e2; cases e2
      exact .inr rfl
theorem on_ph {p s : Nat} (hp : Ph p) (hs : Ph s) : ∃ b, onO (some p) (some s) = some b ∧ Ph b ∧ turnB (onO (some p) (some s)) = true := by
  obtain ⟨a, h1, h3, h4⟩ := ph_add hp hs
  have ha : ad (some p) (some s) = some a := h1
  have inf : FloatKind.f32.format.infRung = 2139095040 := by decide
  have hr : rung .f32 a = a % 2147483648 := by unfold Fl.rung; rw [sw32]
  have hfv : Fv .f32 a (some a) := fv_op (.inl rfl) h1
  have hlt := hfv.1
  rw [w32] at hlt
  have h1' : ab .f32 1065353216 = some 1065353216 := by decide
  have k1 : key .f32 1065353216 = 1065353216 := by decide
  unfold onO
  rw [ha]
  by_cases hg : geO (some a) (some 1065353216) = true
  · rw [if_pos hg]
    have h5 : (FloatKind.f32.format.order a 1065353216 == some .gt || FloatKind.f32.format.order a 1065353216 == some .eq) = true := hg
    rw [order_key .f32 hfv.2 h1', k1] at h5
    simp only [Bool.or_eq_true, beq_iff_eq, Option.some.injEq] at h5
    have h6 : 1065353216 ≤ key .f32 a := by
      rcases h5 with h | h
      · have := Int.compare_eq_gt.1 h; omega
      · have := Int.compare_eq_eq.1 h; omega
    rcases h4 with h4 | rfl
    · have h7 : 1065353216 ≤ rung .f32 a := by unfold Fl.key sg at h6; rw [h4] at h6; simp at h6; omega
      have fa : Fl.Fin .f32 a := by unfold Fl.Fin; omega
      obtain ⟨r, t, q1, q2, q3, q4⟩ := sub_mono .f32 fa (y := 1065353216) (c := 1073741823) (by unfold Fl.Fin; decide) (by unfold Fl.Fin; decide) h4 (by decide) (by decide) (by rw [show rung .f32 1065353216 = 1065353216 by decide]; exact h7) (by rw [show rung .f32 1073741823 = 1073741823 by decide]; exact h3)
      have e2 : floatBits .sub .f32 1073741823 1065353216 = some 1065353214 := by decide +kernel
      rw [e2] at q2; cases q2
      have fr : Fv .f32 r (some r) := fv_op (.inr (.inl rfl)) q1
      have hrl := fr.1
      rw [w32] at hrl
      have hrr : rung .f32 r = r % 2147483648 := by unfold Fl.rung; rw [sw32]
      have r9 : rung .f32 1065353214 = 1065353214 := by decide
      have hph : Ph r := by
        refine .inl ?_
        unfold Fl.sgn at q4
        rw [sw32] at q4
        have : r / 2147483648 % 2 ≠ 1 := by simpa using q4
        omega
      have hs : su (some a) (some 1065353216) = some r := q1
      exact ⟨r, hs, hph, by rw [hs]; exact ph_turn hph⟩
    · exact absurd h6 (by decide)
  · rw [if_neg hg]
    have hph : Ph a := by
      rcases h4 with h4 | rfl
      · refine .inl ?_
        have h5 : ¬ (FloatKind.f32.format.order a 1065353216 == some .gt || FloatKind.f32.format.order a 1065353216 == some .eq) = true := hg
        rw [order_key .f32 hfv.2 h1', k1] at h5
        have h6 : key .f32 a < 1065353216 := by
          rcases Int.lt_trichotomy (key .f32 a) 1065353216 with h | h | h
          · exact h
          · rw [Int.compare_eq_eq.2 h] at h5; exact absurd rfl h5
          · rw [Int.compare_eq_gt.2 h] at h5; exact absurd rfl h5
        unfold Fl.key sg at h6
        rw [h4] at h6
        unfold Fl.sgn at h4
        rw [sw32] at h4
        have : a / 2147483648 % 2 ≠ 1 := by simpa using h4
        simp at h6
        omega
      · exact .inr rfl
    exact ⟨a, rfl, hph, ph_turn hph⟩
end Go.Proofs.Ytbjjggelgpomhaa

/- Waves at a phase, of both sides. -/
set_option linter.unusedVariables false
set_option linter.unusedSimpArgs false
namespace Go.Proofs.Ytbjjggelgpomhaa
open Fl Go.RowKit
theorem fv2 : Hid (Fv .f32 1073741824 (some 1073741824)) := fvc (by decide) (by decide)
theorem fv4 : Hid (Fv .f32 1082130432 (some 1082130432)) := fvc (by decide) (by decide)
def wavO (k : Int) (X : O) : O :=
  if k = 0 then sinX X else if k = 1 then su (mu (some 1073741824) X) (some 1065353216) else if k = 2 then (if ltO X (some 1056964608) then some 1065353216 else some 3212836864)
  else su (mu (some 1082130432) (sizeO (su X (some 1056964608)))) (some 1065353216)
theorem specAbs_any (x : Nat) (X : O) (w : World) (hx : Hid (Fv .f32 x X)) :
    Calls Try.prog 24 #[.float .f32 x] w fun e w' => ∃ r, e = .returned (.float .f32 r) ∧ Hid (Fv .f32 r (sizeO X)) ∧ w = w' := by
  obtain ⟨h1, h2⟩ := hx
  subst h2
  have hp : bitsO (ab .f32 x) < 4294967296 := by
    cases h : ab .f32 x with
    | none => decide
    | some b => obtain rfl := ab_some h; exact h1
  have hb := bits_clear64 hp
  have hr : Hid (Fv .f32 (bitsO (ab .f32 x) % 2147483648) (sizeO (ab .f32 x))) := by
    cases h : ab .f32 x with
    | none => exact Lib.hid ⟨by decide, by rw [ab32]; rfl⟩
    | some b =>
      obtain rfl := ab_some h
      have := sizeN_fv (Lib.hid ⟨h1, h⟩ : Hid (Fv .f32 b (some b)))
      simpa [bitsO, sizeN] using this
  obtain ⟨n, hn⟩ : ∃ n, bitsO (ab .f32 x) = n := ⟨_, rfl⟩
  rw [hn] at hp hb hr
  have hl := l01Bits_any x w h1
  rw [hn] at hl
  have HL := Lib.hid hl
  clear hl hn
  have h3 : n % 2147483648 < 4294967296 := by omega
  go_enter Try.func24, Try.ntmps24
  go_wp2_with (first | (go_at_call 31; refine HL.out.mono ?_; rintro e w' ⟨rfl, rfl⟩) | (go_at_call 30; refine (l01From_any _ _ h3).mono ?_; rintro e w' ⟨rfl, rfl⟩))
  go_ret
  exact ⟨_, rfl, hr, rfl⟩
set_option maxHeartbeats 2000000 in
theorem specWave_any (k : Int) (x : Nat) (X : O) (w : World) (hx : Hid (Fv .f32 x X)) (ht : turnB X = true) (hk : inB k 0 3 = true) :
    Calls Try.prog 13 #[.int .i64 k, .float .f32 x] w (RetF .f32 (wavO k X) w) := by
  simp only [inB, Bool.and_eq_true, decide_eq_true_eq] at hk
  have h4 : k = 0 ∨ k = 1 ∨ k = 2 ∨ k = 3 := by omega
  have k2 := fv2; have k4 := fv4; have k1 := fv1; have kh := fvh
  have g := lt_fv hx fvh
  rcases h4 with rfl | rfl | rfl | rfl
  · have e : wavO 0 X = sinX X := rfl
    rw [e]
    go_enter Try.func13, Try.ntmps13
    go_wp2_with (go_at_call 23; refine (specSineT_any x X _ hx ht).mono ?_; rintro e w' ⟨r, m, rfl, hr, rfl⟩; have HR := Lib.hid hr; clear hr)
    go_ret
    exact ⟨_, _, rfl, HR.out, rfl⟩
  · have e : wavO 1 X = su (mu (some 1073741824) X) (some 1065353216) := rfl
    rw [e]
    go_enter Try.func13, Try.ntmps13
    go_wp2_with (with_reducible_and_instances refine Lo.wpList_fo _ rfl _ _ _ _ _ rfl _ _ _ _ _ rfl rfl rfl (by assumption) (by assumption) ?_; intro rr nn hrr)
    go_ret
    exact ⟨_, _, rfl, hrr.out, rfl⟩
  · have e : wavO 2 X = if ltO X (some 1056964608) then some 1065353216 else some 3212836864 := rfl
    rw [e]
    cases h : ltO X (some 1056964608)
    · rw [h] at g
      simp only [Bool.false_eq_true, if_false]
      go_enter Try.func13, Try.ntmps13
      go_wp2
      go_ret
      exact ⟨_, 0, rfl, fvm1.out, rfl⟩
    · rw [h] at g
      simp only [if_true]
      go_enter Try.func13, Try.ntmps13
      go_wp2
      go_ret
      exact ⟨_, 0, rfl, fv1.out, rfl⟩
  · have e : wavO 3 X = su (mu (some 1082130432) (sizeO (su X (some 1056964608)))) (some 1065353216) := rfl
    rw [e]
    go_enter Try.func13, Try.ntmps13
    go_wp2_with (first | (with_reducible_and_instances refine Lo.wpList_fo _ rfl _ _ _ _ _ rfl _ _ _ _ _ rfl rfl rfl (by assumption) (by assumption) ?_; intro rr nn hrr) | (go_at_call 24; refine (specAbs_any _ _ _ (by assumption)).mono ?_; rintro e w' ⟨r7, rfl, hr7, rfl⟩))
    go_ret
    exact ⟨_, _, rfl, hrr.out, rfl⟩
end Go.Proofs.Ytbjjggelgpomhaa

/- WaveAt, of both sides. -/
set_option linter.unusedVariables false
set_option linter.unusedSimpArgs false
namespace Go.Proofs.Ytbjjggelgpomhaa
open Fl Go.RowKit
def RetS (F : O) (w : World) (e : Ending) (w' : World) : Prop := ∃ r, e = .returned (.float .f32 r) ∧ Hid (Fv .f32 r F) ∧ w.Since w.heap.size w'
theorem at0_any (x : Nat) (X : O) (w : World) (hx : Hid (Fv .f32 x X)) (ht : turnB X = true) : Calls Try.prog 51 #[.agg #[], .float .f32 x] w (RetS (wavO 0 X) w) := by
  have e : wavO 0 X = sinX X := rfl
  rw [e]
  go_enter Try.func51, Try.ntmps51
  go_wp2_with (go_at_call 52; refine (implSineT_any x X _ hx ht).mono ?_; rintro e w' ⟨r, m, rfl, hr, rfl⟩; have HR := Lib.hid hr; clear hr)
  go_ret
  exact ⟨_, rfl, HR, by (repeat (first | (with_reducible refine Fl.sinDrew ?_) | (with_reducible refine World.Since.drew ?_) | (with_reducible refine Fl.sinSet ?_ ?_; rotate_left) | (with_reducible refine Fl.sinAlloc ?_ ?_; rotate_left) | with_reducible exact World.Since.refl _ _ | with_reducible assumption | (with_reducible refine Fl.sinStep (by with_reducible assumption) ?_))); all_goals (first | omega | (simp; done) | (simp; omega) | (simp [go_sem]; done) | (simp [go_sem]; omega))⟩
theorem at1_any (x : Nat) (X : O) (w : World) (hx : Hid (Fv .f32 x X)) : Calls Try.prog 61 #[.agg #[], .float .f32 x] w (RetS (wavO 1 X) w) := by
  have k2 := fv2; have k1 := fv1
  have e : wavO 1 X = su (mu (some 1073741824) X) (some 1065353216) := rfl
  rw [e]
  go_enter Try.func61, Try.ntmps61
  go_wp2_with (with_reducible_and_instances refine Lo.wpList_fo _ rfl _ _ _ _ _ rfl _ _ _ _ _ rfl rfl rfl (by assumption) (by assumption) ?_; intro rr nn hrr)
  go_ret
  exact ⟨_, rfl, hrr, by (repeat (first | (with_reducible refine Fl.sinDrew ?_) | (with_reducible refine World.Since.drew ?_) | (with_reducible refine Fl.sinSet ?_ ?_; rotate_left) | (with_reducible refine Fl.sinAlloc ?_ ?_; rotate_left) | with_reducible exact World.Since.refl _ _ | with_reducible assumption | (with_reducible refine Fl.sinStep (by with_reducible assumption) ?_))); all_goals (first | omega | (simp; done) | (simp; omega) | (simp [go_sem]; done) | (simp [go_sem]; omega))⟩
theorem at2_any (x : Nat) (X : O) (w : World) (hx : Hid (Fv .f32 x X)) : Calls Try.prog 62 #[.agg #[], .float .f32 x] w (RetS (wavO 2 X) w) := by
  have g := lt_fv hx fvh
  have e : wavO 2 X = if ltO X (some 1056964608) then some 1065353216 else some 3212836864 := rfl
  rw [e]
  cases h : ltO X (some 1056964608)
  · rw [h] at g
    simp only [Bool.false_eq_true, if_false]
    go_enter Try.func62, Try.ntmps62
    go_wp2
    go_ret
    exact ⟨_, rfl, fvm1, by (repeat (first | (with_reducible refine Fl.sinDrew ?_) | (with_reducible refine World.Since.drew ?_) | (with_reducible refine Fl.sinSet ?_ ?_; rotate_left) | (with_reducible refine Fl.sinAlloc ?_ ?_; rotate_left) | with_reducible exact World.Since.refl _ _ | with_reducible assumption | (with_reducible refine Fl.sinStep (by with_reducible assumption) ?_))); all_goals (first | omega | (simp; done) | (simp; omega) | (simp [go_sem]; done) | (simp [go_sem]; omega))⟩
  · rw [h] at g
    simp only [if_true]
    go_enter Try.func62, Try.ntmps62
    go_wp2
    go_ret
    exact ⟨_, rfl, fv1, by (repeat (first | (with_reducible refine Fl.sinDrew ?_) | (with_reducible refine World.Since.drew ?_) | (with_reducible refine Fl.sinSet ?_ ?_; rotate_left) | (with_reducible refine Fl.sinAlloc ?_ ?_; rotate_left) | with_reducible exact World.Since.refl _ _ | with_reducible assumption | (with_reducible refine Fl.sinStep (by with_reducible assumption) ?_))); all_goals (first | omega | (simp; done) | (simp; omega) | (simp [go_sem]; done) | (simp [go_sem]; omega))⟩
theorem implSizeF (x : Nat) (X : O) (w : World) (hx : Hid (Fv .f32 x X)) : Calls Try.prog 64 #[.float .f32 x] w fun e w' => ∃ r, e = .returned (.float .f32 r) ∧ Hid (Fv .f32 r (sizeO X)) ∧ w = w' :=
  (implSize_any x w hx.out.1).mono fun e w' ⟨h1, h2⟩ => ⟨_, h1, sizeN_fv hx, h2⟩
theorem at3_any (x : Nat) (X : O) (w : World) (hx : Hid (Fv .f32 x X)) : Calls Try.prog 63 #[.agg #[], .float .f32 x] w (RetS (wavO 3 X) w) := by
  have k4 := fv4; have k1 := fv1; have kh := fvh
  have e : wavO 3 X = su (mu (some 1082130432) (sizeO (su X (some 1056964608)))) (some 1065353216) := rfl
  rw [e]
  go_enter Try.func63, Try.ntmps63
  go_wp2_with (first | (with_reducible_and_instances refine Lo.wpList_fo _ rfl _ _ _ _ _ rfl _ _ _ _ _ rfl rfl rfl (by assumption) (by assumption) ?_; intro rr nn hrr) | (go_at_call 64; refine (implSizeF _ _ _ (by assumption)).mono ?_; rintro e w' ⟨r7, rfl, hr7, rfl⟩))
  go_ret
  exact ⟨_, rfl, hrr, by (repeat (first | (with_reducible refine Fl.sinDrew ?_) | (with_reducible refine World.Since.drew ?_) | (with_reducible refine Fl.sinSet ?_ ?_; rotate_left) | (with_reducible refine Fl.sinAlloc ?_ ?_; rotate_left) | with_reducible exact World.Since.refl _ _ | with_reducible assumption | (with_reducible refine Fl.sinStep (by with_reducible assumption) ?_))); all_goals (first | omega | (simp; done) | (simp; omega) | (simp [go_sem]; done) | (simp [go_sem]; omega))⟩
theorem meth0 (n : Nat) (w : World) : (method (n + 1) 51 (.agg #[]) "loop.example/g01170/impl.at").run Try.prog w = .ok (51, .agg #[]) w := by kernel_rfl
theorem meth1 (n : Nat) (w : World) : (method (n + 1) 52 (.agg #[]) "loop.example/g01170/impl.at").run Try.prog w = .ok (61, .agg #[]) w := by kernel_rfl
theorem meth2 (n : Nat) (w : World) : (method (n + 1) 53 (.agg #[]) "loop.example/g01170/impl.at").run Try.prog w = .ok (62, .agg #[]) w := by kernel_rfl
theorem meth3 (n : Nat) (w : World) : (method (n + 1) 54 (.agg #[]) "loop.example/g01170/impl.at").run Try.prog w = .ok (63, .agg #[]) w := by kernel_rfl
def okWav (k : Int) (X : O) : Bool := inB k 0 3 && turnB X
def wavS (k : Int) (X : O) (b : Bool) : O := if b then wavO k X else some 0
end Go.Proofs.Ytbjjggelgpomhaa

/- Oscillators that run: phases, the model's side. -/
set_option linter.unusedVariables false
set_option linter.unusedSimpArgs false
namespace Go.Proofs.Ytbjjggelgpomhaa
open Fl Go.RowKit
theorem geO_of {X Y : O} {b1 b2 : Bool} (h1 : gtO X Y = b1) (h2 : eqO X Y = b2) : geO X Y = (b1 || b2) := by unfold geO; rw [h1, h2]
/-- a phase behind k steps -/
def phs (P S : O) : Nat → O
  | 0 => P
  | k + 1 => onO (phs P S k) S
theorem phs_ph {p s : Nat} {P S : O} (hp : Hid (Fv .f32 p P)) (hs : Hid (Fv .f32 s S)) (h1 : turnB P = true) (h2 : turnB S = true) (k : Nat) : ∃ q, phs P S k = some q ∧ Ph q := by
  obtain ⟨rfl, p1⟩ := turn_ph hp h1
  obtain ⟨rfl, p2⟩ := turn_ph hs h2
  induction k with
  | zero => exact ⟨p, rfl, p1⟩
  | succ k ih =>
    obtain ⟨q, e, hq⟩ := ih
    obtain ⟨b, hb, hb2, _⟩ := on_ph hq p2
    exact ⟨b, by show onO (phs (some p) (some s) k) (some s) = _; rw [e, hb], hb2⟩
theorem phs_turn {p s : Nat} {P S : O} (hp : Hid (Fv .f32 p P)) (hs : Hid (Fv .f32 s S)) (h1 : turnB P = true) (h2 : turnB S = true) (k : Nat) : turnB (phs P S k) = true := by
  obtain ⟨q, e, hq⟩ := phs_ph hp hs h1 h2 k
  rw [e]; exact ph_turn hq
/-- an oscillator's numbers in a block of its own -/
def OscO (W : World) (g : Nat) (e : OscN) : Prop := W.heap[g]? = some (.cells #[.int .i64 e.k, .float .f32 e.st, .float .f32 e.ph] 26 (0, 0))
section
variable {W V : World} {g : Nat} {e : OscN}
theorem OscO.lt (h : OscO W g e) : g < W.heap.size := (Array.getElem?_eq_some_iff.1 h).1
theorem OscO.at_ (h : OscO W g e) : OscAt W g e := by
  refine ⟨h.lt, ?_, ?_, ?_⟩ <;> · unfold OscO at h; simp [World.cell?, h]
theorem OscO.free {o : Nat} (h : OscO W g e) : W.frozen? ⟨g, o, none⟩ = false := by unfold OscO at h; simp [World.frozen?, h]
theorem OscO.of (h : OscO W g e) (k : V.heap[g]? = W.heap[g]?) : OscO V g e := k.trans h
theorem OscO.set (h : OscO W g e) (q : Nat) : OscO (W.setCell ⟨g, 2, none⟩ (.float .f32 q)) g ⟨e.k, e.st, q⟩ := by unfold OscO at h ⊢; simp [World.setCell, Array.getElem?_modify, h]
theorem OscO.set3 {k : Int} {s p : Nat} (h : OscO W g e) : OscO (((W.setCell ⟨g, 0, none⟩ (.int .i64 k)).setCell ⟨g, 1, none⟩ (.float .f32 s)).setCell ⟨g, 2, none⟩ (.float .f32 p)) g ⟨k, s, p⟩ := by unfold OscO at h ⊢; simp [World.setCell, Array.getElem?_modify, h]
theorem OscO.drewN (h : OscO W g e) (n : Nat) : OscO (W.drewN n) g e := h
end
def PLOB (n0 : Nat) (f0 : Nat → Option Nat) (K : Int) (S P : O) (b : Bool) (w : World) (e : Ending) (w' : World) : Prop :=
  ∃ (p : Ls) (c : Nat) (s : OscN), e = .returned (.tuple #[.slice p.A p.n c, s.val, .bool b]) ∧ p.n = n0 ∧ Gs 22 w' w.heap.size p.A p.n p.xs ∧ Are p f0 ∧ s.k = K ∧ Hid (Fv .f32 s.st S) ∧ Hid (Fv .f32 s.ph P) ∧ w.Since w.heap.size w'
def oscY (K : Int) (P S : O) (k : Nat) : O := wavO K (phs P S k)
theorem ge_fv {r : Nat} {X : O} (h : Hid (Fv .f32 r X)) : (FloatKind.f32.format.order r 1065353216 == some .gt || FloatKind.f32.format.order r 1065353216 == some .eq) = geO X (some 1065353216) := by
  have g1 := gt_fv h fv1
  have g2 := eq_fv h fv1
  unfold geO; rw [← g1, ← g2]
set_option maxHeartbeats 2000000 in
theorem specOn_any (p s : Nat) (P S : O) (w : World) (hp : Hid (Fv .f32 p P)) (hs : Hid (Fv .f32 s S)) : Calls Try.prog 14 #[.float .f32 p, .float .f32 s] w (RetF .f32 (onO P S) w) := by
  have k1 := fv1
  obtain ⟨Z, hZ⟩ : ∃ Z, Z = onO P S := ⟨_, rfl⟩
  rw [← hZ]
  unfold onO at hZ
  have HZ := Lib.hid hZ; clear hZ
  go_enter Try.func14, Try.ntmps14
  go_wp2_with (with_reducible_and_instances refine Lo.wpList_fo _ rfl _ _ _ _ _ rfl _ _ _ _ _ rfl rfl rfl (by assumption) (by assumption) ?_; intro rr nn hrr)
  · rename_i r1 n1 hA h
    have e := HZ.out
    rw [if_pos (show geO (ad P S) (some 1065353216) = true by rw [← ge_fv hA, Bool.or_eq_true]; exact h)] at e
    subst e
    go_ret
    exact ⟨_, _, rfl, hrr.out, rfl⟩
  · rename_i h
    have e := HZ.out
    rw [if_neg (show ¬ geO (ad P S) (some 1065353216) = true by rw [← ge_fv hrr, h.1, h.2]; decide)] at e
    subst e
    go_ret
    exact ⟨_, _, rfl, hrr.out, rfl⟩
def okRunO (k : Int) (S P : O) (c : Int) : Bool := okOsc k S P && inB c 0 256
theorem specCnt_b (x : Int) (b : Bool) (w : World) (h : inB x 0 256 = b) : Calls Try.prog 12 #[.int .i64 x] w fun e w' => e = .returned (.bool b) ∧ w = w' := by
  go_enter Try.func12, Try.ntmps12
  go_wp2_with (go_at_call 22; with_reducible refine (specHold_b x 0 256 _ _ h).mono ?_; rintro e w' ⟨rfl, rfl⟩)
  go_ret
  exact ⟨rfl, rfl⟩
set_option maxHeartbeats 4000000 in
set_option maxRecDepth 100000 in
theorem specRunOsc_ok (e : OscN) (S P : O) (c : Nat) (w : World) (hs : Hid (Fv .f32 e.st S)) (hp : Hid (Fv .f32 e.ph P)) (h : okOsc e.k S P = true) (hc : inB (c : Int) 0 256 = true) :
    Calls Try.prog 4 #[e.val, .int .i64 (c : Int)] w (PLOB c (oscY e.k P S) e.k S (phs P S c) true w) := by
  obtain ⟨W1, hW1⟩ : ∃ W, W = w.alloc (oscB e) := ⟨_, rfl⟩
  obtain ⟨W2, hW2⟩ : ∃ W, W = W1.alloc (oscB ⟨0, 0, 0⟩) := ⟨_, rfl⟩
  have z1 : W1.heap.size = w.heap.size + 1 := by rw [hW1]; simp
  have z2 : W2.heap.size = w.heap.size + 1 + 1 := by rw [hW2]; simp [z1]
  have f1 : OscO W1 w.heap.size e := by rw [hW1]; exact Go.Deep.blk_alloc_new _ _
  have f2 : OscO W2 (w.heap.size + 1) ⟨0, 0, 0⟩ := by rw [hW2, ← z1]; exact Go.Deep.blk_alloc_new _ _
  have f3 : OscO W2 w.heap.size e := f1.of (by rw [hW2]; exact blk_keep _ (by omega))
  have s2 : w.Since w.heap.size W2 := by rw [hW2, hW1]; exact ((World.Since.refl _ _).alloc (Nat.le_refl _) _).alloc (by simp) _
  have HIS := Lib.hid (specIs_b w.heap.size e S P true W2 f3.at_ hs hp h)
  obtain ⟨K, s, p⟩ := e
  have hk : inB K 0 3 = true ∧ turnB S = true ∧ turnB P = true := by unfold okOsc at h; simpa [Bool.and_eq_true, and_assoc] using h
  obtain ⟨hk, tS, tP⟩ := hk
  have hcb : c ≤ 256 := by simp only [inB, Bool.and_eq_true, decide_eq_true_eq] at hc; omega
  simp only [OscN.val, oscB] at *
  have HW1 := Lib.hid hW1; have HW2 := Lib.hid hW2; have F3 := Lib.hid f3; have F2 := Lib.hid f2; have SS2 := Lib.hid s2
  clear hW1 hW2 f1 f2 f3 s2 h
  go_enter Try.func4, Try.ntmps4
  go_wp2_with fail
  rw [← HW1.out, ← HW2.out]
  go_at_call 11
  refine HIS.out.mono ?_
  rintro e w' ⟨rfl, rfl⟩
  go_wp2_with (go_at_call 12; refine (specCnt_b _ _ _ hc).mono ?_; rintro e w' ⟨rfl, rfl⟩)
  go_loopw [1, 7] (fun cv v wr => ∃ k q : Nat, k ≤ c ∧ cv = .int .i64 ((c - k : Nat) : Int) ∧ Rw (w.heap.size + 1 + 1) wr v k (oscY K P S) ∧ OscO wr w.heap.size ⟨K, s, q⟩ ∧ OscO wr (w.heap.size + 1) ⟨0, 0, 0⟩ ∧ Hid (Fv .f32 q (phs P S k)) ∧ w.Since w.heap.size wr ∧ w.heap.size + 1 + 1 ≤ wr.heap.size) (fun cv _ _ => (intOf cv).toNat)
  case atStart =>
    have h9 := Rw.start W2 (w.heap.size + 1 + 1) (by omega) (oscY K P S)
    rw [z2] at h9
    refine ⟨0, p, Nat.zero_le _, rfl, ?_, F3.out.of (blk_keep _ (by omega)), F2.out.of (blk_keep _ (by omega)), hp, SS2.out.alloc (by omega) _, by simp; omega⟩
    exact h9
  case round =>
    obtain ⟨k, q, hk9, rfl, hr1, hf1, hf2, hq, hs9, hz⟩ := hrel
    have HR := Lib.hid hr1; have HS := Lib.hid hs9; have HF := Lib.hid hf1; have HF2 := Lib.hid hf2
    clear hr1 hs9 hf1 hf2
    by_cases hlt : k < c
    · have c0 := HF.out.at_.k
      have c1 := HF.out.at_.st
      have c3 := HF.out.at_.ph
      have tk := phs_turn hp hs tP tS k
      have eP : Hid (phs P S (k + 1) = onO (phs P S k) S) := Lib.hid rfl
      have eY : Hid (oscY K P S k = wavO K (phs P S k)) := Lib.hid rfl
      simp only at c0 c1 c3
      go_wp2_with fail
      go_at_call 13
      refine (specWave_any K q _ _ hq tk hk).mono ?_
      rintro e w3 ⟨r, m, rfl, hr, rfl⟩
      have HRW := Lib.hid hr; clear hr
      rw [← eY.out] at HRW
      go_wp2_with (first | (at_builtin; refine wpList_app1 rfl (.tmp 21) (.tmp 27) rfl (w.heap.size + 1 + 1) _ k _ rfl _ _ rfl (by simp [go_sem]) (by omega) (by simp; omega) HRW ((HR.out.drewN _).alloc _) ?_; intro v' w3 hR3 hS3; have F1 : OscO w3 w.heap.size ⟨K, s, q⟩ := HF.out.of ((hS3.out.block _ (by omega)).trans (blk_keep _ (by omega))); have d1 := F1.at_.st; have d3 := F1.at_.ph; have d4 := F1.free (o := 2); simp only at d1 d3) | (go_at_call 14; refine (specOn_any q s _ _ _ hq hs).mono ?_; rintro e w4 ⟨r2, m2, rfl, hr2, rfl⟩; have HR2 := Lib.hid hr2; clear hr2; rw [← eP.out] at HR2))
      have G1 : Hid (OscO ((w3.drewN m2).setCell ⟨w.heap.size, 2, none⟩ (.float .f32 r2)) w.heap.size ⟨K, s, r2⟩) := Lib.hid ((F1.drewN m2).set r2)
      have G2 : Hid (OscO ((w3.drewN m2).setCell ⟨w.heap.size, 2, none⟩ (.float .f32 r2)) (w.heap.size + 1) ⟨0, 0, 0⟩) := Lib.hid (HF2.out.of ((Go.Deep.blk_setCell_other _ _ _ _ (show w.heap.size + 1 ≠ w.heap.size by omega)).trans ((hS3.out.block _ (by omega)).trans (blk_keep _ (by omega)))))
      have s3 : w.Since w.heap.size w3 := (since_drewN (HS.out.alloc (by omega) _) _).trans (since_mono hS3.out (by omega))
      have G3 : Hid (w.Since w.heap.size ((w3.drewN m2).setCell ⟨w.heap.size, 2, none⟩ (.float .f32 r2))) := Lib.hid ((since_drewN s3 m2).setCell (Nat.le_refl _) _)
      have G4 : w.heap.size + 1 + 1 ≤ ((w3.drewN m2).setCell ⟨w.heap.size, 2, none⟩ (.float .f32 r2)).heap.size := by rw [Go.Deep.nblk_setCell]; exact Nat.le_trans (by simp; omega) hS3.out.size
      have G5 : Hid (Rw (w.heap.size + 1 + 1) ((w3.drewN m2).setCell ⟨w.heap.size, 2, none⟩ (.float .f32 r2)) v' (k + 1) (oscY K P S)) := Lib.hid ((hR3.out.drewN m2).on ((On.refl _ _).set 2 (.float .f32 r2)) (by omega))
      go_roundw
      case rel => exact ⟨k + 1, r2, by omega, by go_num, G5.out, G1.out, G2.out, HR2, G3.out, G4⟩
      case measure => simp [intOf]; omega
    · obtain rfl : k = c := by omega
      obtain ⟨p2, cp, rfl, rfl, hg, ha2⟩ := HR.out.done
      have HG := Lib.hid hg; have HAA := Lib.hid ha2; clear hg ha2
      have c1 := HF.out.at_.k
      have c2 := HF.out.at_.st
      have c3 := HF.out.at_.ph
      have d1 := HF2.out.at_.k
      have d2 := HF2.out.at_.st
      have d3 := HF2.out.at_.ph
      have e0 := fun o => HF2.out.free (o := o)
      simp only at c1 c2 c3 d1 d2 d3
      go_wp2_with fail
      go_region
      all_goals
        have G9 : OscO _ (w.heap.size + 1) ⟨K, s, q⟩ := HF2.out.set3 (k := K) (s := s) (p := q)
        have S9 := ((HS.out.setCell (a := ⟨w.heap.size + 1, 0, none⟩) (by simp) (.int .i64 K)).setCell (a := ⟨w.heap.size + 1, 1, none⟩) (by simp) (.float .f32 s)).setCell (a := ⟨w.heap.size + 1, 2, none⟩) (by simp) (.float .f32 q)
        have O9 : Gs 22 _ (w.heap.size + 1 + 1) p2.A p2.n p2.xs := HG.out.onLow (((On.refl (w.heap.size + 1) wr).set 0 (.int .i64 K)).set 1 (.float .f32 s) |>.set 2 (.float .f32 q)) (by omega)
        generalize World.setCell _ _ _ = W9 at *
        have g1 := G9.at_.k
        have g2 := G9.at_.st
        have g3 := G9.at_.ph
        simp only at g1 g2 g3
        have S10 := Lib.hid S9; have O10 := Lib.hid O9; clear S9 O9 d1 d2 d3 c1 c2 c3 e0 G9
        go_wp2
        exact bodyPost_ret (v := .tuple #[.slice p2.A p2.n cp, .agg #[.int .i64 K, .float .f32 s, .float .f32 q], .bool true]) (by simp [results, Try.results4, go_sem, g1, g2, g3]) rfl
          ⟨p2, cp, ⟨K, s, q⟩, rfl, rfl, O10.out.less (by omega), HAA.out, rfl, hs, hq, (by exact since_drewN S10.out 1)⟩
end Go.Proofs.Ytbjjggelgpomhaa

/- Oscillators that run: the program's side. -/
set_option linter.unusedVariables false
set_option linter.unusedSimpArgs false
namespace Go.Proofs.Ytbjjggelgpomhaa
open Fl Go.RowKit
set_option maxHeartbeats 2000000 in
set_option maxRecDepth 100000 in
theorem advance_any (g : Nat) (K : Int) (s p : Nat) (S P : O) (w : World) (h : OscO w g ⟨K, s, p⟩) (hs : Hid (Fv .f32 s S)) (hp : Hid (Fv .f32 p P)) :
    Calls Try.prog 27 #[.pointer (some ⟨g, 0, none⟩)] w fun e w' => ∃ q, e = .returned (.tuple #[]) ∧ Hid (Fv .f32 q (onO P S)) ∧ OscO w' g ⟨K, s, q⟩ ∧ On g w w' := by
  have k1 := fv1
  have H := Lib.hid h
  have c1 := h.at_.st; have c2 := h.at_.ph; have c3 := h.free (o := 2)
  simp only at c1 c2
  have hset := fun n q' => ((H.out.drewN n).set q').at_.ph
  have hfr := fun n q' => ((H.out.drewN n).set q').free (o := 2)
  simp only at hset
  obtain ⟨Z, hZ⟩ : ∃ Z, Z = onO P S := ⟨_, rfl⟩
  rw [← hZ]
  unfold onO at hZ
  have HZ := Lib.hid hZ; clear hZ h
  go_enter Try.func27, Try.ntmps27
  go_wp2_with fail
  refine Lo.wp_loose_tail [10] 11 (by kernel_rfl) (by kernel_rfl) ?_
  simp only [List.take_succ_cons, List.take_zero, List.drop_succ_cons, List.drop_zero]
  repeat (first
    | (refine Lo.wpL_move rfl _ (.inl rfl) (by decide) ?_; simp only [Act.put, List.setIfInBounds_toArray, List.set_cons_succ, List.set_cons_zero])
    | (refine Lo.wpL_move rfl _ (.inr rfl) (by decide) ?_; simp only [Act.put, List.setIfInBounds_toArray, List.set_cons_succ, List.set_cons_zero])
    | (refine Lo.wpL_fop rfl _ _ _ _ rfl rfl (by decide) _ _ _ _ _ rfl rfl (by assumption) (by assumption) ?_; intro rr hrr; simp only [Act.put, List.setIfInBounds_toArray, List.set_cons_succ, List.set_cons_zero])
    | (refine Lo.wpL_wide rfl _ _ _ rfl (by decide) _ _ rfl (by kernel_rfl) (by kernel_rfl) (by assumption) ?_; intro rr hrr; simp only [Act.put, List.setIfInBounds_toArray, List.set_cons_succ, List.set_cons_zero])
    | (refine Lo.wpL_quiet rfl (by decide) (fun K hK => ?_); go_big_quiet_op; (refine hK _ ?_; clear hK K)))
  refine Lo.wpL_nil ?_
  refine Lo.after_fl rfl (by assumption) ?_; intro q10 h10; simp only [Act.put, List.setIfInBounds_toArray, List.set_cons_succ, List.set_cons_zero]
  refine Lo.after_nil ?_; intro nq
  have HA : Hid (Fv .f32 q10 (ad P S)) := h10
  go_wp2_with (with_reducible_and_instances refine Lo.wpList_fo _ rfl _ _ _ _ _ rfl _ _ _ _ _ rfl rfl rfl (by assumption) (by assumption) ?_; intro rr nn hrr)
  · rename_i h
    have e := HZ.out
    rw [if_pos (show geO (ad P S) (some 1065353216) = true by rw [← ge_fv HA]; simpa [Bool.or_eq_true] using h)] at e
    subst e
    go_end0
    exact ⟨_, rfl, hrr, ((H.out.set q10).set rr).drewN _, (((On.refl g w).set 2 _).set 2 _).drewN _⟩
  · rename_i h
    have e := HZ.out
    rw [if_neg (show ¬ geO (ad P S) (some 1065353216) = true by rw [← ge_fv HA]; simpa [Bool.or_eq_true] using h)] at e
    subst e
    go_end0
    exact ⟨_, rfl, HA, (H.out.set q10).drewN _, ((On.refl g w).set 2 _).drewN _⟩
theorem GCells.keepC {w v : World} {g n : Nat} {f : Nat → Value} (h : GCells w g n f) (e : v.heap[g]? = w.heap[g]?) : GCells v g n f := by
  obtain ⟨cs, hb, hc⟩ := h
  exact ⟨cs, e.trans hb, hc⟩
theorem blk_since {lo : Nat} {w v : World} (s : w.Since lo v) {b : Nat} (hb : b < lo) : v.heap[b]? = w.heap[b]? := s.block b hb
theorem nila0 (n : Nat) (w : World) : (nilAhead (n + 1) 51 (.agg #[]) "loop.example/g01170/impl.at").run Try.prog w = .ok (some false) w := by kernel_rfl
theorem nila1 (n : Nat) (w : World) : (nilAhead (n + 1) 52 (.agg #[]) "loop.example/g01170/impl.at").run Try.prog w = .ok (some false) w := by kernel_rfl
theorem nila2 (n : Nat) (w : World) : (nilAhead (n + 1) 53 (.agg #[]) "loop.example/g01170/impl.at").run Try.prog w = .ok (some false) w := by kernel_rfl
theorem nila3 (n : Nat) (w : World) : (nilAhead (n + 1) 54 (.agg #[]) "loop.example/g01170/impl.at").run Try.prog w = .ok (some false) w := by kernel_rfl
set_option maxHeartbeats 8000000 in
set_option maxRecDepth 100000 in
theorem oscRun_gen (T : TypeId) (F : FuncId) (g : Nat) (K : Int) (s p : Nat) (S P : O) (c : Nat) (w : World) (hm : ∀ n w, (method (n + 1) T (.agg #[]) "loop.example/g01170/impl.at").run Try.prog w = .ok (F, .agg #[]) w)
    (hnil : ∀ n w, (nilAhead (n + 1) T (.agg #[]) "loop.example/g01170/impl.at").run Try.prog w = .ok (some false) w)
    (hent : ∀ args w, (callFunc F args).run Try.prog w = .ok (.enter F args) w) (hat : ∀ q X W, Hid (Fv .f32 q X) → turnB X = true → Calls Try.prog F #[.agg #[], .float .f32 q] W (RetS (wavO K X) W))
    (h : OscO w g ⟨K, s, p⟩) (hs : Hid (Fv .f32 s S)) (hp : Hid (Fv .f32 p P)) (tS : turnB S = true) (tP : turnB P = true) (hc : c ≤ 256) :
    Calls Try.prog 18 #[.pointer (some ⟨g, 0, none⟩), .iface T (.agg #[]), .int .i64 (c : Int)] w fun e w' => ∃ (ys : List Nat) (q : Nat), e = .returned (.slice (some ⟨w.heap.size, 0, none⟩) c c) ∧ Gs 22 w' w.heap.size (some ⟨w.heap.size, 0, none⟩) c ys ∧ Are' c ys (oscY K P S) ∧ Hid (Fv .f32 q (phs P S c)) ∧ OscO w' g ⟨K, s, q⟩ ∧ On g w w' := by
  have H := Lib.hid h
  have hgl := h.lt
  have HAT := Lib.hid hat
  have hmk := fun W => run_make_row' (P := Try.prog) 25 22 (.float .f32 0) 4 Try.underlying25 Try.infoF rfl .i64 .i64 c (by omega) (by omega) W
  clear h hat
  go_enter Try.func18, Try.ntmps18
  go_wp2
  go_loopw [13] (fun i wr => ∃ (k q : Nat) (r : Nat → Nat), k ≤ c ∧ i = .int .i64 k ∧ GCells wr w.heap.size c (partial_ k r) ∧ (∀ j, j < k → Hid (Fv .f32 (r j) (oscY K P S j))) ∧ Hid (Fv .f32 q (phs P S k)) ∧ OscO wr g ⟨K, s, q⟩ ∧ On g w wr) (fun i _ => c - (intOf i).toNat)
  case atStart =>
    have hr := (World.rowIs_made w (.float .f32 0) c 22)
    obtain ⟨cs, hb, _, hc⟩ := hr
    exact ⟨0, p, fun _ => 0, Nat.zero_le _, rfl, ⟨cs, hb, fun j hj => hc j hj⟩, fun j hj => by omega, hp, H.out.of (blk_keep _ hgl), (On.refl g w).alloc (by omega) _⟩
  case round =>
    obtain ⟨k, q, r, hk9, rfl, hcs, hr, hq, hf, hon⟩ := hrel
    have HC := Lib.hid hcs; have HR := Lib.hid hr; have HF := Lib.hid hf; have HON := Lib.hid hon
    have hsz : w.heap.size < wr.heap.size := hcs.lt
    clear hcs hr hf hon
    by_cases hlt : k < c
    · have tk := phs_turn hp hs tP tS k
      have c3 := HF.out.at_.ph
      simp only at c3
      go_wp2_with fail
      go_region_with (first | (refine (HAT.out _ _ _ hq tk).mono ?_; rintro e w1 ⟨z, rfl, hz, hs1⟩; have G1 : GCells w1 w.heap.size c (partial_ k r) := HC.out.keepC (hs1.block _ (by simpa using hsz)); have hc2 := G1.cell hlt; have hf2 := G1.free k))
      all_goals
        have S1 : wr.Since wr.heap.size w1 := ⟨hs1.os, hs1.tape, hs1.output, hs1.size, hs1.block⟩
        have z1 : wr.heap.size ≤ w1.heap.size := S1.size
        have O1 : On g wr w1 := ⟨since_mono S1 (by omega), fun b hb _ => S1.block b hb⟩
        have O2 := Lib.hid ((On.setNew (v := .float .f32 z) (o := k) (HON.out.trans O1) (Nat.le_refl _) (by omega)))
        have HF1 : OscO (w1.setCell ⟨w.heap.size, k, none⟩ (.float .f32 z)) g ⟨K, s, q⟩ := HF.out.of ((Go.Deep.blk_setCell_other _ _ _ _ (show g ≠ w.heap.size by omega)).trans (S1.block g (by omega)))
        have G2 := Lib.hid (G1.set k (.float .f32 z))
        have HAD := Lib.hid (advance_any g K s q S _ _ HF1 hs hq)
        clear hs1 S1 O1 HF1 G1 hc2 hf2
        generalize w1.setCell ⟨w.heap.size, k, none⟩ (.float .f32 z) = w3 at *
        go_wp2_with fail
        refine HAD.out.mono ?_
        rintro e w4 ⟨q2, rfl, hq2, ho2, hon2⟩
        have HO2 := Lib.hid ho2; have HON2 := Lib.hid hon2; clear ho2 hon2
        go_wp2_with fail
        go_roundw
        case rel =>
          refine ⟨k + 1, q2, fun j => if j = k then z else r j, by omega, by go_num, (G2.out.on HON2.out (by omega)).congr (fun j hj => ?_), fun j hj => ?_, hq2, HO2.out, O2.out.trans HON2.out⟩
          · unfold partial_
            dsimp only
            by_cases e : j = k
            · rw [if_pos e, if_pos (by omega), if_pos e]
            · rw [if_neg e, if_neg e]
              by_cases e2 : j < k
              · rw [if_pos e2, if_pos (by omega)]
              · rw [if_neg e2, if_neg (by omega)]
          · show Hid (Fv .f32 (if j = k then z else r j) (oscY K P S j))
            by_cases e : j = k
            · subst e; rw [if_pos rfl]; exact hz
            · rw [if_neg e]; exact HR.out j (by omega)
        case measure => simp [intOf]; omega
    · obtain rfl : k = c := by omega
      go_wp2
      go_ret
      refine ⟨lst k r, q, rfl, ⟨lst_len _ _, fun y hy => ?_, fun _ => ?_⟩, fun i hi => by rw [lst_wd hi]; exact (HR.out i hi).out.2, hq, HF.out, HON.out⟩
      · obtain ⟨i, hi, rfl⟩ := List.mem_map.1 hy
        exact (HR.out i (List.mem_range.1 hi)).out.1
      · obtain ⟨cs, hb, hc⟩ := HC.out
        refine ⟨_, cs, rfl, Nat.le_refl _, hb, fun j hj => ?_⟩
        rw [hc j hj]; unfold partial_ fv; rw [if_pos hj, lst_wd hj]
end Go.Proofs.Ytbjjggelgpomhaa

/- RunOscillator, of both sides. -/
set_option linter.unusedVariables false
set_option linter.unusedSimpArgs false
namespace Go.Proofs.Ytbjjggelgpomhaa
open Fl Go.RowKit
set_option maxRecDepth 100000 in
theorem oscRun_any (g : Nat) (K : Int) (s p : Nat) (S P : O) (c : Nat) (w : World) (h : OscO w g ⟨K, s, p⟩) (hs : Hid (Fv .f32 s S)) (hp : Hid (Fv .f32 p P)) (hk : inB K 0 3 = true) (tS : turnB S = true) (tP : turnB P = true) (hc : c ≤ 256) :
    Calls Try.prog 18 #[.pointer (some ⟨g, 0, none⟩), wavV K, .int .i64 (c : Int)] w fun e w' => ∃ (ys : List Nat) (q : Nat), e = .returned (.slice (some ⟨w.heap.size, 0, none⟩) c c) ∧ Gs 22 w' w.heap.size (some ⟨w.heap.size, 0, none⟩) c ys ∧ Are' c ys (oscY K P S) ∧ Hid (Fv .f32 q (phs P S c)) ∧ OscO w' g ⟨K, s, q⟩ ∧ On g w w' := by
  simp only [inB, Bool.and_eq_true, decide_eq_true_eq] at hk
  have h4 : K = 0 ∨ K = 1 ∨ K = 2 ∨ K = 3 := by omega
  rcases h4 with rfl | rfl | rfl | rfl
  · exact oscRun_gen 51 51 g 0 s p S P c w meth0 nila0 (fun _ _ => rfl) (fun q X W hq ht => at0_any q X W hq ht) h hs hp tS tP hc
  · exact oscRun_gen 52 61 g 1 s p S P c w meth1 nila1 (fun _ _ => rfl) (fun q X W hq ht => at1_any q X W hq) h hs hp tS tP hc
  · exact oscRun_gen 53 62 g 2 s p S P c w meth2 nila2 (fun _ _ => rfl) (fun q X W hq ht => at2_any q X W hq) h hs hp tS tP hc
  · exact oscRun_gen 54 63 g 3 s p S P c w meth3 nila3 (fun _ _ => rfl) (fun q X W hq ht => at3_any q X W hq) h hs hp tS tP hc
theorem implCnt_b (x : Int) (b : Bool) (w : World) (h : inB x 0 256 = b) : Calls Try.prog 17 #[.int .i64 x] w fun e w' => e = .returned (.bool b) ∧ w.Since w.heap.size w' := by
  go_enter Try.func17, Try.ntmps17
  go_wp2_with (go_at_call 26; refine (allowR 0 256 x b _ h).mono ?_; rintro e w' ⟨rfl, rfl⟩)
  go_ret
  exact ⟨rfl, by (repeat (first | (with_reducible refine Fl.sinDrew ?_) | (with_reducible refine World.Since.drew ?_) | (with_reducible refine Fl.sinSet ?_ ?_; rotate_left) | (with_reducible refine Fl.sinAlloc ?_ ?_; rotate_left) | with_reducible exact World.Since.refl _ _ | with_reducible assumption | (with_reducible refine Fl.sinStep (by with_reducible assumption) ?_))); all_goals (first | omega | (simp; done) | (simp; omega) | (simp [go_sem]; done) | (simp [go_sem]; omega))⟩
set_option maxHeartbeats 4000000 in
set_option maxRecDepth 100000 in
theorem implRunOsc_ok (e : OscN) (S P : O) (c : Nat) (w : World) (hs : Hid (Fv .f32 e.st S)) (hp : Hid (Fv .f32 e.ph P)) (h : okOsc e.k S P = true) (hc : inB (c : Int) 0 256 = true) :
    Calls Try.prog 6 #[e.val, .int .i64 (c : Int)] w (PLOB c (oscY e.k P S) e.k S (phs P S c) true w) := by
  obtain ⟨W1, hW1⟩ : ∃ W, W = w.alloc (oscB e) := ⟨_, rfl⟩
  obtain ⟨W2, hW2⟩ : ∃ W, W = W1.alloc (oscB ⟨0, 0, 0⟩) := ⟨_, rfl⟩
  have z1 : W1.heap.size = w.heap.size + 1 := by rw [hW1]; simp
  have z2 : W2.heap.size = w.heap.size + 1 + 1 := by rw [hW2]; simp [z1]
  have f1 : OscO W1 w.heap.size e := by rw [hW1]; exact Go.Deep.blk_alloc_new _ _
  have f2 : OscO W2 (w.heap.size + 1) ⟨0, 0, 0⟩ := by rw [hW2, ← z1]; exact Go.Deep.blk_alloc_new _ _
  have f3 : OscO W2 w.heap.size e := f1.of (by rw [hW2]; exact blk_keep _ (by omega))
  have s2 : w.Since w.heap.size W2 := by rw [hW2, hW1]; exact ((World.Since.refl _ _).alloc (Nat.le_refl _) _).alloc (by simp) _
  have HV := Lib.hid (fun W => implValidOsc_b e S P true W hs hp h)
  obtain ⟨K, s, p⟩ := e
  have hk : inB K 0 3 = true ∧ turnB S = true ∧ turnB P = true := by unfold okOsc at h; simpa [Bool.and_eq_true, and_assoc] using h
  obtain ⟨hk, tS, tP⟩ := hk
  have hcb : c ≤ 256 := by simp only [inB, Bool.and_eq_true, decide_eq_true_eq] at hc; omega
  have HWV := Lib.hid (fun w => waveOf_ok K w hk)
  simp only [OscN.val, oscB] at *
  have HW1 := Lib.hid hW1; have HW2 := Lib.hid hW2; have F3 := Lib.hid f3; have F2 := Lib.hid f2; have SS2 := Lib.hid s2
  have c0 := f3.at_.k; have c1 := f3.at_.st; have c2 := f3.at_.ph
  simp only at c0 c1 c2
  clear hW1 hW2 f1 f2 f3 s2 h
  have HRUN := Lib.hid (fun W hW => oscRun_any w.heap.size K s p S P c W hW hs hp hk tS tP hcb)
  generalize wavV K = VV at HWV HRUN
  have r0 := c0
  rw [HW2.out, HW1.out] at r0
  go_enter Try.func6, Try.ntmps6
  go_wp2_with fail
  rw [← HW1.out, ← HW2.out]
  clear r0
  go_at_call 15
  refine (HWV.out _).mono ?_
  rintro e w' ⟨rfl, rfl⟩
  go_wp2_with fail
  refine (HV.out _).mono ?_
  rintro e w3 ⟨rfl, hs3⟩
  have HS3 := Lib.hid hs3; clear hs3
  go_wp2_with fail
  refine (implCnt_b _ _ _ hc).mono ?_
  rintro e w4 ⟨rfl, hs4⟩
  have S4 : W2.Since W2.heap.size w4 := HS3.out.trans (since_mono hs4 HS3.out.size)
  have z4 := S4.size
  have G1 : OscO w4 w.heap.size ⟨K, s, p⟩ := F3.out.of (S4.block _ (by omega))
  have G2 := Lib.hid (F2.out.of (S4.block _ (by omega)))
  have G3 := Lib.hid (SS2.out.trans (since_mono S4 (by omega)))
  have HR := Lib.hid (HRUN.out w4 G1)
  clear hs4 S4 G1 c0 c1 c2
  go_wp2_with fail
  refine HR.out.mono ?_
  rintro e w5 ⟨ys, q, rfl, hg, hare, h3, h1, ho⟩
  have HG := Lib.hid hg; have HAA := Lib.hid hare; have HO := Lib.hid ho; have HF := Lib.hid h1; have HF2 := Lib.hid (G2.out.of (ho.2 _ (by omega) (by omega)))
  have SO := Lib.hid (G3.out.trans (ho.since (Nat.le_refl _)))
  clear hg hare ho h1
  have c1 := HF.out.at_.k
  have c2 := HF.out.at_.st
  have c3 := HF.out.at_.ph
  have d1 := HF2.out.at_.k
  have d2 := HF2.out.at_.st
  have d3 := HF2.out.at_.ph
  have e0 := fun o => HF2.out.free (o := o)
  simp only at c1 c2 c3 d1 d2 d3
  go_wp2_with fail
  go_region
  all_goals
    have G9 : OscO _ (w.heap.size + 1) ⟨K, s, q⟩ := HF2.out.set3 (k := K) (s := s) (p := q)
    have S9 := ((SO.out.setCell (a := ⟨w.heap.size + 1, 0, none⟩) (by simp) (.int .i64 K)).setCell (a := ⟨w.heap.size + 1, 1, none⟩) (by simp) (.float .f32 s)).setCell (a := ⟨w.heap.size + 1, 2, none⟩) (by simp) (.float .f32 q)
    have O9 : Gs 22 _ w4.heap.size _ c ys := HG.out.onLow (((On.refl (w.heap.size + 1) w5).set 0 (.int .i64 K)).set 1 (.float .f32 s) |>.set 2 (.float .f32 q)) (by omega)
    generalize World.setCell _ _ _ = W9 at *
    have g1 := G9.at_.k
    have g2 := G9.at_.st
    have g3 := G9.at_.ph
    simp only at g1 g2 g3
    have S10 := Lib.hid S9; have O10 := Lib.hid O9; clear S9 O9 d1 d2 d3 c1 c2 c3 e0 G9
    go_wp2
    exact bodyPost_ret (v := .tuple #[.slice (some ⟨w4.heap.size, 0, none⟩) c c, .agg #[.int .i64 K, .float .f32 s, .float .f32 q], .bool true]) (by simp [results, Try.results6, go_sem, g1, g2, g3]) rfl
      ⟨⟨some ⟨w4.heap.size, 0, none⟩, c, ys⟩, c, ⟨K, s, q⟩, rfl, rfl, O10.out.less (by omega), HAA.out, rfl, hs, h3, (by exact since_drewN S10.out 1)⟩
end Go.Proofs.Ytbjjggelgpomhaa

/- RunOscillator: where it refuses; both sides. -/
set_option linter.unusedVariables false
set_option linter.unusedSimpArgs false
namespace Go.Proofs.Ytbjjggelgpomhaa
open Fl Go.RowKit
structure OscV where
  k : Int
  s : O
  p : O
structure FvOsc (d : OscN) (D : OscV) : Prop where
  k : d.k = D.k
  s : Hid (Fv .f32 d.st D.s)
  p : Hid (Fv .f32 d.ph D.p)
def PLZB (n0 : Nat) (f0 : Nat → Option Nat) (D : OscV) (b : Bool) (w : World) (e : Ending) (w' : World) : Prop :=
  ∃ (p : Ls) (c : Nat) (s : OscN), e = .returned (.tuple #[.slice p.A p.n c, s.val, .bool b]) ∧ p.n = n0 ∧ Gs 22 w' w.heap.size p.A p.n p.xs ∧ Are p f0 ∧ FvOsc s D ∧ w.Since w.heap.size w'
theorem PLOB.z {n0 : Nat} {f0 : Nat → Option Nat} {K : Int} {S P : O} {b : Bool} {w w' : World} {e : Ending} (h : PLOB n0 f0 K S P b w e w') : PLZB n0 f0 ⟨K, S, P⟩ b w e w' := by
  obtain ⟨p, c, s, h1, h2, h3, h4, h5, h6, h7, h8⟩ := h
  exact ⟨p, c, s, h1, h2, h3, h4, ⟨h5, h6, h7⟩, h8⟩
def zOsc : OscV := ⟨0, some 0, some 0⟩
theorem PLZB.none_ {w w' : World} (s : w.Since w.heap.size w') (f0 : Nat → Option Nat) : PLZB 0 f0 zOsc false w (.returned (.tuple #[.slice none 0 0, .agg #[.int .i64 0, .float .f32 0, .float .f32 0], .bool false])) w' :=
  ⟨⟨none, 0, []⟩, 0, ⟨0, 0, 0⟩, rfl, rfl, Gs.nil_, (fun k hk => by simp at hk), ⟨rfl, fv0, fv0⟩, s⟩
set_option maxHeartbeats 4000000 in
set_option maxRecDepth 100000 in
theorem specRunOsc_no1 (e : OscN) (S P : O) (x : Int) (w : World) (hs : Hid (Fv .f32 e.st S)) (hp : Hid (Fv .f32 e.ph P)) (h : okOsc e.k S P = false) : Calls Try.prog 4 #[e.val, .int .i64 x] w (PLZB 0 (fun _ => none) zOsc false w) := by
  obtain ⟨W1, hW1⟩ : ∃ W, W = w.alloc (oscB e) := ⟨_, rfl⟩
  obtain ⟨W2, hW2⟩ : ∃ W, W = W1.alloc (oscB ⟨0, 0, 0⟩) := ⟨_, rfl⟩
  have z1 : W1.heap.size = w.heap.size + 1 := by rw [hW1]; simp
  have z2 : W2.heap.size = w.heap.size + 1 + 1 := by rw [hW2]; simp [z1]
  have f1 : OscO W1 w.heap.size e := by rw [hW1]; exact Go.Deep.blk_alloc_new _ _
  have f2 : OscO W2 (w.heap.size + 1) ⟨0, 0, 0⟩ := by rw [hW2, ← z1]; exact Go.Deep.blk_alloc_new _ _
  have f3 : OscO W2 w.heap.size e := f1.of (by rw [hW2]; exact blk_keep _ (by omega))
  have s2 : w.Since w.heap.size W2 := by rw [hW2, hW1]; exact ((World.Since.refl _ _).alloc (Nat.le_refl _) _).alloc (by simp) _
  have HIS := Lib.hid (specIs_b w.heap.size e S P false W2 f3.at_ hs hp h)
  obtain ⟨K, s, p⟩ := e
  simp only [OscN.val, oscB] at *
  have HW1 := Lib.hid hW1; have HW2 := Lib.hid hW2; have F3 := Lib.hid f3; have F2 := Lib.hid f2; have SS2 := Lib.hid s2
  clear hW1 hW2 f1 f2 f3 s2 h
  go_enter Try.func4, Try.ntmps4
  go_wp2_with fail
  rw [← HW1.out, ← HW2.out]
  go_at_call 11
  refine HIS.out.mono ?_
  rintro e w' ⟨rfl, rfl⟩
  have d1 := F2.out.at_.k
  have d2 := F2.out.at_.st
  have d3 := F2.out.at_.ph
  have e0 := fun o => F2.out.free (o := o)
  simp only at d1 d2 d3
  go_wp2
  have G9 : OscO _ (w.heap.size + 1) ⟨0, 0, 0⟩ := F2.out.set3 (k := 0) (s := 0) (p := 0)
  have S9 := ((SS2.out.setCell (a := ⟨w.heap.size + 1, 0, none⟩) (by simp) (.int .i64 0)).setCell (a := ⟨w.heap.size + 1, 1, none⟩) (by simp) (.float .f32 0)).setCell (a := ⟨w.heap.size + 1, 2, none⟩) (by simp) (.float .f32 0)
  generalize World.setCell _ _ _ = W9 at *
  have g1 := G9.at_.k
  have g2 := G9.at_.st
  have g3 := G9.at_.ph
  simp only at g1 g2 g3
  clear d1 d2 d3 e0 G9
  exact bodyPost_ret (v := .tuple #[.slice none 0 0, .agg #[.int .i64 0, .float .f32 0, .float .f32 0], .bool false]) (by simp [results, Try.results4, go_sem, g1, g2, g3]) rfl (PLZB.none_ S9 _)
set_option maxHeartbeats 4000000 in
set_option maxRecDepth 100000 in
theorem specRunOsc_no2 (e : OscN) (S P : O) (x : Int) (w : World) (hs : Hid (Fv .f32 e.st S)) (hp : Hid (Fv .f32 e.ph P)) (h : okOsc e.k S P = true) (hc : inB x 0 256 = false) : Calls Try.prog 4 #[e.val, .int .i64 x] w (PLZB 0 (fun _ => none) zOsc false w) := by
  obtain ⟨W1, hW1⟩ : ∃ W, W = w.alloc (oscB e) := ⟨_, rfl⟩
  obtain ⟨W2, hW2⟩ : ∃ W, W = W1.alloc (oscB ⟨0, 0, 0⟩) := ⟨_, rfl⟩
  have z1 : W1.heap.size = w.heap.size + 1 := by rw [hW1]; simp
  have z2 : W2.heap.size = w.heap.size + 1 + 1 := by rw [hW2]; simp [z1]
  have f1 : OscO W1 w.heap.size e := by rw [hW1]; exact Go.Deep.blk_alloc_new _ _
  have f2 : OscO W2 (w.heap.size + 1) ⟨0, 0, 0⟩ := by rw [hW2, ← z1]; exact Go.Deep.blk_alloc_new _ _
  have f3 : OscO W2 w.heap.size e := f1.of (by rw [hW2]; exact blk_keep _ (by omega))
  have s2 : w.Since w.heap.size W2 := by rw [hW2, hW1]; exact ((World.Since.refl _ _).alloc (Nat.le_refl _) _).alloc (by simp) _
  have HIS := Lib.hid (specIs_b w.heap.size e S P true W2 f3.at_ hs hp h)
  obtain ⟨K, s, p⟩ := e
  simp only [OscN.val, oscB] at *
  have HW1 := Lib.hid hW1; have HW2 := Lib.hid hW2; have F3 := Lib.hid f3; have F2 := Lib.hid f2; have SS2 := Lib.hid s2
  clear hW1 hW2 f1 f2 f3 s2 h
  go_enter Try.func4, Try.ntmps4
  go_wp2_with fail
  rw [← HW1.out, ← HW2.out]
  go_at_call 11
  refine HIS.out.mono ?_
  rintro e w' ⟨rfl, rfl⟩
  go_wp2_with fail
  refine (specCnt_b _ _ _ hc).mono ?_
  rintro e w' ⟨rfl, rfl⟩
  have d1 := F2.out.at_.k
  have d2 := F2.out.at_.st
  have d3 := F2.out.at_.ph
  have e0 := fun o => F2.out.free (o := o)
  simp only at d1 d2 d3
  go_wp2
  have G9 : OscO _ (w.heap.size + 1) ⟨0, 0, 0⟩ := F2.out.set3 (k := 0) (s := 0) (p := 0)
  have S9 := ((SS2.out.setCell (a := ⟨w.heap.size + 1, 0, none⟩) (by simp) (.int .i64 0)).setCell (a := ⟨w.heap.size + 1, 1, none⟩) (by simp) (.float .f32 0)).setCell (a := ⟨w.heap.size + 1, 2, none⟩) (by simp) (.float .f32 0)
  generalize World.setCell _ _ _ = W9 at *
  have g1 := G9.at_.k
  have g2 := G9.at_.st
  have g3 := G9.at_.ph
  simp only at g1 g2 g3
  clear d1 d2 d3 e0 G9
  exact bodyPost_ret (v := .tuple #[.slice none 0 0, .agg #[.int .i64 0, .float .f32 0, .float .f32 0], .bool false]) (by simp [results, Try.results4, go_sem, g1, g2, g3]) rfl (PLZB.none_ S9 _)
set_option maxHeartbeats 4000000 in
set_option maxRecDepth 100000 in
theorem implRunOsc_no0 (e : OscN) (S P : O) (x : Int) (w : World) (hs : Hid (Fv .f32 e.st S)) (hp : Hid (Fv .f32 e.ph P)) (h : inB e.k 0 3 = false) : Calls Try.prog 6 #[e.val, .int .i64 x] w (PLZB 0 (fun _ => none) zOsc false w) := by
  obtain ⟨W1, hW1⟩ : ∃ W, W = w.alloc (oscB e) := ⟨_, rfl⟩
  obtain ⟨W2, hW2⟩ : ∃ W, W = W1.alloc (oscB ⟨0, 0, 0⟩) := ⟨_, rfl⟩
  have z1 : W1.heap.size = w.heap.size + 1 := by rw [hW1]; simp
  have z2 : W2.heap.size = w.heap.size + 1 + 1 := by rw [hW2]; simp [z1]
  have f1 : OscO W1 w.heap.size e := by rw [hW1]; exact Go.Deep.blk_alloc_new _ _
  have f2 : OscO W2 (w.heap.size + 1) ⟨0, 0, 0⟩ := by rw [hW2, ← z1]; exact Go.Deep.blk_alloc_new _ _
  have f3 : OscO W2 w.heap.size e := f1.of (by rw [hW2]; exact blk_keep _ (by omega))
  have s2 : w.Since w.heap.size W2 := by rw [hW2, hW1]; exact ((World.Since.refl _ _).alloc (Nat.le_refl _) _).alloc (by simp) _
  obtain ⟨K, s, p⟩ := e
  simp only [OscN.val, oscB] at *
  have HW1 := Lib.hid hW1; have HW2 := Lib.hid hW2; have F3 := Lib.hid f3; have F2 := Lib.hid f2; have SS2 := Lib.hid s2
  have HWV := Lib.hid (fun w => waveOf_no K w h)
  have c0 := f3.at_.k; have c1 := f3.at_.st; have c2 := f3.at_.ph
  simp only at c0 c1 c2
  clear hW1 hW2 f1 f2 f3 s2 h
  have r0 := c0
  rw [HW2.out, HW1.out] at r0
  go_enter Try.func6, Try.ntmps6
  go_wp2_with fail
  rw [← HW1.out, ← HW2.out]
  clear r0
  go_at_call 15
  refine (HWV.out _).mono ?_
  rintro e w' ⟨rfl, rfl⟩
  have d1 := F2.out.at_.k
  have d2 := F2.out.at_.st
  have d3 := F2.out.at_.ph
  have e0 := fun o => F2.out.free (o := o)
  simp only at d1 d2 d3
  go_wp2
  have G9 : OscO _ (w.heap.size + 1) ⟨0, 0, 0⟩ := F2.out.set3 (k := 0) (s := 0) (p := 0)
  have S9 := ((SS2.out.setCell (a := ⟨w.heap.size + 1, 0, none⟩) (by simp) (.int .i64 0)).setCell (a := ⟨w.heap.size + 1, 1, none⟩) (by simp) (.float .f32 0)).setCell (a := ⟨w.heap.size + 1, 2, none⟩) (by simp) (.float .f32 0)
  generalize World.setCell _ _ _ = W9 at *
  have g1 := G9.at_.k
  have g2 := G9.at_.st
  have g3 := G9.at_.ph
  simp only at g1 g2 g3
  clear d1 d2 d3 e0 G9
  exact bodyPost_ret (v := .tuple #[.slice none 0 0, .agg #[.int .i64 0, .float .f32 0, .float .f32 0], .bool false]) (by simp [results, Try.results6, go_sem, g1, g2, g3]) rfl (PLZB.none_ S9 _)
set_option maxHeartbeats 4000000 in
set_option maxRecDepth 100000 in
theorem implRunOsc_no1 (e : OscN) (S P : O) (x : Int) (w : World) (hs : Hid (Fv .f32 e.st S)) (hp : Hid (Fv .f32 e.ph P)) (hk : inB e.k 0 3 = true) (h : okOsc e.k S P = false) : Calls Try.prog 6 #[e.val, .int .i64 x] w (PLZB 0 (fun _ => none) zOsc false w) := by
  obtain ⟨W1, hW1⟩ : ∃ W, W = w.alloc (oscB e) := ⟨_, rfl⟩
  obtain ⟨W2, hW2⟩ : ∃ W, W = W1.alloc (oscB ⟨0, 0, 0⟩) := ⟨_, rfl⟩
  have z1 : W1.heap.size = w.heap.size + 1 := by rw [hW1]; simp
  have z2 : W2.heap.size = w.heap.size + 1 + 1 := by rw [hW2]; simp [z1]
  have f1 : OscO W1 w.heap.size e := by rw [hW1]; exact Go.Deep.blk_alloc_new _ _
  have f2 : OscO W2 (w.heap.size + 1) ⟨0, 0, 0⟩ := by rw [hW2, ← z1]; exact Go.Deep.blk_alloc_new _ _
  have f3 : OscO W2 w.heap.size e := f1.of (by rw [hW2]; exact blk_keep _ (by omega))
  have s2 : w.Since w.heap.size W2 := by rw [hW2, hW1]; exact ((World.Since.refl _ _).alloc (Nat.le_refl _) _).alloc (by simp) _
  have HV := Lib.hid (fun W => implValidOsc_b e S P false W hs hp h)
  obtain ⟨K, s, p⟩ := e
  simp only [OscN.val, oscB] at *
  have HW1 := Lib.hid hW1; have HW2 := Lib.hid hW2; have F3 := Lib.hid f3; have F2 := Lib.hid f2; have SS2 := Lib.hid s2
  have HWV := Lib.hid (fun w => waveOf_ok K w hk)
  generalize wavV K = VV at HWV
  have c0 := f3.at_.k; have c1 := f3.at_.st; have c2 := f3.at_.ph
  simp only at c0 c1 c2
  clear hW1 hW2 f1 f2 f3 s2 h
  have r0 := c0
  rw [HW2.out, HW1.out] at r0
  go_enter Try.func6, Try.ntmps6
  go_wp2_with fail
  rw [← HW1.out, ← HW2.out]
  clear r0
  go_at_call 15
  refine (HWV.out _).mono ?_
  rintro e w' ⟨rfl, rfl⟩
  go_wp2_with fail
  refine (HV.out _).mono ?_
  rintro e w3 ⟨rfl, hs3⟩
  have z3 := hs3.size
  have G2 := Lib.hid (F2.out.of (hs3.block _ (by omega)))
  have G3 := Lib.hid (SS2.out.trans (since_mono hs3 (by omega)))
  clear hs3 c0 c1 c2
  have d1 := G2.out.at_.k
  have d2 := G2.out.at_.st
  have d3 := G2.out.at_.ph
  have e0 := fun o => G2.out.free (o := o)
  simp only at d1 d2 d3
  go_wp2
  have G9 : OscO _ (w.heap.size + 1) ⟨0, 0, 0⟩ := G2.out.set3 (k := 0) (s := 0) (p := 0)
  have S9 := ((G3.out.setCell (a := ⟨w.heap.size + 1, 0, none⟩) (by simp) (.int .i64 0)).setCell (a := ⟨w.heap.size + 1, 1, none⟩) (by simp) (.float .f32 0)).setCell (a := ⟨w.heap.size + 1, 2, none⟩) (by simp) (.float .f32 0)
  generalize World.setCell _ _ _ = W9 at *
  have g1 := G9.at_.k
  have g2 := G9.at_.st
  have g3 := G9.at_.ph
  simp only at g1 g2 g3
  clear d1 d2 d3 e0 G9
  exact bodyPost_ret (v := .tuple #[.slice none 0 0, .agg #[.int .i64 0, .float .f32 0, .float .f32 0], .bool false]) (by simp [results, Try.results6, go_sem, g1, g2, g3]) rfl (PLZB.none_ S9 _)
set_option maxHeartbeats 4000000 in
set_option maxRecDepth 100000 in
theorem implRunOsc_no2 (e : OscN) (S P : O) (x : Int) (w : World) (hs : Hid (Fv .f32 e.st S)) (hp : Hid (Fv .f32 e.ph P)) (hk : inB e.k 0 3 = true) (h : okOsc e.k S P = true) (hc : inB x 0 256 = false) : Calls Try.prog 6 #[e.val, .int .i64 x] w (PLZB 0 (fun _ => none) zOsc false w) := by
  obtain ⟨W1, hW1⟩ : ∃ W, W = w.alloc (oscB e) := ⟨_, rfl⟩
  obtain ⟨W2, hW2⟩ : ∃ W, W = W1.alloc (oscB ⟨0, 0, 0⟩) := ⟨_, rfl⟩
  have z1 : W1.heap.size = w.heap.size + 1 := by rw [hW1]; simp
  have z2 : W2.heap.size = w.heap.size + 1 + 1 := by rw [hW2]; simp [z1]
  have f1 : OscO W1 w.heap.size e := by rw [hW1]; exact Go.Deep.blk_alloc_new _ _
  have f2 : OscO W2 (w.heap.size + 1) ⟨0, 0, 0⟩ := by rw [hW2, ← z1]; exact Go.Deep.blk_alloc_new _ _
  have f3 : OscO W2 w.heap.size e := f1.of (by rw [hW2]; exact blk_keep _ (by omega))
  have s2 : w.Since w.heap.size W2 := by rw [hW2, hW1]; exact ((World.Since.refl _ _).alloc (Nat.le_refl _) _).alloc (by simp) _
  have HV := Lib.hid (fun W => implValidOsc_b e S P true W hs hp h)
  obtain ⟨K, s, p⟩ := e
  simp only [OscN.val, oscB] at *
  have HW1 := Lib.hid hW1; have HW2 := Lib.hid hW2; have F3 := Lib.hid f3; have F2 := Lib.hid f2; have SS2 := Lib.hid s2
  have HWV := Lib.hid (fun w => waveOf_ok K w hk)
  generalize wavV K = VV at HWV
  have c0 := f3.at_.k; have c1 := f3.at_.st; have c2 := f3.at_.ph
  simp only at c0 c1 c2
  clear hW1 hW2 f1 f2 f3 s2 h
  have r0 := c0
  rw [HW2.out, HW1.out] at r0
  go_enter Try.func6, Try.ntmps6
  go_wp2_with fail
  rw [← HW1.out, ← HW2.out]
  clear r0
  go_at_call 15
  refine (HWV.out _).mono ?_
  rintro e w' ⟨rfl, rfl⟩
  go_wp2_with fail
  refine (HV.out _).mono ?_
  rintro e w3 ⟨rfl, hs3⟩
  have HS3 := Lib.hid hs3; clear hs3
  go_wp2_with fail
  refine (implCnt_b _ _ _ hc).mono ?_
  rintro e w4 ⟨rfl, hs4⟩
  have S4 : W2.Since W2.heap.size w4 := HS3.out.trans (since_mono hs4 HS3.out.size)
  have z4 := S4.size
  have G2 := Lib.hid (F2.out.of (S4.block _ (by omega)))
  have G3 := Lib.hid (SS2.out.trans (since_mono S4 (by omega)))
  clear hs4 S4 c0 c1 c2
  have d1 := G2.out.at_.k
  have d2 := G2.out.at_.st
  have d3 := G2.out.at_.ph
  have e0 := fun o => G2.out.free (o := o)
  simp only at d1 d2 d3
  go_wp2
  have G9 : OscO _ (w.heap.size + 1) ⟨0, 0, 0⟩ := G2.out.set3 (k := 0) (s := 0) (p := 0)
  have S9 := ((G3.out.setCell (a := ⟨w.heap.size + 1, 0, none⟩) (by simp) (.int .i64 0)).setCell (a := ⟨w.heap.size + 1, 1, none⟩) (by simp) (.float .f32 0)).setCell (a := ⟨w.heap.size + 1, 2, none⟩) (by simp) (.float .f32 0)
  generalize World.setCell _ _ _ = W9 at *
  have g1 := G9.at_.k
  have g2 := G9.at_.st
  have g3 := G9.at_.ph
  simp only at g1 g2 g3
  clear d1 d2 d3 e0 G9
  exact bodyPost_ret (v := .tuple #[.slice none 0 0, .agg #[.int .i64 0, .float .f32 0, .float .f32 0], .bool false]) (by simp [results, Try.results6, go_sem, g1, g2, g3]) rfl (PLZB.none_ S9 _)
theorem okOsc_kind {k : Int} {S P : O} (h : inB k 0 3 = false) : okOsc k S P = false := by unfold okOsc; rw [h]; rfl
theorem implRunOsc_no (e : OscN) (S P : O) (x : Int) (w : World) (hs : Hid (Fv .f32 e.st S)) (hp : Hid (Fv .f32 e.ph P)) (h : okRunO e.k S P x = false) : Calls Try.prog 6 #[e.val, .int .i64 x] w (PLZB 0 (fun _ => none) zOsc false w) := by
  cases hk : inB e.k 0 3
  · exact implRunOsc_no0 e S P x w hs hp hk
  cases ho : okOsc e.k S P
  · exact implRunOsc_no1 e S P x w hs hp hk ho
  · exact implRunOsc_no2 e S P x w hs hp hk ho (by unfold okRunO at h; rw [ho] at h; exact h)
theorem specRunOsc_no (e : OscN) (S P : O) (x : Int) (w : World) (hs : Hid (Fv .f32 e.st S)) (hp : Hid (Fv .f32 e.ph P)) (h : okRunO e.k S P x = false) : Calls Try.prog 4 #[e.val, .int .i64 x] w (PLZB 0 (fun _ => none) zOsc false w) := by
  cases ho : okOsc e.k S P
  · exact specRunOsc_no1 e S P x w hs hp ho
  · exact specRunOsc_no2 e S P x w hs hp ho (by unfold okRunO at h; rw [ho] at h; exact h)
set_option maxHeartbeats 1000000 in
theorem eqOscillator_any (f g : OscN) (D : OscV) (w : World) (hf : FvOsc f D) (hg : FvOsc g D) :
    Calls Try.prog 8 #[f.val, g.val] w fun e w' => e = .returned (.bool true) ∧ w.Since w.heap.size w' := by
  obtain ⟨b0, b1, b2⟩ := f
  obtain ⟨c0, c1, c2⟩ := g
  obtain ⟨m0, m1, m2⟩ := hf
  obtain ⟨n0, n1, n2⟩ := hg
  simp only at m0 m1 m2 n0 n1 n2
  have hkk : b0 = c0 := m0.trans n0.symm
  subst hkk
  clear m0 n0
  unfold OscN.val
  go_enter Try.func8, Try.ntmps8
  go_wp2_with (first | (with_reducible_and_instances refine Lo.wpList_wi _ rfl _ _ _ rfl _ _ rfl (by kernel_rfl) (by kernel_rfl) (by assumption) ?_; intro rr nn hrr) | (go_at_call 19; refine (sameFloat_any _ _ _ _ (by assumption : Hid _) (by assumption : Hid _)).mono ?_; rintro e w' ⟨rfl, n1, rfl⟩))
  go_ret
  exact ⟨rfl, by (repeat (first | (with_reducible refine Fl.sinDrew ?_) | (with_reducible refine World.Since.drew ?_) | (with_reducible refine Fl.sinSet ?_ ?_; rotate_left) | (with_reducible refine Fl.sinAlloc ?_ ?_; rotate_left) | with_reducible exact World.Since.refl _ _ | with_reducible assumption | (with_reducible refine Fl.sinStep (by with_reducible assumption) ?_))); all_goals (first | omega | (simp; done) | (simp; omega) | (simp [go_sem]; done) | (simp [go_sem]; omega))⟩
end Go.Proofs.Ytbjjggelgpomhaa

/- What a law holds: entries, each with the blocks it lies in, apart from one another. Lists of floats and of integers anywhere in a block. -/
set_option linter.unusedVariables false
set_option linter.unusedSimpArgs false
namespace Go.Proofs.Ytbjjggelgpomhaa
namespace Fl
/-- an entry: what it says of a world, and the blocks that it speaks of -/
structure En where
  P : World → Prop
  S : Nat → Prop
/-- it lies in blocks of the law's own, from B on, and speaks of these alone -/
def Ge (B : Nat) (w : World) (e : En) : Prop := e.P w ∧ (∀ w w' : World, (∀ g, e.S g → w'.heap[g]? = w.heap[g]?) → e.P w → e.P w') ∧ ∀ g, e.S g → B ≤ g ∧ g < w.heap.size
section
variable {B : Nat} {v v' : World} {p q : En} {r : List En}
theorem Ge.keep (h : Ge B v p) (hs : ∀ g, p.S g → v'.heap[g]? = v.heap[g]?) (hz : v.heap.size ≤ v'.heap.size) : Ge B v' p :=
  ⟨h.2.1 v v' hs h.1, h.2.1, fun g hg => ⟨(h.2.2 g hg).1, Nat.lt_of_lt_of_le (h.2.2 g hg).2 hz⟩⟩
theorem Ge.since (h : Ge B v p) (hs : v.Since v.heap.size v') : Ge B v' p := h.keep (fun g hg => hs.block g (h.2.2 g hg).2) hs.size
theorem Ge.less {b : Nat} (h : Ge B v p) (hb : b ≤ B) : Ge b v p := ⟨h.1, h.2.1, fun g hg => ⟨Nat.le_trans hb (h.2.2 g hg).1, (h.2.2 g hg).2⟩⟩
/-- two entries lie in different blocks -/
def De (p q : En) : Prop := ∀ g, p.S g → q.S g → False
theorem De.symm (h : De p q) : De q p := fun g a b => h g b a
def He (B : Nat) (v : World) : List En → Prop
  | [] => True
  | p :: r => (Ge B v p ∧ ∀ q ∈ r, De p q) ∧ He B v r
theorem He.at_ : ∀ {r : List En} (h : He B v r) {p : En}, p ∈ r → Ge B v p
  | _ :: _, h, _, .head _ => h.1.1
  | _ :: _, h, _, .tail _ hp => He.at_ h.2 hp
theorem He.since : ∀ {r : List En} (h : He B v r) (hs : v.Since v.heap.size v'), He B v' r
  | [], _, _ => trivial
  | _ :: _, h, hs => ⟨⟨h.1.1.since hs, h.1.2⟩, He.since h.2 hs⟩
theorem He.less {b : Nat} : ∀ {r : List En} (h : He B v r) (hb : b ≤ B), He b v r
  | [], _, _ => trivial
  | _ :: _, h, hb => ⟨⟨h.1.1.less hb, h.1.2⟩, He.less h.2 hb⟩
theorem He.new (h : He B v r) (hs : v.Since v.heap.size v') (g : Ge v.heap.size v' p) (hB : B ≤ v.heap.size) : He B v' (p :: r) :=
  ⟨⟨g.less hB, fun q hq b h1 h2 => by
    have h3 := (g.2.2 b h1).1
    have h4 := ((h.at_ hq).2.2 b h2).2
    omega⟩, h.since hs⟩
theorem He.new2 (h : He B v r) (hs : v.Since v.heap.size v') (g : Ge v.heap.size v' p) (k : Ge v.heap.size v' q) (hd : De p q) (hB : B ≤ v.heap.size) : He B v' (p :: q :: r) := by
  have h1 := h.new hs g hB
  have h2 := h.new hs k hB
  refine ⟨⟨h1.1.1, fun s hs => ?_⟩, h2⟩
  rcases List.mem_cons.1 hs with rfl | hs
  · exact hd
  · exact h1.1.2 s hs
theorem He.mark_hd {p' : En} (h : He B v (p :: r)) (g : Ge B v' p') (hS : p'.S = p.S) (ho : ∀ g, ¬ p.S g → v'.heap[g]? = v.heap[g]?) (hz : v.heap.size ≤ v'.heap.size) : He B v' (p' :: r) := by
  refine ⟨⟨g, fun q hq b h1 h2 => h.1.2 q hq b (hS ▸ h1) h2⟩, ?_⟩
  have hd := h.1.2
  have ht := h.2
  clear h
  induction r with
  | nil => trivial
  | cons q r ih =>
    refine ⟨⟨?_, ht.1.2⟩, ih (fun q' hq' => hd q' (.tail _ hq')) ht.2⟩
    exact ht.1.1.keep (fun b hb => ho b fun hp => hd q (.head _) b hp hb) hz
theorem He.swap (h : He B v (p :: q :: r)) : He B v (q :: p :: r) := by
  obtain ⟨⟨h1, h2⟩, ⟨h3, h4⟩, h5⟩ := h
  refine ⟨⟨h3, fun s hs => ?_⟩, ⟨h1, fun s hs => h2 s (.tail _ hs)⟩, h5⟩
  rcases List.mem_cons.1 hs with rfl | hs
  · exact (h2 q (.head _)).symm
  · exact h4 s hs
theorem He.front {l : List En} : ∀ (k : List En), He B v (k ++ p :: l) → He B v (p :: (k ++ l))
  | [], h => h
  | q :: k, h => by
    have h2 : He B v (p :: (k ++ l)) := He.front k h.2
    have h3 : He B v (q :: p :: (k ++ l)) := ⟨⟨h.1.1, fun s hs => h.1.2 s (by
      rcases List.mem_cons.1 hs with rfl | hs
      · simp
      · rcases List.mem_append.1 hs with h4 | h4
        · simp [h4]
        · simp [h4])⟩, h2⟩
    exact h3.swap
end
/-- cells of one block: their type, where they begin, how many, what they are -/
def ce (T : TypeId) (A : Option Addr) (n : Nat) (f : Nat → Value) (ok : Prop) : En :=
  ⟨fun w => ok ∧ (0 < n → ∃ g off cs, A = some ⟨g, off, none⟩ ∧ w.heap[g]? = some (.cells cs T (0, 0)) ∧ ∀ k, k < n → cs[off + k]? = some (f k)), fun g => 0 < n ∧ ∃ off, A = some ⟨g, off, none⟩⟩
theorem ce_frame {T : TypeId} {A : Option Addr} {n : Nat} {f : Nat → Value} {ok : Prop} (w w' : World) (h : ∀ g, (ce T A n f ok).S g → w'.heap[g]? = w.heap[g]?) (hp : (ce T A n f ok).P w) : (ce T A n f ok).P w' :=
  ⟨hp.1, fun hn => by
    obtain ⟨g, off, cs, e, hb, hc⟩ := hp.2 hn
    exact ⟨g, off, cs, e, (h g ⟨hn, off, e⟩).trans hb, hc⟩⟩
theorem ce_ge {T : TypeId} {A : Option Addr} {n B : Nat} {f : Nat → Value} {ok : Prop} {w : World} (ho : ok) (h : 0 < n → ∃ g off cs, A = some ⟨g, off, none⟩ ∧ B ≤ g ∧ w.heap[g]? = some (.cells cs T (0, 0)) ∧ ∀ k, k < n → cs[off + k]? = some (f k)) : Ge B w (ce T A n f ok) :=
  ⟨⟨ho, fun hn => by obtain ⟨g, off, cs, e, _, hb, hc⟩ := h hn; exact ⟨g, off, cs, e, hb, hc⟩⟩, ce_frame, fun g ⟨hn, off, e⟩ => by
    obtain ⟨g', off', cs, e', hB, hb, hc⟩ := h hn
    rw [e] at e'
    injection e' with e'
    injection e' with e' _ _
    subst e'
    exact ⟨hB, (Array.getElem?_eq_some_iff.1 hb).1⟩⟩
theorem Ge.ce {T : TypeId} {A : Option Addr} {n B : Nat} {f : Nat → Value} {ok : Prop} {w : World} (h : Ge B w (ce T A n f ok)) (hn : 0 < n) : ∃ g off cs, A = some ⟨g, off, none⟩ ∧ B ≤ g ∧ g < w.heap.size ∧ w.heap[g]? = some (.cells cs T (0, 0)) ∧ ∀ k, k < n → cs[off + k]? = some (f k) := by
  obtain ⟨g, off, cs, e, hb, hc⟩ := h.1.2 hn
  have := h.2.2 g ⟨hn, off, e⟩
  exact ⟨g, off, cs, e, this.1, this.2, hb, hc⟩
def fe (A : Option Addr) (n : Nat) (xs : List Nat) : En := ce 22 A n (fv xs) (xs.length = n ∧ Small xs)
def ie (A : Option Addr) (n : Nat) (xs : List Int) : En := ce 2 A n (iv xs) (xs.length = n)
theorem Gs.toE {w : World} {lo n : Nat} {A : Option Addr} {xs : List Nat} (h : Gs 22 w lo A n xs) : Ge lo w (fe A n xs) :=
  ce_ge ⟨h.1, h.2.1⟩ fun hn => by
    obtain ⟨g, cs, e, hg, hb, hc⟩ := h.2.2 hn
    exact ⟨g, 0, cs, e, hg, hb, fun k hk => by rw [Nat.zero_add]; exact hc k hk⟩
theorem IGs.toE {w : World} {lo n : Nat} {A : Option Addr} {xs : List Int} (h : IGs 2 w lo A n xs) : Ge lo w (ie A n xs) :=
  ce_ge h.1 fun hn => by
    obtain ⟨g, cs, e, hg, hb, hc⟩ := h.2 hn
    exact ⟨g, 0, cs, e, hg, hb, fun k hk => by rw [Nat.zero_add]; exact hc k hk⟩
theorem Ge.readF {w : World} {lo n : Nat} {A : Option Addr} {xs : List Nat} (h : Ge lo w (fe A n xs)) : Fs w w.heap.size A n xs :=
  ⟨h.1.1.1, h.1.1.2, fun hn => by
    obtain ⟨g, off, cs, e, hg, hl, hb, hc⟩ := h.ce hn
    refine ⟨g, off, e, hl, fun k hk => ?_⟩
    simp only [World.cell?, hb]
    simpa using hc k hk⟩
theorem Ge.readI {w : World} {lo n : Nat} {A : Option Addr} {xs : List Int} (h : Ge lo w (ie A n xs)) : Is w w.heap.size A n xs :=
  ⟨h.1.1, fun hn => by
    obtain ⟨g, off, cs, e, hg, hl, hb, hc⟩ := h.ce hn
    refine ⟨g, off, e, hl, fun k hk => ?_⟩
    simp only [World.cell?, hb]
    simpa using hc k hk⟩
end Fl
open Fl Go.RowKit
set_option maxHeartbeats 4000000 in
/-- a loop that marks cells one by one, whatever their kind -/
theorem markFE_any (A : Option Addr) (n : Nat) (xs : List Nat) (c k0 : Nat) (K : Int) (v : World) (B : Nat) (r : List En) (h : He B v (fe A n xs :: r)) (hn : n ≤ 1048576) (hk0 : k0 ≤ 1073741824) (hK : K = (k0 : Nat)) :
    Calls Try.prog 9 #[.slice A n c, .int .i64 K] v fun e v' => e = .returned (.int .i64 ((k0 + n : Nat) : Int)) ∧ He B v' (fe A n (mk k0 n) :: r) ∧ v.Since B v' := by
  subst hK
  by_cases hpos : 0 < n
  · obtain ⟨g, off, cs, rfl, hg, hgl, hb, hc⟩ := h.1.1.ce hpos
    have HB := Lib.hid hb
    have HC := Lib.hid hc
    have HH := Lib.hid h
    clear hb hc h
    go_enter Try.func9, Try.ntmps9
    go_wp2
    go_loopw [1, 5] (fun kv i wr => ∃ k : Nat, k ≤ n ∧ i = .int .i64 k ∧ kv = .int .i64 (k0 + k : Nat) ∧ (∃ cs', wr.heap[g]? = some (.cells cs' 22 (0, 0)) ∧ ∀ j, j < n → cs'[off + j]? = some (marked k0 xs k j)) ∧ wr.heap.size = v.heap.size ∧ v.Since B wr ∧ (∀ b, b ≠ g → wr.heap[b]? = v.heap[b]?)) (fun _ i _ => n - (intOf i).toNat)
    case atStart => exact ⟨0, Nat.zero_le _, rfl, rfl, ⟨cs, HB.out, fun j hj => by unfold marked; rw [if_neg (by omega)]; exact HC.out j hj⟩, rfl, World.Since.refl _ _, fun _ _ => rfl⟩
    case round =>
      obtain ⟨k, hk, rfl, rfl, ⟨cs', hb', hc'⟩, hsz, hs, hoth⟩ := hrel
      have HB' := Lib.hid hb'
      have HC' := Lib.hid hc'
      have HZ := Lib.hid hsz
      have HS := Lib.hid hs
      have HO := Lib.hid hoth
      clear hb' hc' hsz hs hoth
      by_cases hlt : k < n
      · have hcell : wr.cell? ⟨g, off + k, none⟩ = some (marked k0 xs k k) := by
          simp only [World.cell?, HB'.out]
          simpa using HC'.out k hlt
        have hfr : wr.frozen? ⟨g, off + k, none⟩ = false := by simp [World.frozen?, HB'.out]
        go_wp2
        go_roundw
        case rel =>
          refine ⟨k + 1, by omega, by go_num, by go_num, ⟨cs'.setIfInBounds (off + k) (.float .f32 (floatOfInt .f32 ((k0 + k : Nat) : Int))), ?_, fun j hj => ?_⟩, by rw [Go.Deep.nblk_setCell]; exact HZ.out, HS.out.setCell hg _, fun b hb => ?_⟩
          · simp [World.setCell, Array.getElem?_modify, HB'.out]
          · rw [Array.getElem?_setIfInBounds]
            have hsz2 : off + j < cs'.size := (Array.getElem?_eq_some_iff.1 (HC'.out j hj)).1
            by_cases e : k = j
            · subst e
              rw [if_pos rfl, if_pos hsz2]
              unfold marked; rw [if_pos (by omega)]
            · rw [if_neg (by omega), HC'.out j hj]
              unfold marked
              by_cases e2 : j < k
              · rw [if_pos e2, if_pos (by omega)]
              · rw [if_neg e2, if_neg (by omega)]
          · rw [Go.Deep.blk_setCell_other _ _ _ _ hb]
            exact HO.out b hb
        case measure => simp [intOf]; omega
      · obtain rfl : k = n := by omega
        go_wp2
        go_ret
        refine ⟨rfl, HH.out.mark_hd (ce_ge ⟨mk_len _ _, mk_small _ _⟩ fun _ => ⟨g, off, cs', rfl, hg, HB'.out, fun j hj => ?_⟩) rfl (fun b hb => HO.out b fun e => hb ⟨hpos, off, by rw [e]⟩) (by rw [HZ.out]; exact Nat.le_refl _), HS.out⟩
        rw [HC'.out j hj]
        unfold marked fv; rw [if_pos hj, mk_wd hj]
  · obtain rfl : n = 0 := by omega
    have HH := Lib.hid h
    clear h
    go_enter Try.func9, Try.ntmps9
    go_wp2
    go_loopw [1, 5] (fun kv i wr => i = .int .i64 0 ∧ kv = .int .i64 k0 ∧ wr = v) (fun _ _ _ => 0)
    case atStart => exact ⟨rfl, rfl, rfl⟩
    case round =>
      obtain ⟨rfl, rfl, rfl⟩ := hrel
      go_wp2
      go_ret
      exact ⟨rfl, HH.out.mark_hd (ce_ge ⟨rfl, (fun x hx => by cases hx)⟩ (fun h => by omega)) (funext fun g => by simp [fe, ce]) (fun _ _ => rfl) (Nat.le_refl _), World.Since.refl _ _⟩
theorem heldFE_any (A : Option Addr) (n c k0 : Nat) (K : Int) (v : World) (lo : Nat) (h : Ge lo v (fe A n (mk k0 n))) (hn : n ≤ 1048576) (hk0 : k0 ≤ 1073741824) (hK : K = (k0 : Nat)) :
    Calls Try.prog 10 #[.slice A n c, .int .i64 K] v fun e v' => e = .returned (.int .i64 ((k0 + n : Nat) : Int)) ∧ v = v' := by
  subst hK
  exact heldF_any A n c k0 v _ h.readF hn hk0
end Go.Proofs.Ytbjjggelgpomhaa

/- Boxes of a law; two lists given back. -/
set_option linter.unusedVariables false
set_option linter.unusedSimpArgs false
namespace Go.Proofs.Ytbjjggelgpomhaa
open Fl Go.RowKit
/-- a struct in a box of its own -/
def bxv (T : TypeId) (g : Nat) (vs : List Value) : En := ⟨fun w => w.heap[g]? = some (.cells vs.toArray T (0, 0)), fun b => b = g⟩
def bxf (T : TypeId) (g : Nat) (xs : List Nat) : En := bxv T g (xs.map fun x => Value.float .f32 x)
theorem Fl.Ge.boxv {w : World} {T : TypeId} {lo g : Nat} {vs : List Value} (h : Ge lo w (bxv T g vs)) (i : Nat) (v : Value) (hi : vs[i]? = some v) : w.cell? ⟨g, i, none⟩ = some v := by
  have h1 : w.heap[g]? = some (.cells vs.toArray T (0, 0)) := h.1
  simp only [World.cell?, h1]
  simpa using hi
theorem Fl.Ge.box {w : World} {T : TypeId} {lo g : Nat} {xs : List Nat} (h : Ge lo w (bxf T g xs)) (i : Nat) (hi : i < xs.length) : w.cell? ⟨g, i, none⟩ = some (.float .f32 (wd xs i)) :=
  Ge.boxv h i _ (by rw [List.getElem?_map, List.getElem?_eq_getElem hi]; simp [wd, List.getD_eq_getElem?_getD, List.getElem?_eq_getElem hi])
theorem boxv_ge (v : World) (T : TypeId) (vs : List Value) : Ge v.heap.size (v.alloc (.cells vs.toArray T)) (bxv T v.heap.size vs) :=
  ⟨Go.Deep.blk_alloc_new _ _, fun w w' h hp => (h _ rfl).trans hp, fun g hg => by
    have hg' : g = v.heap.size := hg
    subst hg'
    exact ⟨Nat.le_refl _, by simp⟩⟩
theorem boxw (v : World) (T : TypeId) (vs : List Value) : ∃ V, V = v.alloc (.cells vs.toArray T) ∧ v.Since v.heap.size V ∧ Ge v.heap.size V (bxv T v.heap.size vs) :=
  ⟨_, rfl, (World.Since.refl _ _).alloc (Nat.le_refl _) _, boxv_ge v T vs⟩
theorem boxe (v : World) (T : TypeId) (xs : List Nat) : ∃ V, V = v.alloc (.cells (xs.map fun x => Value.float .f32 x).toArray T) ∧ v.Since v.heap.size V ∧ Ge v.heap.size V (bxf T v.heap.size xs) :=
  boxw v T _
def PEB (n0 : Nat) (f0 : Nat → O) (b : Bool) (w : World) (e : Ending) (w' : World) : Prop :=
  ∃ (p : Ls) (c : Nat), e = .returned (.tuple #[.slice p.A p.n c, .bool b]) ∧ p.n = n0 ∧ Ge w.heap.size w' (fe p.A p.n p.xs) ∧ Are p f0 ∧ w.Since w.heap.size w'
theorem PEB.none_ {w w' : World} (s : w.Since w.heap.size w') (f0 : Nat → O) : PEB 0 f0 false w (.returned (.tuple #[.slice none 0 0, .bool false])) w' :=
  ⟨⟨none, 0, []⟩, 0, rfl, rfl, Gs.nil_.toE, (fun k hk => by simp at hk), s⟩
theorem PLB.toE {n0 : Nat} {f0 : Nat → O} {b : Bool} {w w' : World} {e : Ending} (h : PLB n0 f0 b w e w') : PEB n0 f0 b w e w' := by
  obtain ⟨p, c, h1, h2, h3, h4, h5⟩ := h
  exact ⟨p, c, h1, h2, h3.toE, h4, h5⟩
/-- two lists and a yes or no -/
def PEEB (n0 : Nat) (f0 : Nat → O) (n1 : Nat) (f1 : Nat → O) (b : Bool) (w : World) (e : Ending) (w' : World) : Prop :=
  ∃ (p q : Ls) (c d : Nat), e = .returned (.tuple #[.slice p.A p.n c, .slice q.A q.n d, .bool b]) ∧ p.n = n0 ∧ q.n = n1 ∧ Ge w.heap.size w' (fe p.A p.n p.xs) ∧ Ge w.heap.size w' (fe q.A q.n q.xs) ∧ Are p f0 ∧ Are q f1 ∧ De (fe p.A p.n p.xs) (fe q.A q.n q.xs) ∧ w.Since w.heap.size w'
theorem PEEB.none_ {w w' : World} (s : w.Since w.heap.size w') (f0 f1 : Nat → O) : PEEB 0 f0 0 f1 false w (.returned (.tuple #[.slice none 0 0, .slice none 0 0, .bool false])) w' :=
  ⟨⟨none, 0, []⟩, ⟨none, 0, []⟩, 0, 0, rfl, rfl, rfl, Gs.nil_.toE, Gs.nil_.toE, (fun k hk => by simp at hk), (fun k hk => by simp at hk), (fun g h _ => by simp [fe, ce] at h), s⟩
end Go.Proofs.Ytbjjggelgpomhaa

/- Walks of laws whose arguments or results are lists. -/
set_option linter.unusedVariables false
set_option linter.unusedSimpArgs false
namespace Go.Proofs.Ytbjjggelgpomhaa
open Fl Go.RowKit
set_option maxHeartbeats 16000000 in
set_option maxRecDepth 100000 in
theorem lawRunOscillator_gen (a0 : OscN) (a1 : Int) (rn0 : Nat) (rf0 : Nat → Option Nat) (rs1 : OscV) (rb2 : Bool) (w : World)
     (hr0 : rn0 ≤ 1048576)
    (hsp : ∀ (v : World) (_ : Unit), Calls Try.prog 4 #[a0.val, .int .i64 a1] v (PLZB rn0 rf0 rs1 rb2 v))
    (him : ∀ (v : World) (_ : Unit), Calls Try.prog 6 #[a0.val, .int .i64 a1] v (PLZB rn0 rf0 rs1 rb2 v)) :
    Calls Try.prog 3 #[a0.val, .int .i64 a1] w fun e w' => e = .returned (.bool true) ∧ w.Since w.heap.size w' := by
  obtain ⟨a0_0, a0_1, a0_2⟩ := a0
  have hto0 := toOscillator_any ⟨a0_0, a0_1, a0_2⟩
  simp only [OscN.val] at hto0 hsp him ⊢
  have HTO0 := Lib.hid hto0; clear hto0
  obtain ⟨W, hW⟩ : ∃ W, W = (w.alloc (.cells #[.int .i64 a0_0, .float .f32 a0_1, .float .f32 a0_2] 24)) := ⟨_, rfl⟩
  have S0 : Hid (w.Since w.heap.size W) := Lib.hid (by rw [hW]; exact (World.Since.refl _ _).alloc (Nat.le_refl _) _)
  have hz : w.heap.size < W.heap.size := by rw [hW]; simp
  have BX0_0 : Hid (W.cell? ⟨w.heap.size, 0, none⟩ = some (.int .i64 a0_0)) := Lib.hid (by rw [hW]; simp [go_sem])
  have BX0_1 : Hid (W.cell? ⟨w.heap.size, 1, none⟩ = some (.float .f32 a0_1)) := Lib.hid (by rw [hW]; simp [go_sem])
  have BX0_2 : Hid (W.cell? ⟨w.heap.size, 2, none⟩ = some (.float .f32 a0_2)) := Lib.hid (by rw [hW]; simp [go_sem])
  have HSP := Lib.hid hsp; have HIM := Lib.hid him; clear hsp him
  go_enter Try.func3, Try.ntmps3
  go_wp2_with fail
  rw [← hW]
  have S : Hid (W.Since W.heap.size W) := Lib.hid (World.Since.refl _ _)
  have LV : Hid (He W.heap.size W []) := Lib.hid trivial
  go_at_call 5
  refine (HTO0.out _).mono ?_
  rintro e v1 ⟨rfl, hs⟩
  have S' := Lib.hid (since_step S.out hs); clear S; have S := S'; clear S'
  have LV' := Lib.hid (LV.out.since hs); clear LV; have LV := LV'; clear LV'
  clear hs
  go_wp2_with fail
  go_at_call 4
  refine (HSP.out _ () ).mono ?_
  rintro e v2 ⟨w0, kw0, w1, rfl, hnw0, hgw0, hfw0, hvw1, hs⟩
  have LV' := Lib.hid ((LV.out).new hs hgw0.toE S.out.size); clear LV; have LV := LV'; clear LV'
  have S' := Lib.hid (since_step S.out hs); clear S; have S := S'; clear S'
  have Kw0 := Lib.hid hfw0; have Nw0 := Lib.hid hnw0; clear hfw0 hgw0 hnw0
  clear hs
  have HVw1 := Lib.hid hvw1; clear hvw1
  obtain ⟨w1_0, w1_1, w1_2⟩ := w1
  simp only [OscN.val]
  have rx0_0 := ((S.out.alloc S.out.size (.cells #[.int .i64 w1_0, .float .f32 w1_1, .float .f32 w1_2] 26)).cell (a := ⟨w.heap.size, 0, none⟩) (by omega)).trans BX0_0.out
  have rx0_1 := ((S.out.alloc S.out.size (.cells #[.int .i64 w1_0, .float .f32 w1_1, .float .f32 w1_2] 26)).cell (a := ⟨w.heap.size, 1, none⟩) (by omega)).trans BX0_1.out
  have rx0_2 := ((S.out.alloc S.out.size (.cells #[.int .i64 w1_0, .float .f32 w1_1, .float .f32 w1_2] 26)).cell (a := ⟨w.heap.size, 2, none⟩) (by omega)).trans BX0_2.out
  go_wp2_with fail
  obtain ⟨v3, hV, hs, hg⟩ := boxw v2 26 [.int .i64 w1_0, .float .f32 w1_1, .float .f32 w1_2]
  rw [← hV]
  clear hV
  clear rx0_0 rx0_1 rx0_2
  have LV' := Lib.hid (LV.out.new hs hg S.out.size); clear LV; have LV := LV'; clear LV'
  have S' := Lib.hid (since_step S.out hs); clear S; have S := S'; clear S'
  clear hs hg
  have bx0_0 := (S.out.cell (a := ⟨w.heap.size, 0, none⟩) (by omega)).trans BX0_0.out
  have bx0_1 := (S.out.cell (a := ⟨w.heap.size, 1, none⟩) (by omega)).trans BX0_1.out
  have bx0_2 := (S.out.cell (a := ⟨w.heap.size, 2, none⟩) (by omega)).trans BX0_2.out
  go_at_call 5
  refine (HTO0.out _).mono ?_
  rintro e v4 ⟨rfl, hs⟩
  have S' := Lib.hid (since_step S.out hs); clear S; have S := S'; clear S'
  have LV' := Lib.hid (LV.out.since hs); clear LV; have LV := LV'; clear LV'
  clear hs
  go_wp2_with fail
  go_at_call 6
  refine (HIM.out _ () ).mono ?_
  rintro e v5 ⟨g0, kg0, g1, rfl, hng0, hgg0, hfg0, hvg1, hs⟩
  have LV' := Lib.hid ((LV.out).new hs hgg0.toE S.out.size); clear LV; have LV := LV'; clear LV'
  have S' := Lib.hid (since_step S.out hs); clear S; have S := S'; clear S'
  have Kg0 := Lib.hid hfg0; have Ng0 := Lib.hid hng0; clear hfg0 hgg0 hng0
  clear hs
  have HVg1 := Lib.hid hvg1; clear hvg1
  obtain ⟨g1_0, g1_1, g1_2⟩ := g1
  simp only [OscN.val]
  have rx0_0 := ((S.out.alloc S.out.size (.cells #[.int .i64 g1_0, .float .f32 g1_1, .float .f32 g1_2] 26)).cell (a := ⟨w.heap.size, 0, none⟩) (by omega)).trans BX0_0.out
  have rx0_1 := ((S.out.alloc S.out.size (.cells #[.int .i64 g1_0, .float .f32 g1_1, .float .f32 g1_2] 26)).cell (a := ⟨w.heap.size, 1, none⟩) (by omega)).trans BX0_1.out
  have rx0_2 := ((S.out.alloc S.out.size (.cells #[.int .i64 g1_0, .float .f32 g1_1, .float .f32 g1_2] 26)).cell (a := ⟨w.heap.size, 2, none⟩) (by omega)).trans BX0_2.out
  go_wp2_with fail
  obtain ⟨v6, hV, hs, hg⟩ := boxw v5 26 [.int .i64 g1_0, .float .f32 g1_1, .float .f32 g1_2]
  rw [← hV]
  clear hV
  clear rx0_0 rx0_1 rx0_2
  have LV' := Lib.hid (LV.out.new hs hg S.out.size); clear LV; have LV := LV'; clear LV'
  have S' := Lib.hid (since_step S.out hs); clear S; have S := S'; clear S'
  clear hs hg
  go_at_call 7
  refine (eqL_any g0 w0 _ _ _ _ (LV.out.2.1.1).readF (LV.out.2.2.2.1.1).readF (by rw [Ng0.out]; exact hr0) (Nw0.out.trans Ng0.out.symm) Kg0.out Kw0.out).mono ?_
  rintro e v7 ⟨rfl, hs⟩
  have S' := Lib.hid (since_step S.out hs); clear S; have S := S'; clear S'
  have LV' := Lib.hid (LV.out.since hs); clear LV; have LV := LV'; clear LV'
  clear hs
  have bg1_0 : v7.cell? ⟨v5.heap.size, 0, none⟩ = some (.int .i64 g1_0) := ((LV.out.1.1)).boxv 0 _ rfl
  have bg1_1 : v7.cell? ⟨v5.heap.size, 1, none⟩ = some (.float .f32 g1_1) := ((LV.out.1.1)).boxv 1 _ rfl
  have bg1_2 : v7.cell? ⟨v5.heap.size, 2, none⟩ = some (.float .f32 g1_2) := ((LV.out.1.1)).boxv 2 _ rfl
  have bw1_0 : v7.cell? ⟨v2.heap.size, 0, none⟩ = some (.int .i64 w1_0) := ((LV.out.2.2.1.1)).boxv 0 _ rfl
  have bw1_1 : v7.cell? ⟨v2.heap.size, 1, none⟩ = some (.float .f32 w1_1) := ((LV.out.2.2.1.1)).boxv 1 _ rfl
  have bw1_2 : v7.cell? ⟨v2.heap.size, 2, none⟩ = some (.float .f32 w1_2) := ((LV.out.2.2.1.1)).boxv 2 _ rfl
  go_wp2_with fail
  go_at_call 8
  refine (eqOscillator_any ⟨g1_0, g1_1, g1_2⟩ ⟨w1_0, w1_1, w1_2⟩ _ _ HVg1.out HVw1.out).mono ?_
  rintro e v8 ⟨rfl, hs⟩
  clear bg1_0 bg1_1 bg1_2 bw1_0 bw1_1 bw1_2
  have S' := Lib.hid (since_step S.out hs); clear S; have S := S'; clear S'
  have LV' := Lib.hid (LV.out.since hs); clear LV; have LV := LV'; clear LV'
  clear hs
  go_wp2_with fail
  go_at_call 9
  refine (markFE_any g0.A g0.n g0.xs _ (1) _ _ _ _ (He.front [_] LV.out) (by rw [Ng0.out]; exact hr0) (by have := Ng0.out; omega) (by first | rfl | omega | (push_cast; omega))).mono ?_
  rintro e v9 ⟨rfl, hlv, hs⟩
  have LV' := Lib.hid hlv; clear LV hlv; have LV := LV'; clear LV'
  have S' := Lib.hid (since_mark S.out hs); clear S hs; have S := S'; clear S'
  go_wp2_with fail
  go_at_call 10
  refine (heldFE_any g0.A g0.n _ (1) _ _ _ ((LV.out.1.1)) (by rw [Ng0.out]; exact hr0) (by have := Ng0.out; omega) (by first | rfl | omega | (push_cast; omega))).mono ?_
  rintro e v ⟨rfl, rfl⟩
  have bx0_0 := (S.out.cell (a := ⟨w.heap.size, 0, none⟩) (by omega)).trans BX0_0.out
  have bx0_1 := (S.out.cell (a := ⟨w.heap.size, 1, none⟩) (by omega)).trans BX0_1.out
  have bx0_2 := (S.out.cell (a := ⟨w.heap.size, 2, none⟩) (by omega)).trans BX0_2.out
  go_wp2_with fail
  go_at_call 5
  refine (HTO0.out _).mono ?_
  rintro e v10 ⟨rfl, hs⟩
  clear bx0_0 bx0_1 bx0_2
  have S' := Lib.hid (since_step S.out hs); clear S; have S := S'; clear S'
  have LV' := Lib.hid (LV.out.since hs); clear LV; have LV := LV'; clear LV'
  clear hs
  go_wp2_with fail
  go_at_call 6
  refine (HIM.out _ () ).mono ?_
  rintro e v11 ⟨h0, kh0, h1, rfl, hnh0, hgh0, hfh0, hvh1, hs⟩
  have LV' := Lib.hid ((LV.out).new hs hgh0.toE S.out.size); clear LV; have LV := LV'; clear LV'
  have S' := Lib.hid (since_step S.out hs); clear S; have S := S'; clear S'
  have Kh0 := Lib.hid hfh0; have Nh0 := Lib.hid hnh0; clear hfh0 hgh0 hnh0
  clear hs
  have HVh1 := Lib.hid hvh1; clear hvh1
  obtain ⟨h1_0, h1_1, h1_2⟩ := h1
  simp only [OscN.val]
  have rx0_0 := ((S.out.alloc S.out.size (.cells #[.int .i64 h1_0, .float .f32 h1_1, .float .f32 h1_2] 26)).cell (a := ⟨w.heap.size, 0, none⟩) (by omega)).trans BX0_0.out
  have rx0_1 := ((S.out.alloc S.out.size (.cells #[.int .i64 h1_0, .float .f32 h1_1, .float .f32 h1_2] 26)).cell (a := ⟨w.heap.size, 1, none⟩) (by omega)).trans BX0_1.out
  have rx0_2 := ((S.out.alloc S.out.size (.cells #[.int .i64 h1_0, .float .f32 h1_1, .float .f32 h1_2] 26)).cell (a := ⟨w.heap.size, 2, none⟩) (by omega)).trans BX0_2.out
  go_wp2_with fail
  obtain ⟨v12, hV, hs, hg⟩ := boxw v11 26 [.int .i64 h1_0, .float .f32 h1_1, .float .f32 h1_2]
  rw [← hV]
  clear hV
  clear rx0_0 rx0_1 rx0_2
  have LV' := Lib.hid (LV.out.new hs hg S.out.size); clear LV; have LV := LV'; clear LV'
  have S' := Lib.hid (since_step S.out hs); clear S; have S := S'; clear S'
  clear hs hg
  go_at_call 7
  refine (eqL_any h0 w0 _ _ _ _ (LV.out.2.1.1).readF (LV.out.2.2.2.2.2.1.1).readF (by rw [Nh0.out]; exact hr0) (Nw0.out.trans Nh0.out.symm) Kh0.out Kw0.out).mono ?_
  rintro e v13 ⟨rfl, hs⟩
  have S' := Lib.hid (since_step S.out hs); clear S; have S := S'; clear S'
  have LV' := Lib.hid (LV.out.since hs); clear LV; have LV := LV'; clear LV'
  clear hs
  have bh1_0 : v13.cell? ⟨v11.heap.size, 0, none⟩ = some (.int .i64 h1_0) := ((LV.out.1.1)).boxv 0 _ rfl
  have bh1_1 : v13.cell? ⟨v11.heap.size, 1, none⟩ = some (.float .f32 h1_1) := ((LV.out.1.1)).boxv 1 _ rfl
  have bh1_2 : v13.cell? ⟨v11.heap.size, 2, none⟩ = some (.float .f32 h1_2) := ((LV.out.1.1)).boxv 2 _ rfl
  have bw1_0 : v13.cell? ⟨v2.heap.size, 0, none⟩ = some (.int .i64 w1_0) := ((LV.out.2.2.2.2.1.1)).boxv 0 _ rfl
  have bw1_1 : v13.cell? ⟨v2.heap.size, 1, none⟩ = some (.float .f32 w1_1) := ((LV.out.2.2.2.2.1.1)).boxv 1 _ rfl
  have bw1_2 : v13.cell? ⟨v2.heap.size, 2, none⟩ = some (.float .f32 w1_2) := ((LV.out.2.2.2.2.1.1)).boxv 2 _ rfl
  go_wp2_with fail
  go_at_call 8
  refine (eqOscillator_any ⟨h1_0, h1_1, h1_2⟩ ⟨w1_0, w1_1, w1_2⟩ _ _ HVh1.out HVw1.out).mono ?_
  rintro e v14 ⟨rfl, hs⟩
  clear bh1_0 bh1_1 bh1_2 bw1_0 bw1_1 bw1_2
  have S' := Lib.hid (since_step S.out hs); clear S; have S := S'; clear S'
  have LV' := Lib.hid (LV.out.since hs); clear LV; have LV := LV'; clear LV'
  clear hs
  go_wp2_with fail
  go_at_call 10
  refine (heldFE_any g0.A g0.n _ (1) _ _ _ ((LV.out.2.2.1.1)) (by rw [Ng0.out]; exact hr0) (by have := Ng0.out; omega) (by first | rfl | omega | (push_cast; omega))).mono ?_
  rintro e v ⟨rfl, rfl⟩
  go_wp2_with fail
  go_ret
  exact ⟨rfl, S0.out.trans (since_mono S.out (show w.heap.size ≤ W.heap.size by omega))⟩
end Go.Proofs.Ytbjjggelgpomhaa

/- Envelopes, notes, oscillators that came in by value. -/
set_option linter.unusedVariables false
set_option linter.unusedSimpArgs false
namespace Go.Proofs.Ytbjjggelgpomhaa
namespace Fl
open Go.ChangeShapes Go.WideShapes Go.RowKit Go.Deep

section
variable {H : Type} {enc : TypeId × Value → H} {P : Program} {w : World} {base : Nat} {spare : Nat → Bool} {held : Bool}
theorem open_env {r : Reach} {b0 : Nat} {t : TypeId} {f0 f1 f2 f3 : Field} {v : Value} {d : DataW H} {p : List MemPlace} (hs : P.underlying t = some (.struct #[f0, f1, f2, f3])) (hone : oneCellFields P #[f0, f1, f2, f3] = true) (hC : P.cellsOf t = 4)
    (h0 : P.underlying f0.type = some (.int .i64)) (h1 : P.underlying f1.type = some (.int .i64)) (h2 : P.underlying f2.type = some (.float .f32)) (h3 : P.underlying f3.type = some (.int .i64))
    (hv : Value.okWide P w r b0 t v) (h : DataW.Trod enc P w base spare held t v d p) :
    ∃ m : EnvN, v = m.val ∧ m.s < 4294967296 ∧ (Lit.int .i64 m.a).wf = true ∧ (Lit.int .i64 m.d).wf = true ∧ (Lit.int .i64 m.r).wf = true := by
  obtain ⟨cs, rfl, hsz, hc⟩ := open_row hs hone hC hv h
  obtain ⟨c0, y0, n0, e0, t0⟩ := hc 0 f0 rfl
  obtain ⟨c1, y1, n1, e1, t1⟩ := hc 1 f1 rfl
  obtain ⟨c2, y2, n2, e2, t2⟩ := hc 2 f2 rfl
  obtain ⟨c3, y3, n3, e3, t3⟩ := hc 3 f3 rfl
  obtain ⟨x0, hx0, w0⟩ := trod_int h0 t0
  obtain ⟨x1, hx1, w1⟩ := trod_int h1 t1
  obtain ⟨x2, hx2, w2⟩ := trod_fl h2 t2
  obtain ⟨x3, hx3, w3⟩ := trod_int h3 t3
  injection hx0 with hx0 _; subst hx0
  injection hx1 with hx1 _; subst hx1
  injection hx2 with hx2 _; subst hx2
  injection hx3 with hx3 _; subst hx3
  refine ⟨⟨x0, x1, x2, x3⟩, ?_, wf_f32 w2, w0, w1, w3⟩
  unfold EnvN.val
  congr 1
  apply Array.ext_getElem?
  intro i
  match i with
  | 0 => exact e0
  | 1 => exact e1
  | 2 => exact e2
  | 3 => exact e3
  | i + 4 => rw [Array.getElem?_eq_none (by rw [hsz]; simp), Array.getElem?_eq_none (by simp)]
theorem open_not {r : Reach} {b0 : Nat} {t : TypeId} {f0 f1 f2 f3 : Field} {v : Value} {d : DataW H} {p : List MemPlace} (hs : P.underlying t = some (.struct #[f0, f1, f2, f3])) (hone : oneCellFields P #[f0, f1, f2, f3] = true) (hC : P.cellsOf t = 4)
    (h0 : P.underlying f0.type = some (.int .i64)) (h1 : P.underlying f1.type = some (.int .i64)) (h2 : P.underlying f2.type = some (.int .i64)) (h3 : P.underlying f3.type = some (.float .f32))
    (hv : Value.okWide P w r b0 t v) (h : DataW.Trod enc P w base spare held t v d p) :
    ∃ m : NotN, v = m.val ∧ m.g < 4294967296 ∧ (Lit.int .i64 m.st).wf = true ∧ (Lit.int .i64 m.h).wf = true ∧ (Lit.int .i64 m.p).wf = true := by
  obtain ⟨cs, rfl, hsz, hc⟩ := open_row hs hone hC hv h
  obtain ⟨c0, y0, n0, e0, t0⟩ := hc 0 f0 rfl
  obtain ⟨c1, y1, n1, e1, t1⟩ := hc 1 f1 rfl
  obtain ⟨c2, y2, n2, e2, t2⟩ := hc 2 f2 rfl
  obtain ⟨c3, y3, n3, e3, t3⟩ := hc 3 f3 rfl
  obtain ⟨x0, hx0, w0⟩ := trod_int h0 t0
  obtain ⟨x1, hx1, w1⟩ := trod_int h1 t1
  obtain ⟨x2, hx2, w2⟩ := trod_int h2 t2
  obtain ⟨x3, hx3, w3⟩ := trod_fl h3 t3
  injection hx0 with hx0 _; subst hx0
  injection hx1 with hx1 _; subst hx1
  injection hx2 with hx2 _; subst hx2
  injection hx3 with hx3 _; subst hx3
  refine ⟨⟨x0, x1, x2, x3⟩, ?_, wf_f32 w3, w0, w1, w2⟩
  unfold NotN.val
  congr 1
  apply Array.ext_getElem?
  intro i
  match i with
  | 0 => exact e0
  | 1 => exact e1
  | 2 => exact e2
  | 3 => exact e3
  | i + 4 => rw [Array.getElem?_eq_none (by rw [hsz]; simp), Array.getElem?_eq_none (by simp)]
theorem open_osc {r : Reach} {b0 : Nat} {t : TypeId} {f0 f1 f2 : Field} {v : Value} {d : DataW H} {p : List MemPlace} (hs : P.underlying t = some (.struct #[f0, f1, f2])) (hone : oneCellFields P #[f0, f1, f2] = true) (hC : P.cellsOf t = 3)
    (h0 : P.underlying f0.type = some (.int .i64)) (h1 : P.underlying f1.type = some (.float .f32)) (h2 : P.underlying f2.type = some (.float .f32))
    (hv : Value.okWide P w r b0 t v) (h : DataW.Trod enc P w base spare held t v d p) :
    ∃ m : OscN, v = m.val ∧ m.st < 4294967296 ∧ m.ph < 4294967296 ∧ (Lit.int .i64 m.k).wf = true := by
  obtain ⟨cs, rfl, hsz, hc⟩ := open_row hs hone hC hv h
  obtain ⟨c0, y0, n0, e0, t0⟩ := hc 0 f0 rfl
  obtain ⟨c1, y1, n1, e1, t1⟩ := hc 1 f1 rfl
  obtain ⟨c2, y2, n2, e2, t2⟩ := hc 2 f2 rfl
  obtain ⟨x0, hx0, w0⟩ := trod_int h0 t0
  obtain ⟨x1, hx1, w1⟩ := trod_fl h1 t1
  obtain ⟨x2, hx2, w2⟩ := trod_fl h2 t2
  injection hx0 with hx0 _; subst hx0
  injection hx1 with hx1 _; subst hx1
  injection hx2 with hx2 _; subst hx2
  refine ⟨⟨x0, x1, x2⟩, ?_, wf_f32 w1, wf_f32 w2, w0⟩
  unfold OscN.val
  congr 1
  apply Array.ext_getElem?
  intro i
  match i with
  | 0 => exact e0
  | 1 => exact e1
  | 2 => exact e2
  | i + 3 => rw [Array.getElem?_eq_none (by rw [hsz]; simp), Array.getElem?_eq_none (by simp)]
end
end Fl
end Go.Proofs.Ytbjjggelgpomhaa

/- The law of RunOscillator. -/
set_option linter.unusedVariables false
set_option linter.unusedSimpArgs false
namespace Go.Proofs.Ytbjjggelgpomhaa
open Fl Go.RowKit
theorem lawRunOscillator_any (d : OscN) (x : Int) (w : World) (he : d.st < 4294967296 ∧ d.ph < 4294967296 ∧ (Lit.int .i64 d.k).wf = true) (_ : (Lit.int .i64 x).wf = true) :
    Calls Try.prog 3 #[d.val, .int .i64 x] w fun e w' => e = .returned (.bool true) ∧ w.Since w.heap.size w' := by
  have h1 : Hid (Fv .f32 d.st (ab .f32 d.st)) := Lib.hid ⟨he.1, rfl⟩
  have h2 : Hid (Fv .f32 d.ph (ab .f32 d.ph)) := Lib.hid ⟨he.2.1, rfl⟩
  cases h : okRunO d.k (ab .f32 d.st) (ab .f32 d.ph) x
  · exact lawRunOscillator_gen d x 0 (fun _ => none) zOsc false w (by decide) (fun v _ => specRunOsc_no d _ _ x v h1 h2 h) (fun v _ => implRunOsc_no d _ _ x v h1 h2 h)
  · have hb := h
    unfold okRunO at hb
    rw [Bool.and_eq_true] at hb
    obtain ⟨ho, hc⟩ := hb
    have hc2 := hc
    simp only [inB, Bool.and_eq_true, decide_eq_true_eq] at hc2
    obtain ⟨c, rfl⟩ : ∃ c : Nat, x = (c : Int) := ⟨x.toNat, by omega⟩
    exact lawRunOscillator_gen d c c _ ⟨d.k, ab .f32 d.st, phs (ab .f32 d.ph) (ab .f32 d.st) c⟩ true w (by omega) (fun v _ => (specRunOsc_ok d _ _ c v h1 h2 ho hc).mono fun _ _ h => h.z) (fun v _ => (implRunOsc_ok d _ _ c v h1 h2 ho hc).mono fun _ _ h => h.z)
end Go.Proofs.Ytbjjggelgpomhaa

