/- The exponential function in 64 bits. -/
import Derived.Test.YtecgipilamefmaaWb
import Derived.Test.YtecgipilamefmaaSm
import Derived.Lib.Hide
set_option linter.unusedVariables false
set_option linter.unusedSimpArgs false
namespace Go.Proofs.Ytecgipilamefmaa
open Fl Go.RowKit

@[go_sem] theorem Try.f64from (n : Int) (w : World) : (callFunc 80 #[.int .u64 n]).run Try.prog w = .ok (.value (.float .f64 n.toNat)) w := by
  rw [run_callFunc_extern (P := Try.prog) (fn := Try.f80) (e := Extern.MathFloatBits.float64frombits) (by kernel_rfl) (by kernel_rfl) (by kernel_rfl) (by kernel_rfl) (by kernel_rfl)]
  rfl

def cOne : Nat := 4607182418800017408
def c256 : Nat := 4643211215818981376
def cP200 : Nat := 4641240890982006784
def cM200 : Nat := 13864612927836782592
def cInf : Nat := 9218868437227405312
theorem ab_one : ab .f64 4607182418800017408 = some cOne := by rw [ab64]; rfl
theorem ab_256 : ab .f64 4643211215818981376 = some c256 := by rw [ab64]; rfl
theorem ab_p200 : ab .f64 4641240890982006784 = some cP200 := by rw [ab64]; rfl
theorem ab_m200 : ab .f64 13864612927836782592 = some cM200 := by rw [ab64]; rfl
theorem ab_int64 (n : Int) : ab .f64 (floatOfInt .f64 n) = some (floatOfInt .f64 n) := ab_write .f64 (d := .number (decide (n < 0)) n.natAbs 0) rfl

def polyO (t : Option Nat) : Nat → Option Nat
  | 0 => some cOne
  | i + 1 => opO .add .f64 (some cOne) (opO .quo .f64 (opO .mul .f64 t (polyO t i)) (some (floatOfInt .f64 ((12 - i : Nat) : Int))))
def sqsO (p : Option Nat) : Nat → Option Nat
  | 0 => p
  | i + 1 => opO .mul .f64 (sqsO p i) (sqsO p i)
def expO (v : Option Nat) : Option Nat :=
  if (ordO .f64 v (some cP200) == some .gt) = true then some cInf
  else if (ordO .f64 v (some cM200) == some .lt) = true then some 0
  else sqsO (polyO (opO .quo .f64 v (some c256)) 12) 8
theorem fv_one : Fv .f64 4607182418800017408 (some cOne) := ⟨by decide, ab_one⟩
theorem fv_inf : Fv .f64 9218868437227405312 (some cInf) := ⟨by decide, by rw [ab64]; rfl⟩
theorem fv_zero64 : Fv .f64 0 (some 0) := ⟨by decide, by rw [ab64]; rfl⟩

theorem mathInf_any (w : World) : Calls Try.prog 66 #[.int .i64 1] w fun e w' => e = .returned (.float .f64 9218868437227405312) ∧ w = w' := by
  go_enter Try.func66, Try.ntmps66
  go_wp2
  go_ret
  exact ⟨rfl, rfl⟩

set_option maxHeartbeats 1000000 in
theorem implExp_any (x : Nat) (w : World) (hx : x < 2 ^ FloatKind.f64.format.width) :
    Calls Try.prog 48 #[.float .f64 x] w (RetF .f64 (expO (ab .f64 x)) w) := by
  have e1 : (FloatKind.f64.format.order x 4641240890982006784 == some .gt) = (ordO .f64 (ab .f64 x) (some cP200) == some .gt) := by rw [order_ab, ab_p200]
  have e2 : (FloatKind.f64.format.order x 13864612927836782592 == some .lt) = (ordO .f64 (ab .f64 x) (some cM200) == some .lt) := by rw [order_ab, ab_m200]
  cases h1 : (ordO .f64 (ab .f64 x) (some cP200) == some .gt)
  · rw [h1] at e1
    cases h2 : (ordO .f64 (ab .f64 x) (some cM200) == some .lt)
    · rw [h2] at e2
      have e : expO (ab .f64 x) = sqsO (polyO (opO .quo .f64 (ab .f64 x) (some c256)) 12) 8 := by unfold expO; rw [h1, h2]; rfl
      rw [e]
      clear h1 h2 e
      go_enter Try.func48, Try.ntmps48
      go_wp2_with (with_reducible_and_instances refine wpList_fop _ rfl .quo _ _ _ _ rfl _ _ _ rfl rfl rfl ?_; intro rt nt ht; have HT := Lib.hid ht; clear ht)
      go_loopw [4, 5] (fun p kk wr => ∃ (k m r : Nat), k ≤ 12 ∧ kk = .int .i64 k ∧ p = .float .f64 r ∧ Fv .f64 r (polyO (ab .f64 rt) (12 - k)) ∧ wr = w.drewN m) (fun _ kk _ => (intOf kk).toNat)
      case atStart => exact ⟨12, nt, _, Nat.le_refl _, rfl, rfl, fv_one, rfl⟩
      case round =>
        obtain ⟨k, m, r, hk, rfl, rfl, hr, rfl⟩ := hrel
        have HR := Lib.hid hr
        clear hr
        by_cases hlt : 1 ≤ k
        · go_wp2_with (first | (with_reducible_and_instances refine wpList_fop _ rfl .mul _ _ _ _ rfl _ _ _ rfl rfl rfl ?_; intro rM nM hM; have HM := Lib.hid hM; clear hM) | (with_reducible_and_instances refine wpList_fop _ rfl .quo _ _ _ _ rfl _ _ _ rfl rfl rfl ?_; intro rQ nQ hQ; have HQ := Lib.hid hQ; clear hQ) | (with_reducible_and_instances refine wpList_fop _ rfl .add _ _ _ _ rfl _ _ _ rfl rfl rfl ?_; intro rA nA hA; have HA := Lib.hid hA; clear hA))
          go_roundw
          case rel =>
            refine ⟨k - 1, _, rA, by omega, by go_num, rfl, ?_, rfl⟩
            have h1 := HA.out
            rw [HQ.out.2, HM.out.2, HR.out.2, ab_one, ab_int64] at h1
            have e : 12 - (k - 1) = (12 - k) + 1 := by omega
            rw [e]
            show Fv .f64 rA (opO .add .f64 (some cOne) (opO .quo .f64 (opO .mul .f64 (ab .f64 rt) (polyO (ab .f64 rt) (12 - k))) (some (floatOfInt .f64 ((12 - (12 - k) : Nat) : Int)))))
            rw [show 12 - (12 - k) = k by omega]
            exact h1
          case measure => simp [intOf]; omega
        · obtain rfl : k = 0 := by omega
          rw [show ((0 : Nat) : Int) = 0 from rfl]
          go_wp2
          go_loopw [4, 24] (fun p jj wr => ∃ (j m r : Nat), j ≤ 8 ∧ jj = .int .i64 j ∧ p = .float .f64 r ∧ Fv .f64 r (sqsO (polyO (ab .f64 rt) 12) j) ∧ wr = w.drewN m) (fun _ jj _ => 8 - (intOf jj).toNat)
          case atStart => exact ⟨0, _, r, by omega, rfl, rfl, HR.out, rfl⟩
          case round =>
            obtain ⟨j, m2, r2, hj, rfl, rfl, hr2, rfl⟩ := hrel
            have HR2 := Lib.hid hr2
            clear hr2
            by_cases hlt : j < 8
            · go_wp2_with (with_reducible_and_instances refine wpList_fop _ rfl .mul _ _ _ _ rfl _ _ _ rfl rfl rfl ?_; intro rM nM hM; have HM := Lib.hid hM; clear hM)
              go_roundw
              case rel =>
                have h1 := HM.out
                rw [HR2.out.2] at h1
                exact ⟨j + 1, _, rM, by omega, by go_num, rfl, h1, rfl⟩
              case measure => simp [intOf]; omega
            · obtain rfl : j = 8 := by omega
              go_wp2
              go_ret
              have h1 := HR2.out
              have h2 := HT.out.2
              rw [ab_256] at h2
              rw [h2] at h1
              exact ⟨r2, _, rfl, h1, rfl⟩
    · rw [h2] at e2
      have e : expO (ab .f64 x) = some 0 := by unfold expO; rw [h1, h2]; rfl
      rw [e]
      clear h1 h2 e
      go_enter Try.func48, Try.ntmps48
      go_wp2
      go_ret
      exact ⟨0, 0, rfl, fv_zero64, rfl⟩
  · have e : expO (ab .f64 x) = some cInf := by unfold expO; rw [h1]; rfl
    rw [h1] at e1
    rw [e]
    clear h1 e e2
    go_enter Try.func48, Try.ntmps48
    go_wp2_with (go_at_call 66; refine (mathInf_any _).mono ?_; rintro e w' ⟨rfl, rfl⟩)
    go_ret
    exact ⟨_, 0, rfl, fv_inf, rfl⟩
end Go.Proofs.Ytecgipilamefmaa
