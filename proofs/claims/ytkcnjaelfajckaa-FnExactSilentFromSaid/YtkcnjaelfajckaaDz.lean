/- Silence: what both loops tell. -/
import Derived.Test.YtkcnjaelfajckaaDy
import Derived.Test.YtkcnjaelfajckaaWb
set_option linter.unusedVariables false
set_option linter.unusedSimpArgs false
namespace Go.Proofs.Ytkcnjaelfajckaa
open Fl Go.RowKit
/-- a zero of either sign -/
def zer (v : O) : Bool := ordO .f32 v (ab .f32 0) == some .eq
theorem floatEq_zer (x : Nat) : Op.floatEq .f32 x 0 = zer (ab .f32 x) := by unfold Op.floatEq zer; rw [order_ab]
theorem order_zer (x : Nat) : (FloatKind.f32.format.order x 0 == some .eq) = zer (ab .f32 x) := by unfold zer; rw [order_ab]
/-- the same world, kept from simp -/
def SameW (a b : World) : Prop := a = b
theorem order_nzer (x : Nat) : (FloatKind.f32.format.order x 0 != some .eq) = !zer (ab .f32 x) := by unfold bne; rw [order_zer]
set_option maxHeartbeats 1000000 in
theorem specZeros_any (A : Option Addr) (n c : Nat) (ys : List Nat) (b : Bool) (w : World) (B : Nat) (h : Fs w B A n ys) (hn : n ≤ 1048576) (hb : b = true ↔ ∀ i, i < n → zer (ab .f32 (wd ys i)) = true) :
    Calls Try.prog 97 #[.slice A n c] w fun e w' => e = .returned (.bool b) ∧ w = w' := by
  have H := Lib.hid h; have HB := Lib.hid hb
  clear h hb
  go_enter Try.func97, Try.ntmps97
  go_wp2
  go_loopw [6] (fun i wr => ∃ k : Nat, k ≤ n ∧ i = .int .i64 k ∧ (∀ j, j < k → zer (ab .f32 (wd ys j)) = true) ∧ SameW w wr) (fun i _ => n - (intOf i).toNat)
  case atStart => exact ⟨0, Nat.zero_le _, rfl, fun j hj => by omega, show _ = _ from rfl⟩
  case round =>
    obtain ⟨k, hk, rfl, hz, HW⟩ := hrel
    have hW : w = wr := HW
    subst hW
    clear HW
    have HZ := Lib.hid hz
    clear hz
    by_cases hlt : k < n
    · obtain ⟨g, off, rfl, hg, hc⟩ := H.out.2.2 (by omega)
      have hcell := hc k hlt
      unfold fv at hcell
      clear hc
      have ho := order_nzer (wd ys k)
      cases hz : zer (ab .f32 (wd ys k))
      · simp only [hz, Bool.not_true, Bool.not_false] at ho
        go_wp2
        go_ret
        refine ⟨?_, rfl⟩
        cases b
        · rfl
        · have := HB.out.1 rfl k hlt
          rw [hz] at this; cases this
      · simp only [hz, Bool.not_true, Bool.not_false] at ho
        go_wp2
        go_roundw
        case rel =>
          refine ⟨k + 1, by omega, by go_num, fun j hj => ?_, show _ = _ from rfl⟩
          by_cases e : j = k
          · subst e; exact hz
          · exact HZ.out j (by omega)
        case measure => simp [intOf]; omega
    · obtain rfl : k = n := by omega
      go_wp2
      go_ret
      refine ⟨?_, rfl⟩
      rw [HB.out.2 HZ.out]; rfl
set_option maxHeartbeats 1000000 in
theorem allFinite_any (A : Option Addr) (n c : Nat) (ys : List Nat) (b : Bool) (w : World) (B : Nat) (h : Fs w B A n ys) (hn : n ≤ 1048576) (hb : b = true ↔ ∀ i, i < n → finB (wd ys i) = true) :
    Calls Try.prog 99 #[.slice A n c, .func (.func 98) #[] #[]] w fun e w' => e = .returned (.bool b) ∧ w = w' := by
  have H := Lib.hid h; have HB := Lib.hid hb
  clear h hb
  go_enter Try.func99, Try.ntmps99
  go_wp2
  go_loopw [9] (fun i wr => ∃ k : Nat, k ≤ n ∧ i = .int .i64 k ∧ (∀ j, j < k → finB (wd ys j) = true) ∧ SameW w wr) (fun i _ => n - (intOf i).toNat)
  case atStart => exact ⟨0, Nat.zero_le _, rfl, fun j hj => by omega, show _ = _ from rfl⟩
  case round =>
    obtain ⟨k, hk, rfl, hz, HW⟩ := hrel
    have hW : w = wr := HW
    subst hW
    clear HW
    have HZ := Lib.hid hz
    clear hz
    by_cases hlt : k < n
    · obtain ⟨g, off, rfl, hg, hc⟩ := H.out.2.2 (by omega)
      have hcell := hc k hlt
      unfold fv at hcell
      clear hc
      have hfi := implFinite_any (wd ys k) w (H.out.2.1.at_ k)
      cases hz : finB (wd ys k)
      · rw [hz] at hfi
        have HF := Lib.hid hfi
        clear hfi
        go_wp2_with (go_at_call 98; refine HF.out.mono ?_; rintro e w' ⟨rfl, rfl⟩)
        go_ret
        refine ⟨?_, rfl⟩
        cases b
        · rfl
        · have := HB.out.1 rfl k hlt
          rw [hz] at this; cases this
      · rw [hz] at hfi
        have HF := Lib.hid hfi
        clear hfi
        go_wp2_with (go_at_call 98; refine HF.out.mono ?_; rintro e w' ⟨rfl, rfl⟩)
        go_roundw
        case rel =>
          refine ⟨k + 1, by omega, by go_num, fun j hj => ?_, show _ = _ from rfl⟩
          by_cases e : j = k
          · subst e; exact hz
          · exact HZ.out j (by omega)
        case measure => simp [intOf]; omega
    · obtain rfl : k = n := by omega
      go_wp2
      go_ret
      refine ⟨?_, rfl⟩
      rw [HB.out.2 HZ.out]; rfl
theorem specFin_any (x : Nat) (b : Bool) (w : World) (hx : x < 4294967296) (h : finB x = b) :
    Calls Try.prog 96 #[.float .f32 x] w fun e w' => e = .returned (.bool b) ∧ ∃ n, w' = w.drewN n := by
  subst h
  go_enter Try.func96, Try.ntmps96
  go_wp2_with (first | (with_reducible_and_instances refine wpList_fop _ rfl _ _ _ _ _ rfl _ _ _ rfl rfl rfl ?_; intro r n hr))
  go_ret
  refine ⟨ret_bool ?_, n, rfl⟩
  rw [order_ab, hr.2, sub_self_any, rung32, ir32]
  unfold finB
  by_cases h : x % 2147483648 < 2139095040
  · rw [if_pos h, decide_eq_true h]; rfl
  · rw [if_neg h, decide_eq_false h]; rfl
end Go.Proofs.Ytkcnjaelfajckaa
