/- Sums from left to right. -/
import Derived.Test.YtfgebggfoboalaaSa
set_option linter.unusedVariables false
set_option linter.unusedSimpArgs false
namespace Go.Proofs.Ytfgebggfoboalaa
open Fl Go.RowKit

/-- the sum of the first words, from left to right -/
def sumO (xs : List Nat) : Nat → Option Nat
  | 0 => some 0
  | k + 1 => opO .add .f32 (sumO xs k) (ab .f32 (wd xs k))

theorem ab32z : ab .f32 0 = some 0 := by rw [ab32]; rfl
theorem fv32z : Fv .f32 0 (some 0) := ⟨by decide, ab32z⟩
theorem fv_ab {r : Nat} {v : Option Nat} {k : FloatKind} (h : Fv k r v) : ab k r = v := h.2

theorem implFew_any (A : Option Addr) (n c : Nat) (b : Bool) (w : World) (hd : decide ((n : Int) ≤ 256) = b) :
    Calls Try.prog 25 #[.slice A n c] w fun e w' => e = .returned (.bool b) ∧ w = w' := by
  go_enter Try.func25, Try.ntmps25
  go_wp2
  go_ret
  exact ⟨by simp, rfl⟩
theorem implSum_any (A : Option Addr) (n c : Nat) (xs : List Nat) (w : World) (B : Nat) (h : Fs w B A n xs) (hn : n ≤ 1048576) :
    Calls Try.prog 54 #[.slice A n c] w (RetFB .f32 (if n ≤ 256 then sumO xs n else some 0) (decide (n ≤ 256)) w) := by
  have H := Lib.hid h
  clear h
  by_cases hle : n ≤ 256
  · rw [if_pos hle, decide_eq_true hle]
    have hd : decide ((n : Int) ≤ 256) = true := decide_eq_true (by omega)
    go_enter Try.func54, Try.ntmps54
    go_wp2_with (go_at_call 25; refine (implFew_any _ _ _ _ _ hd).mono ?_; rintro e w' ⟨rfl, rfl⟩)
    go_loopw [4, 12] (fun s i wr => ∃ k m r : Nat, k ≤ n ∧ i = .int .i64 k ∧ s = .float .f32 r ∧ Fv .f32 r (sumO xs k) ∧ wr = w.drewN m) (fun _ i _ => n - (intOf i).toNat)
    case atStart => exact ⟨0, 0, 0, Nat.zero_le _, rfl, rfl, fv32z, rfl⟩
    case round =>
      obtain ⟨k, m, r, hk, rfl, rfl, hr, rfl⟩ := hrel
      have HR := Lib.hid hr
      clear hr
      by_cases hlt : k < n
      · obtain ⟨g, off, rfl, hg, hc1⟩ := H.out.2.2 (by omega)
        have hcell : w.cell? ⟨g, off + k, none⟩ = some (.float .f32 (wd xs k)) := hc1 k hlt
        clear hc1
        go_wp2_with (with_reducible_and_instances refine wpList_fop _ rfl _ _ _ _ _ rfl _ _ _ rfl rfl rfl ?_; intro r1 n1 hr1; have HR1 := Lib.hid hr1; clear hr1)
        go_roundw
        case rel => exact ⟨k + 1, _, r1, by omega, by go_num, rfl, by have := HR1.out; rw [fv_ab HR.out] at this; exact this, rfl⟩
        case measure => simp [intOf]; omega
      · go_wp2
        go_ret2
        obtain rfl : k = n := by omega
        exact ⟨r, m, rfl, HR.out, rfl⟩
  · rw [if_neg hle, decide_eq_false hle]
    have hd : decide ((n : Int) ≤ 256) = false := decide_eq_false (by omega)
    go_enter Try.func54, Try.ntmps54
    go_wp2_with (go_at_call 25; refine (implFew_any _ _ _ _ _ hd).mono ?_; rintro e w' ⟨rfl, rfl⟩)
    go_ret2
    exact ⟨0, 0, rfl, fv32z, rfl⟩
end Go.Proofs.Ytfgebggfoboalaa
