/- The check number of a text. -/
import Derived.Test.YtcckoplpdehgoacSm
import Derived.Test.YtcckoplpdehgoacWb
import Derived.Lib.Hide
set_option linter.unusedVariables false
set_option linter.unusedSimpArgs false
namespace Go.Proofs.Ytcckoplpdehgoac
open Fl Go.RowKit

/-- a text's byte, nought behind its end -/
def byteN (s : ByteArray) (k : Nat) : Nat := if h : k < s.size then s[k].toNat else 0
theorem byteN_eq {s : ByteArray} {k : Nat} (h : k < s.size) : byteN s k = s[k].toNat := by unfold byteN; rw [dif_pos h]
theorem byteN_lt (s : ByteArray) (k : Nat) : byteN s k < 256 := by
  unfold byteN; split
  · exact s[k].toNat_lt
  · omega
def chkN (s : ByteArray) (c : Nat) : Nat → Nat
  | 0 => c
  | k + 1 => (577 * chkN s c k + byteN s k + 21) % 65003
theorem chkN_lt (s : ByteArray) (c : Nat) (h : c < 65003) (k : Nat) : chkN s c k < 65003 := by
  cases k with
  | zero => exact h
  | succ k => exact Nat.mod_lt _ (by omega)

theorem specChk0_any (c : Nat) (s : ByteArray) (w : World) (hc : c < 65003) (hs : s.size ≤ maxLen) :
    Calls Try.prog 37 #[.int .i64 c, .string s] w fun e w' => e = .returned (.int .i64 (chkN s c s.size : Nat)) ∧ w = w' := by
  unfold maxLen at hs
  go_enter Try.func37, Try.ntmps37
  go_wp2
  go_loop [0, 5] (fun c' i => ∃ k : Nat, k ≤ s.size ∧ i = .int .i64 k ∧ c' = .int .i64 (chkN s c k : Nat)) (fun _ i => s.size - (intOf i).toNat)
  case atStart => exact ⟨0, Nat.zero_le _, rfl, rfl⟩
  case round =>
    obtain ⟨k, hk, rfl, rfl⟩ := hrel
    have hl := chkN_lt s c hc k
    by_cases hlt : k < s.size
    · have hb := byteN_lt s k
      have HB := Lib.hid (byteN_eq hlt)
      have hb2 : s[k].toNat < 256 := by rw [← HB.out]; exact hb
      go_wp2
      go_round
      case rel =>
        refine ⟨k + 1, by omega, by go_num, ?_⟩
        have e : chkN s c (k + 1) = (577 * chkN s c k + byteN s k + 21) % 65003 := rfl
        rw [e, HB.out]
        go_num
      case measure => simp [intOf]; omega
    · go_wp2
      go_ret
      obtain rfl : k = s.size := by omega
      exact ⟨rfl, rfl⟩

theorem specCheck_any (n : Int) (s : ByteArray) (w : World) (hs : s.size ≤ maxLen) :
    Calls Try.prog 23 #[.int .i64 n, .string s] w fun e w' => e = .returned (.tuple #[.int .i64 (if inB n 0 65002 then (chkN s n.toNat s.size : Nat) else 0), .bool (inB n 0 65002)]) ∧ w = w' := by
  cases h : inB n 0 65002
  · go_enter Try.func23, Try.ntmps23
    go_wp2_with (go_at_call 36; refine (l00In_any _ _ _ _).mono ?_; rintro e w' ⟨rfl, rfl⟩)
    go_ret2
    exact ⟨rfl, rfl⟩
  · obtain ⟨c, rfl⟩ : ∃ c : Nat, n = c := ⟨n.toNat, by simp [inB] at h; omega⟩
    have hc : c < 65003 := by simp [inB] at h; omega
    go_enter Try.func23, Try.ntmps23
    go_wp2_with (first | (go_at_call 36; refine (l00In_any _ _ _ _).mono ?_; rintro e w' ⟨rfl, rfl⟩) | (go_at_call 37; refine (specChk0_any c s _ hc hs).mono ?_; rintro e w' ⟨rfl, rfl⟩))
    go_ret2
    exact ⟨rfl, rfl⟩

theorem implCheck_any (n : Int) (s : ByteArray) (w : World) (hs : s.size ≤ maxLen) :
    Calls Try.prog 24 #[.int .i64 n, .string s] w fun e w' => e = .returned (.tuple #[.int .i64 (if inB n 0 65002 then (chkN s n.toNat s.size : Nat) else 0), .bool (inB n 0 65002)]) ∧ w = w' := by
  unfold maxLen at hs
  cases h : inB n 0 65002
  · have h2 : n < 0 ∨ (0 ≤ n ∧ 65003 ≤ n) := by simp [inB] at h; omega
    clear h
    rcases h2 with h | ⟨h, h'⟩
    all_goals
      go_enter Try.func24, Try.ntmps24
      go_wp2
      go_ret2
      exact ⟨rfl, rfl⟩
  · obtain ⟨c, rfl⟩ : ∃ c : Nat, n = c := ⟨n.toNat, by simp [inB] at h; omega⟩
    have hc : c < 65003 := by simp [inB] at h; omega
    have hc1 : decide ((c : Int) < 0) = false := decide_eq_false (by omega)
    have hc2 : decide ((65003 : Int) ≤ c) = false := decide_eq_false (by omega)
    clear h
    go_enter Try.func24, Try.ntmps24
    go_wp2
    go_loop [6, 17] (fun c' i => ∃ k : Nat, k ≤ s.size ∧ i = .int .i64 k ∧ c' = .int .i64 (chkN s c k : Nat)) (fun _ i => s.size - (intOf i).toNat)
    case atStart => exact ⟨0, Nat.zero_le _, rfl, rfl⟩
    case round =>
      obtain ⟨k, hk, rfl, rfl⟩ := hrel
      have hl := chkN_lt s c hc k
      by_cases hlt : k < s.size
      · have hb := byteN_lt s k
        have HB := Lib.hid (byteN_eq hlt)
        have hb2 : s[k].toNat < 256 := by rw [← HB.out]; exact hb
        go_wp2
        go_round
        case rel =>
          refine ⟨k + 1, by omega, by go_num, ?_⟩
          have e : chkN s c (k + 1) = (577 * chkN s c k + byteN s k + 21) % 65003 := rfl
          rw [e, HB.out]
          go_num
        case measure => simp [intOf]; omega
      · go_wp2
        go_ret2
        obtain rfl : k = s.size := by omega
        exact ⟨rfl, rfl⟩

theorem lawCheckOf (n : Int) (s : ByteArray) (w : World) (_ : (Lit.int .i64 n).wf = true) (hs : s.size ≤ maxLen) :
    Calls Try.prog 7 #[.int .i64 n, .string s] w fun e w' => e = .returned (.bool true) ∧ w.Since w.heap.size w' := by
  by_cases h : s.size ≤ 1048576
  · have hd : decide ((1048576 : Int) < s.size) = false := decide_eq_false (by omega)
    go_enter Try.func7, Try.ntmps7
    go_wp2_with (first | (go_at_call 23; refine (specCheck_any _ _ _ hs).mono ?_; rintro e w' ⟨rfl, rfl⟩) | (go_at_call 24; refine (implCheck_any _ _ _ hs).mono ?_; rintro e w' ⟨rfl, rfl⟩))
    all_goals (go_ret; exact ⟨rfl, World.Since.refl _ _⟩)
  · have hd : decide ((1048576 : Int) < s.size) = true := decide_eq_true (by omega)
    go_enter Try.func7, Try.ntmps7
    go_wp2
    go_ret
    exact ⟨rfl, World.Since.refl _ _⟩
end Go.Proofs.Ytcckoplpdehgoac
