/- Names. -/
import Derived.Test.YtcckoplpdehgoacSk
set_option linter.unusedVariables false
set_option linter.unusedSimpArgs false
namespace Go.Proofs.Ytcckoplpdehgoac
open Fl Go.RowKit

def letB (b : Nat) : Bool := decide (97 ≤ b) && decide (b ≤ 122)
def allL (s : ByteArray) (k : Nat) : Prop := ∀ j, j < k → letB (byteN s j) = true
def nameB (s : ByteArray) : Bool := decide (1 ≤ s.size) && decide (s.size ≤ 8) && (List.range s.size).all fun j => letB (byteN s j)
theorem nameB_all {s : ByteArray} (h : allL s s.size) : nameB s = (decide (1 ≤ s.size) && decide (s.size ≤ 8)) := by
  have : (List.range s.size).all (fun j => letB (byteN s j)) = true := List.all_eq_true.2 fun j hj => h j (List.mem_range.1 hj)
  unfold nameB; rw [this, Bool.and_true]
theorem nameB_not {s : ByteArray} {j : Nat} (hj : j < s.size) (h : letB (byteN s j) = false) : nameB s = false := by
  have : (List.range s.size).all (fun j => letB (byteN s j)) = false := by
    rw [Bool.eq_false_iff]
    intro hall
    have := List.all_eq_true.1 hall j (List.mem_range.2 hj)
    rw [h] at this; cases this
  unfold nameB; rw [this, Bool.and_false]
theorem allL_succ {s : ByteArray} {k : Nat} (h : allL s k) (hk : letB (byteN s k) = true) : allL s (k + 1) := fun j hj => by
  rcases Nat.lt_or_ge j k with h1 | h1
  · exact h j h1
  · obtain rfl : j = k := by omega
    exact hk

theorem specName_any (s : ByteArray) (w : World) (hs : s.size ≤ maxLen) :
    Calls Try.prog 21 #[.string s] w fun e w' => e = .returned (.bool (nameB s)) ∧ w = w' := by
  unfold maxLen at hs
  go_enter Try.func21, Try.ntmps21
  go_wp2
  go_loop [3] (fun i => ∃ k : Nat, k ≤ s.size ∧ i = .int .i64 k ∧ allL s k) (fun i => s.size - (intOf i).toNat)
  case atStart => exact ⟨0, Nat.zero_le _, rfl, fun j hj => by omega⟩
  case round =>
    obtain ⟨k, hk, rfl, hall⟩ := hrel
    have HL := Lib.hid hall
    clear hall
    by_cases hlt : k < s.size
    · have HB := Lib.hid (byteN_eq hlt)
      by_cases h1 : s[k].toNat < 97
      · have hd1 : decide ((s[k].toNat : Int) < 97) = true := decide_eq_true (by omega)
        go_wp2
        go_ret
        exact ⟨ret_bool (nameB_not hlt (by rw [HB.out]; unfold letB; rw [decide_eq_false (by omega)]; rfl)).symm, rfl⟩
      · have hd1 : decide ((s[k].toNat : Int) < 97) = false := decide_eq_false (by omega)
        by_cases h2 : 122 < s[k].toNat
        · have hd2 : decide ((122 : Int) < (s[k].toNat : Int)) = true := decide_eq_true (by omega)
          go_wp2
          go_ret
          exact ⟨ret_bool (nameB_not hlt (by rw [HB.out]; unfold letB; rw [decide_eq_true (by omega), decide_eq_false (by omega)]; rfl)).symm, rfl⟩
        · have hd2 : decide ((122 : Int) < (s[k].toNat : Int)) = false := decide_eq_false (by omega)
          go_wp2
          go_round
          case rel => exact ⟨k + 1, by omega, by go_num, allL_succ HL.out (by rw [HB.out]; unfold letB; rw [decide_eq_true (by omega), decide_eq_true (by omega)]; rfl)⟩
          case measure => simp [intOf]; omega
    · obtain rfl : k = s.size := by omega
      have HN := Lib.hid (nameB_all HL.out)
      by_cases h1 : 1 ≤ s.size
      · have hd1 : decide ((1 : Int) ≤ (s.size : Int)) = true := decide_eq_true (by omega)
        go_wp2
        go_ret
        refine ⟨ret_bool ?_, rfl⟩
        rw [HN.out, Bool.eq_iff_iff]; simp; omega
      · have hd1 : decide ((1 : Int) ≤ (s.size : Int)) = false := decide_eq_false (by omega)
        go_wp2
        go_ret
        refine ⟨ret_bool ?_, rfl⟩
        rw [HN.out, Bool.eq_iff_iff]; simp; omega

theorem isLetter_any (r : Int) (b : Bool) (w : World) (hb : (decide (97 ≤ r) && decide (r ≤ 122)) = b) :
    Calls Try.prog 35 #[.int .i32 r] w fun e w' => e = .returned (.bool b) ∧ w = w' := by
  by_cases h : 97 ≤ r
  all_goals
    go_enter Try.func35, Try.ntmps35
    go_wp2
    go_ret
    exact ⟨ret_bool (by rw [← hb, Bool.eq_iff_iff]; simp; omega), rfl⟩

theorem implName_any (s : ByteArray) (w : World) (hs : s.size ≤ maxLen) :
    Calls Try.prog 22 #[.string s] w fun e w' => e = .returned (.bool (nameB s)) ∧ w.Since w.heap.size w' := by
  unfold maxLen at hs
  by_cases h1 : s.size < 1
  · have hn : nameB s = false := by unfold nameB; rw [decide_eq_false (by omega)]; rfl
    have hd1 : decide ((s.size : Int) < 1) = true := decide_eq_true (by omega)
    rw [hn]
    go_enter Try.func22, Try.ntmps22
    go_wp2
    go_ret
    exact ⟨rfl, World.Since.refl _ _⟩
  · have hd1 : decide ((s.size : Int) < 1) = false := decide_eq_false (by omega)
    by_cases h2 : 8 < s.size
    · have hn : nameB s = false := by unfold nameB; rw [decide_eq_true (by omega : 1 ≤ s.size), decide_eq_false (by omega)]; rfl
      have hd2 : decide ((8 : Int) < (s.size : Int)) = true := decide_eq_true (by omega)
      rw [hn]
      go_enter Try.func22, Try.ntmps22
      go_wp2
      go_ret
      exact ⟨rfl, World.Since.refl _ _⟩
    · have hd2 : decide ((8 : Int) < (s.size : Int)) = false := decide_eq_false (by omega)
      go_enter Try.func22, Try.ntmps22
      go_wp2
      go_loopw [4, 15] (fun _ _ wr => ∃ k : Nat, k ≤ s.size ∧ allL s k ∧ wr = w.iter s k) (fun _ _ wr => match wr.heap[w.heap.size]? with | some (.stringIter _ p) => s.size - p | _ => 0)
      case atStart => exact ⟨0, Nat.zero_le _, (fun j hj => by omega), rfl⟩
      case round =>
        obtain ⟨k, hk, hall, rfl⟩ := hrel
        have HL := Lib.hid hall
        clear hall
        have hS : ∀ p, w.Since w.heap.size (w.iter s p) := fun p => (World.Since.refl _ _).alloc (Nat.le_refl _) _
        have HS := Lib.hid hS
        clear hS
        have HI := Lib.hid (World.iter_heap w s)
        by_cases hlt : k < s.size
        · have HB := Lib.hid (byteN_eq hlt)
          by_cases ha : s[k].toNat < 128
          · have hnx := fun ty => run_next_ascii (P := Try.prog) w s k ty hlt ha
            cases hb : letB s[k].toNat
            · have hb' : (decide ((97 : Int) ≤ (s[k].toNat : Int)) && decide ((s[k].toNat : Int) ≤ 122)) = false := by rw [← hb]; unfold letB; rw [Bool.eq_iff_iff]; simp; omega
              have HX := Lib.hid hb'
              have HN := Lib.hid (nameB_not hlt (by rw [HB.out]; exact hb))
              clear hb hb'
              go_wp2_with (go_at_call 35; refine (isLetter_any _ _ _ HX.out).mono ?_; rintro e w' ⟨rfl, rfl⟩)
              go_ret
              exact ⟨ret_bool HN.out.symm, HS.out _⟩
            · have hb' : (decide ((97 : Int) ≤ (s[k].toNat : Int)) && decide ((s[k].toNat : Int) ≤ 122)) = true := by rw [← hb]; unfold letB; rw [Bool.eq_iff_iff]; simp; omega
              have HX := Lib.hid hb'
              have HY := Lib.hid hb
              clear hb hb'
              go_wp2_with (go_at_call 35; refine (isLetter_any _ _ _ HX.out).mono ?_; rintro e w' ⟨rfl, rfl⟩)
              go_roundw
              case rel => exact ⟨k + 1, by omega, allL_succ HL.out (by rw [HB.out]; exact HY.out), rfl⟩
              case measure => rw [HI.out, HI.out]; show s.size - (k + 1) < s.size - k; omega
          · have hnx := fun ty => run_next_any (P := Try.prog) w s k ty hlt
            have hd := decode_high s k hlt (by omega)
            obtain ⟨r, hr⟩ : ∃ r, r = (Utf8.decode s k).1 := ⟨_, rfl⟩
            rw [← hr] at hnx hd
            have hb' : (decide ((97 : Int) ≤ (r : Int)) && decide ((r : Int) ≤ 122)) = false := by rw [Bool.eq_false_iff]; simp; omega
            have HX := Lib.hid hb'
            have HN := Lib.hid (nameB_not (s := s) hlt (by rw [HB.out]; unfold letB; rw [decide_eq_false (by omega : ¬ s[k].toNat ≤ 122), Bool.and_false]))
            clear hb' hd hr
            go_wp2_with (go_at_call 35; refine (isLetter_any _ _ _ HX.out).mono ?_; rintro e w' ⟨rfl, rfl⟩)
            go_ret
            exact ⟨ret_bool HN.out.symm, HS.out _⟩
        · have hnx := fun ty => run_next_end (P := Try.prog) w s k ty hlt
          obtain rfl : k = s.size := by omega
          have HN := Lib.hid (nameB_all HL.out)
          go_wp2
          go_ret
          refine ⟨ret_bool ?_, HS.out _⟩
          rw [HN.out, Bool.eq_iff_iff]; simp; omega

theorem lawIsName (s : ByteArray) (w : World) (hs : s.size ≤ maxLen) :
    Calls Try.prog 6 #[.string s] w fun e w' => e = .returned (.bool true) ∧ w.Since w.heap.size w' := by
  by_cases h : s.size ≤ 1048576
  · have hd : decide ((1048576 : Int) < s.size) = false := decide_eq_false (by omega)
    go_enter Try.func6, Try.ntmps6
    go_wp2_with (first | (go_at_call 21; refine (specName_any _ _ hs).mono ?_; rintro e w' ⟨rfl, rfl⟩) | (go_at_call 22; refine (implName_any _ _ hs).mono ?_; rintro e w1 ⟨rfl, hs1⟩; have HS := Lib.hid hs1; clear hs1))
    go_ret
    exact ⟨rfl, HS.out⟩
  · have hd : decide ((1048576 : Int) < s.size) = true := decide_eq_true (by omega)
    go_enter Try.func6, Try.ntmps6
    go_wp2
    go_ret
    exact ⟨rfl, World.Since.refl _ _⟩
end Go.Proofs.Ytcckoplpdehgoac
