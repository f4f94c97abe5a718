/- The greatest size, and sums of products. -/
import Derived.Test.YtfgebggfoboalaaSb
import Derived.Test.YtfgebggfoboalaaWb
import Derived.StillTailTactics
set_option linter.unusedVariables false
set_option linter.unusedSimpArgs false
namespace Go.Proofs.Ytfgebggfoboalaa
open Fl Go.RowKit

def sizeN (b : Nat) : Nat := b % 2147483648
/-- the greatest size of the first words -/
def peakN (xs : List Nat) : Nat → Nat
  | 0 => 0
  | k + 1 => if (FloatKind.f32.format.order (sizeN (wd xs k)) (peakN xs k) == some .gt) = true then sizeN (wd xs k) else peakN xs k
theorem sizeN_lt (b : Nat) : sizeN b < 4294967296 := by unfold sizeN; omega
theorem peakN_lt (xs : List Nat) (k : Nat) : peakN xs k < 4294967296 := by
  induction k with
  | zero => exact (by decide : (0 : Nat) < 4294967296)
  | succ k ih => unfold peakN; split; exact sizeN_lt _; exact ih
theorem fv_self {r : Nat} (h : r < 4294967296) : Fv .f32 r (ab .f32 r) := ⟨h, rfl⟩
/-- what the model compares: all not-a-numbers are one -/
def sizeM (b : Nat) : Nat := bitsO (ab .f32 b) % 2147483648
theorem sizeM_ord (b p : Nat) : (FloatKind.f32.format.order (sizeM b) p == some .gt) = (FloatKind.f32.format.order (sizeN b) p == some .gt) ∧ ((FloatKind.f32.format.order (sizeN b) p == some .gt) = true → sizeM b = sizeN b) := by
  unfold sizeM
  cases h : ab .f32 b with
  | none =>
    have e1 : ab .f32 (sizeN b) = none := by
      rw [ab32] at h ⊢; unfold sizeN
      split at h
      · rw [if_pos (by omega)]
      · cases h
    have e2 : ab .f32 (2143289344 % 2147483648) = none := by rw [ab32]; rfl
    have o1 : FloatKind.f32.format.order (sizeN b) p = none := ord_none e1
    have o2 : FloatKind.f32.format.order (2143289344 % 2147483648) p = none := ord_none e2
    simp only [bitsO]
    rw [o1, o2]
    exact ⟨rfl, fun h => by cases h⟩
  | some c =>
    obtain rfl := ab_some h
    exact ⟨rfl, fun _ => rfl⟩
theorem bits_clear64 {p : Nat} (hp : p < 4294967296) : bits .andNot .i64 (p : Int) 2147483648 = ((p % 2147483648 : Nat) : Int) := by
  have h : (BitVec.ofInt 64 (p : Int) &&& ~~~ BitVec.ofInt 64 2147483648).toNat = p % 2147483648 := by
    have e1 : BitVec.ofInt 64 2147483648 = BitVec.ofNat 64 (2 ^ 31) := rfl
    have e2 : BitVec.ofInt 64 (p : Int) = BitVec.ofNat 64 p := BitVec.ofInt_natCast ..
    rw [e1, e2]
    apply Nat.eq_of_testBit_eq
    intro i
    rw [BitVec.toNat_and, Nat.testBit_and]
    have e3 : (2147483648 : Nat) = 2 ^ 31 := rfl
    rw [e3, Nat.testBit_mod_two_pow]
    rw [BitVec.toNat_ofNat, Nat.mod_eq_of_lt (by omega : p < 2 ^ 64)]
    rw [show (~~~BitVec.ofNat 64 (2 ^ 31)).toNat = 2 ^ 64 - 1 - 2 ^ 31 from rfl]
    by_cases hi : i < 31
    · have : (2 ^ 64 - 1 - 2 ^ 31 : Nat).testBit i = true := by
        have : ∀ j : Fin 31, (2 ^ 64 - 1 - 2 ^ 31 : Nat).testBit j.val = true := by decide
        exact this ⟨i, hi⟩
      rw [this]; simp [hi]
    · by_cases h31 : i = 31
      · subst h31
        have : (2 ^ 64 - 1 - 2 ^ 31 : Nat).testBit 31 = false := by decide
        rw [this]; simp
      · have : p.testBit i = false := Nat.testBit_lt_two_pow (Nat.lt_of_lt_of_le hp (by
          have : (4294967296 : Nat) = 2 ^ 32 := rfl
          rw [this]; exact Nat.pow_le_pow_right (by omega) (by omega)))
        rw [this]; simp
  show IntKind.i64.wrap ((BitVec.ofInt 64 (p : Int) &&& ~~~ BitVec.ofInt 64 2147483648).toNat : Int) = _
  rw [h, IntKind.wrap_i64]
  omega

theorem implSize_any (b : Nat) (w : World) (hb : b < 4294967296) :
    Calls Try.prog 45 #[.float .f32 b] w fun e w' => e = .returned (.float .f32 (sizeN b)) ∧ w = w' := by
  go_enter Try.func45, Try.ntmps45
  go_wp2_with (first | (go_at_call 31; refine (patternOf_any _ _).mono ?_; rintro e w' ⟨rfl, rfl⟩) | (go_at_call 58; refine (withoutSign_any _ _ hb).mono ?_; rintro e w' ⟨rfl, rfl⟩) | (go_at_call 59; refine (number_any (b % 2147483648) _).mono ?_; rintro e w' ⟨rfl, rfl⟩))
  go_ret
  exact ⟨rfl, rfl⟩

/-- (since 1a6c19e) the greatest size without a limit -/
theorem implPeakRun_any (A : Option Addr) (n c : Nat) (xs : List Nat) (w : World) (B : Nat) (h : Fs w B A n xs) (hn : n ≤ 1048576) :
    Calls Try.prog 26 #[.slice A n c] w fun e w' => e = .returned (.float .f32 (peakN xs n)) ∧ w = w' := by
  have H := Lib.hid h
  clear h
  go_enter Try.func26, Try.ntmps26
  go_wp2
  go_loopw [3, 9] (fun s i wr => ∃ k : Nat, k ≤ n ∧ i = .int .i64 k ∧ s = .float .f32 (peakN xs k) ∧ wr = w) (fun _ i _ => n - (intOf i).toNat)
  case atStart => exact ⟨0, Nat.zero_le _, rfl, rfl, rfl⟩
  case round =>
    obtain ⟨k, hk, rfl, rfl, rfl⟩ := hrel
    by_cases hlt : k < n
    · obtain ⟨g, off, rfl, hg, hc1⟩ := H.out.2.2 (by omega)
      have hcell : wr.cell? ⟨g, off + k, none⟩ = some (.float .f32 (wd xs k)) := hc1 k hlt
      clear hc1
      have hw := H.out.2.1.at_ k
      cases ho : (FloatKind.f32.format.order (sizeN (wd xs k)) (peakN xs k) == some .gt)
      all_goals
        have HO := Lib.hid ho
        go_wp2_with (go_at_call 45; refine (implSize_any _ _ hw).mono ?_; rintro e w' ⟨rfl, rfl⟩)
        go_roundw
        case rel =>
          refine ⟨k + 1, by omega, by go_num, ?_, trivial⟩
          have h1 := HO.out
          first
            | (have e : peakN xs (k + 1) = peakN xs k := by
                 show (if _ then _ else _) = _
                 rw [h1]; rfl
               rw [e])
            | (have e : peakN xs (k + 1) = sizeN (wd xs k) := by
                 show (if _ then _ else _) = _
                 rw [h1]; rfl
               rw [e])
        case measure => simp [intOf]; omega
    · go_wp2
      go_ret
      obtain rfl : k = n := by omega
      exact ⟨rfl, rfl⟩
theorem implPeak_any (A : Option Addr) (n c : Nat) (xs : List Nat) (w : World) (B : Nat) (h : Fs w B A n xs) (hn : n ≤ 1048576) :
    Calls Try.prog 12 #[.slice A n c] w (RetFB .f32 (if n ≤ 256 then ab .f32 (peakN xs n) else some 0) (decide (n ≤ 256)) w) := by
  have H := Lib.hid h
  clear h
  by_cases hle : n ≤ 256
  · rw [if_pos hle, decide_eq_true hle]
    have hd : decide ((n : Int) ≤ 256) = true := decide_eq_true (by omega)
    go_enter Try.func12, Try.ntmps12
    go_wp2_with (first | (go_at_call 25; refine (implFew_any _ _ _ _ _ hd).mono ?_; rintro e w' ⟨rfl, rfl⟩) | (go_at_call 26; refine (implPeakRun_any _ _ _ _ _ _ H.out hn).mono ?_; rintro e w' ⟨rfl, rfl⟩))
    go_ret2
    exact ⟨peakN xs n, 0, rfl, fv_self (peakN_lt _ _), rfl⟩
  · rw [if_neg hle, decide_eq_false hle]
    have hd : decide ((n : Int) ≤ 256) = false := decide_eq_false (by omega)
    go_enter Try.func12, Try.ntmps12
    go_wp2_with (go_at_call 25; refine (implFew_any _ _ _ _ _ hd).mono ?_; rintro e w' ⟨rfl, rfl⟩)
    go_ret2
    exact ⟨0, 0, rfl, fv32z, rfl⟩

/-- sums of products, from left to right -/
def dotO (xs ys : List Nat) : Nat → Option Nat
  | 0 => some 0
  | k + 1 => opO .add .f32 (dotO xs ys k) (opO .mul .f32 (ab .f32 (wd xs k)) (ab .f32 (wd ys k)))

theorem implPair_any (A C : Option Addr) (n c n2 d : Nat) (b : Bool) (w : World) (hb : decide (n ≤ 256 ∧ n = n2) = b) :
    Calls Try.prog 39 #[.slice A n c, .slice C n2 d] w fun e w' => e = .returned (.bool b) ∧ w = w' := by
  by_cases he : n = n2
  · subst he
    have hd : decide ((n : Int) ≤ 256) = b := by rw [← hb, Bool.eq_iff_iff]; simp; omega
    clear hb
    go_enter Try.func39, Try.ntmps39
    go_wp2_with (go_at_call 25; refine (implFew_any _ _ _ _ _ hd).mono ?_; rintro e w' ⟨rfl, rfl⟩)
    go_ret
    exact ⟨by simp, rfl⟩
  · have hne : ((n : Int) == n2) = false := by simp; omega
    have hb' : b = false := by rw [← hb]; simp; omega
    subst hb'
    clear hb
    go_enter Try.func39, Try.ntmps39
    go_wp2
    go_ret
    exact ⟨rfl, rfl⟩

theorem implDot_any (A : Option Addr) (n c : Nat) (xs : List Nat) (C : Option Addr) (n2 d : Nat) (ys : List Nat) (w : World) (B : Nat) (h : Fs w B A n xs) (h2 : Fs w B C n2 ys) (hn : n ≤ 1048576) (hn2 : n2 ≤ 1048576) :
    Calls Try.prog 19 #[.slice A n c, .slice C n2 d] w (RetFB .f32 (if n ≤ 256 ∧ n = n2 then dotO xs ys n else some 0) (decide (n ≤ 256 ∧ n = n2)) w) := by
  by_cases hle : n ≤ 256 ∧ n = n2
  · rw [if_pos hle]
    have hd : decide (n ≤ 256 ∧ n = n2) = true := decide_eq_true hle
    rw [hd]
    obtain ⟨hle, rfl⟩ := hle
    have H := Lib.hid h
    have H2 := Lib.hid h2
    have HD := Lib.hid hd
    clear h h2 hd
    go_enter Try.func19, Try.ntmps19
    go_wp2_with (go_at_call 39; refine (implPair_any _ _ _ _ _ _ _ _ HD.out).mono ?_; rintro e w' ⟨rfl, rfl⟩)
    go_loopw [6, 15] (fun s i wr => ∃ k m r : Nat, k ≤ n ∧ i = .int .i64 k ∧ s = .float .f32 r ∧ Fv .f32 r (dotO xs ys k) ∧ wr = w.drewN m) (fun _ i _ => n - (intOf i).toNat)
    case atStart => exact ⟨0, 0, 0, Nat.zero_le _, rfl, rfl, fv32z, rfl⟩
    case round =>
      obtain ⟨k, m, r, hk, rfl, rfl, hr, rfl⟩ := hrel
      have HR := Lib.hid hr
      clear hr
      by_cases hlt : k < n
      · obtain ⟨g, off, rfl, hg, hc1⟩ := H.out.2.2 (by omega)
        obtain ⟨g', off', rfl, hg', hc2⟩ := H2.out.2.2 (by omega)
        have hcell : w.cell? ⟨g, off + k, none⟩ = some (.float .f32 (wd xs k)) := hc1 k hlt
        have hcell2 : w.cell? ⟨g', off' + k, none⟩ = some (.float .f32 (wd ys k)) := hc2 k hlt
        clear hc1 hc2
        go_wp2_with (first | (with_reducible_and_instances refine wpList_fop _ rfl .mul _ _ _ _ rfl _ _ _ rfl rfl rfl ?_; intro rM nM hM; have HM := Lib.hid hM; clear hM) | (with_reducible_and_instances refine wpList_fop _ rfl .add _ _ _ _ rfl _ _ _ rfl rfl rfl ?_; intro r1 n1 hr1; have HR1 := Lib.hid hr1; clear hr1))
        go_roundw
        case rel =>
          refine ⟨k + 1, _, r1, by omega, by go_num, rfl, ?_, rfl⟩
          have h1 := HR1.out
          rw [HR.out.2, HM.out.2] at h1
          exact h1
        case measure => simp [intOf]; omega
      · go_wp2
        go_ret2
        obtain rfl : k = n := by omega
        exact ⟨r, m, rfl, HR.out, rfl⟩
  · rw [if_neg hle]
    have hd : decide (n ≤ 256 ∧ n = n2) = false := decide_eq_false hle
    rw [hd]
    have HD := Lib.hid hd
    clear h h2 hd
    go_enter Try.func19, Try.ntmps19
    go_wp2_with (go_at_call 39; refine (implPair_any _ _ _ _ _ _ _ _ HD.out).mono ?_; rintro e w' ⟨rfl, rfl⟩)
    go_ret2
    exact ⟨0, 0, rfl, fv32z, rfl⟩
end Go.Proofs.Ytfgebggfoboalaa
