/- The law of bits: numbers, their bits, and their neighbours. -/
import Derived.Test.YtogbejgbaenfdaaHh
import Derived.Test.YtogbejgbaenfdaaWc
set_option linter.unusedVariables false
set_option linter.unusedSimpArgs false
namespace Go.Proofs.Ytogbejgbaenfdaa
open Fl Go.RowKit
theorem neg32' (b : Nat) (h : b < 4294967296) : Op.negFloat .f32 b = if b < 2147483648 then b + 2147483648 else b - 2147483648 := by
  have e2 := neg_mod .f32 b
  rw [sw32] at e2
  unfold Op.negFloat at e2 ⊢
  have e3 : (b ^^^ (2 ^ (FloatKind.f32.format.exponentBits + FloatKind.f32.format.fractionBits))) / 2147483648 = (b / 2147483648) ^^^ 1 := by
    rw [show (2 : Nat) ^ (FloatKind.f32.format.exponentBits + FloatKind.f32.format.fractionBits) = 2 ^ 31 by decide, show (2147483648 : Nat) = 2 ^ 31 by decide, ← Nat.shiftRight_eq_div_pow, Nat.shiftRight_xor_distrib, Nat.shiftRight_eq_div_pow, Nat.shiftRight_eq_div_pow]
  by_cases hb : b < 2147483648
  · rw [show b / 2147483648 = 0 by omega] at e3
    rw [if_pos hb]
    have : (0 ^^^ 1 : Nat) = 1 := by decide
    omega
  · rw [show b / 2147483648 = 1 by omega] at e3
    rw [if_neg hb]
    have : (1 ^^^ 1 : Nat) = 0 := by decide
    omega
/-- a word that is a number, and the place of it among the others -/
structure Nu (b : Nat) (k : Int) : Prop where
  lt : b < 4294967296
  mod : b % 2147483648 ≤ 2139095040
  key : k = if b < 2147483648 then (b : Int) else -((b : Int) - 2147483648)
theorem Nu.ab {b : Nat} {k : Int} (h : Nu b k) : ab .f32 b = some b := by rw [ab32, if_neg (by have := h.mod; omega)]
theorem Nu.ord {b c : Nat} {k l : Int} (h : Nu b k) (g : Nu c l) : FloatKind.f32.format.order b c = some (compare k l) := by
  rw [order_key .f32 h.ab g.ab, key32 _ h.lt, key32 _ g.lt, ← h.key, ← g.key]
theorem Nu.gt {b c : Nat} {k l : Int} (h : Nu b k) (g : Nu c l) : (FloatKind.f32.format.order b c == some .gt) = decide (l < k) := by
  rw [h.ord g, cmp_def]
  rcases Int.lt_trichotomy k l with h1 | h1 | h1
  · rw [if_pos h1, decide_eq_false (by omega)]; rfl
  · rw [if_neg (by omega), if_pos h1, decide_eq_false (by omega)]; rfl
  · rw [if_neg (by omega), if_neg (by omega), decide_eq_true (by omega)]; rfl
theorem Nu.less {b c : Nat} {k l : Int} (h : Nu b k) (g : Nu c l) : (FloatKind.f32.format.order b c == some .lt) = decide (k < l) := by
  rw [h.ord g, cmp_def]
  rcases Int.lt_trichotomy k l with h1 | h1 | h1
  · rw [if_pos h1, decide_eq_true (by omega)]; rfl
  · rw [if_neg (by omega), if_pos h1, decide_eq_false (by omega)]; rfl
  · rw [if_neg (by omega), if_neg (by omega), decide_eq_false (by omega)]; rfl
theorem Nu.eq {b c : Nat} {k l : Int} (h : Nu b k) (g : Nu c l) : (FloatKind.f32.format.order b c == some .eq) = decide (k = l) := by
  rw [h.ord g, cmp_def]
  rcases Int.lt_trichotomy k l with h1 | h1 | h1
  · rw [if_pos h1, decide_eq_false (by omega)]; rfl
  · rw [if_neg (by omega), if_pos h1, decide_eq_true (by omega)]; rfl
  · rw [if_neg (by omega), if_neg (by omega), decide_eq_false (by omega)]; rfl
theorem Nu.gtw {b c : Nat} {k l : Int} (h : Nu b k) (g : Nu c l) (e : l < k) : FloatKind.f32.format.order b c = some .gt := by
  rw [h.ord g, cmp_def, if_neg (by omega), if_neg (by omega)]
theorem Nu.ltw {b c : Nat} {k l : Int} (h : Nu b k) (g : Nu c l) (e : k < l) : FloatKind.f32.format.order b c = some .lt := by
  rw [h.ord g, cmp_def, if_pos e]
theorem Nu.eqw {b c : Nat} {k l : Int} (h : Nu b k) (g : Nu c l) (e : k = l) : FloatKind.f32.format.order b c = some .eq := by
  rw [h.ord g, cmp_def, if_neg (by omega), if_pos e]
theorem Nu.neg {b : Nat} {k : Int} (h : Nu b k) : Nu (negN b) (-k) := by
  obtain ⟨h1, h2, h3⟩ := h
  have e := neg32' b h1
  unfold negN
  rw [e]
  by_cases hb : b < 2147483648
  · rw [if_pos hb] at h3 ⊢
    exact ⟨by omega, by omega, by rw [if_neg (by omega)]; omega⟩
  · rw [if_neg hb] at h3 ⊢
    exact ⟨by omega, by omega, by rw [if_pos (by omega)]; omega⟩
theorem Nu.next {b : Nat} {k : Int} (h : Nu b k) (hk : k < 2139095040) : Nu (nextN b) (k + 1) := by
  obtain ⟨h1, h2, h3⟩ := h
  unfold nextN nanB
  rw [if_neg (by simpa using h2)]
  by_cases e1 : b = 2139095040
  · subst e1; rw [if_pos (by omega)] at h3; omega
  · rw [if_neg e1]
    by_cases e2 : b % 2147483648 = 0
    · rw [if_pos e2]
      refine ⟨by omega, by omega, ?_⟩
      rw [if_pos (by omega)]
      by_cases hb : b < 2147483648
      · rw [if_pos hb] at h3; omega
      · rw [if_neg hb] at h3; omega
    · rw [if_neg e2]
      by_cases hb : b < 2147483648
      · rw [if_pos hb] at h3 ⊢
        exact ⟨by omega, by omega, by rw [if_pos (by omega)]; omega⟩
      · rw [if_neg hb] at h3 ⊢
        refine ⟨by omega, by omega, ?_⟩
        rw [if_neg (by omega)]; omega
theorem Nu.down {b : Nat} {k : Int} (h : Nu b k) (hk : -2139095040 < k) : Nu (negN (nextN (negN b))) (k - 1) := by
  have h1 := ((h.neg).next (by omega)).neg
  rwa [show -(-k + 1) = k - 1 by omega] at h1
theorem Nu.in_ {b : Nat} {k : Int} (h : Nu b k) : -2139095040 ≤ k ∧ k ≤ 2139095040 := by
  obtain ⟨h1, h2, h3⟩ := h
  by_cases hb : b < 2147483648
  · rw [if_pos hb] at h3; omega
  · rw [if_neg hb] at h3; omega
theorem Nu.of {b : Nat} (h : b < 4294967296) (h2 : b % 2147483648 ≤ 2139095040) : ∃ k, Nu b k := ⟨_, h, h2, rfl⟩
/-- a not-a-number is compared with nothing -/
theorem ord_nan {b : Nat} (c : Nat) (h : 2139095040 < b % 2147483648) : FloatKind.f32.format.order b c = none ∧ FloatKind.f32.format.order c b = none := by
  have e : ab .f32 b = none := by rw [ab32, if_pos h]
  constructor
  · rw [order_ab, e]; rfl
  · rw [order_ab, e]; cases ab .f32 c <;> rfl
theorem bits_inf {p : Nat} (hp : p < 4294967296) : (bits .and .i64 (p : Int) 2139095040 == 2139095040) = !finB p := by
  have h := i64_and_nat p 2139095040 (by omega) (by decide)
  have e : ((2139095040 : Nat) : Int) = 2139095040 := rfl
  rw [e] at h
  rw [h, and_exp p hp]
  unfold finB
  by_cases h2 : p % 2147483648 < 2139095040
  · rw [decide_eq_true h2]; rw [show (!true) = false from rfl, beq_eq_false_iff_ne]; omega
  · rw [decide_eq_false h2]; rw [show (!false) = true from rfl, beq_iff_eq]; omega
set_option maxHeartbeats 16000000 in
set_option maxRecDepth 100000 in
theorem lawBits_any (A : Option Addr) (n c : Nat) (xs : List Int) (B : Option Addr) (m d : Nat) (ys : List Int) (w : World) (hA : Bs w w.heap.size A n xs) (hB : Bs w w.heap.size B m ys) :
    Calls Try.prog 3 #[.slice A n c, .slice B m d] w fun e w' => e = .returned (.bool true) ∧ w.Since w.heap.size w' := by
  have HA := Lib.hid hA; have HB := Lib.hid hB; clear hA hB
  cases hl : (decide ((1048576 : Int) < n) || decide ((1048576 : Int) < m))
  case true =>
    go_enter Try.func3, Try.ntmps3
    go_wp2_with fail
    refine (b10Long_any A B n c m d true w hl).mono ?_
    rintro e w1 ⟨rfl, hs⟩
    have S1 := Lib.hid hs; clear hs
    go_wp2
    go_ret
    exact ⟨rfl, S1.out⟩
  case false =>
    have hnm : n ≤ 1048576 ∧ m ≤ 1048576 := by simp only [Bool.or_eq_false_iff, decide_eq_false_iff_not] at hl; omega
    go_enter Try.func3, Try.ntmps3
    go_wp2_with fail
    refine (b10Long_any A B n c m d false w hl).mono ?_
    rintro e w1 ⟨rfl, hs⟩
    have S1 := Lib.hid hs; clear hs hl
    go_wp2_with fail
    refine (numberD_any A n c xs w1 ((HA.out.since S1.out (Nat.le_refl _)).more S1.out.size) (by omega)).mono ?_
    rintro e w2 ⟨b, X, rfl, hb, hs⟩
    have S2 := Lib.hid (since_step S1.out hs)
    clear hs
    go_wp2_with fail
    refine (numberD_any B m d ys w2 ((HB.out.since S2.out (Nat.le_refl _)).more S2.out.size) (by omega)).mono ?_
    rintro e w3 ⟨c2, Y, rfl, hc, hs⟩
    have S3 := Lib.hid (since_step S2.out hs)
    have hb1 : b < 4294967296 := hb.out.1
    have hc1 : c2 < 4294967296 := hc.out.1
    clear hs S1 S2 hb hc HA HB hnm
    obtain ⟨N, hN⟩ : ∃ N : Nat, Hid (bitsO (ab .f32 b) = N) := ⟨_, Lib.hid rfl⟩
    obtain ⟨M, hM⟩ : ∃ M : Nat, Hid (bitsO (ab .f32 c2) = M) := ⟨_, Lib.hid rfl⟩
    have hN1 : N < 4294967296 := by
      rw [← hN.out]
      cases h : ab .f32 b with
      | none => decide
      | some z => rw [ab32] at h; split at h <;> simp at h; subst h; exact hb1
    have hBb := Lib.hid fun v => implBits_any b v hb1
    have hBc := Lib.hid fun v => implBits_any c2 v hc1
    rw [hN.out] at hBb; rw [hM.out] at hBc
    have hFr := Lib.hid fun v => implFrom_in N v hN1
    have hSb : Hid (∀ v, Calls Try.prog 12 #[.float .f32 N, .float .f32 b] v fun e v' => e = .returned (.bool true) ∧ v = v') := Lib.hid fun v => (implSame_any N b v hN1 hb1).mono fun e v' ⟨h1, h2⟩ => ⟨by
      rw [h1, decide_eq_true]
      rw [hN.out, ← hN.out]
      cases h : ab .f32 b with
      | none => decide
      | some z => show bitsO (ab .f32 z) = z; rw [ab32] at h; split at h
                  · simp at h
                  · next h9 => simp at h; subst h; rw [ab32, if_neg h9]; rfl, h2⟩
    have hFi := Lib.hid fun v => implFinite_any b v hb1
    have d1 : decide ((N : Int) < 0) = false := decide_eq_false (by omega)
    have d2 : decide (4294967295 < (N : Int)) = false := decide_eq_false (by omega)
    obtain ⟨E, hE⟩ : ∃ E : Bool, Hid (decide (N = M) = E) := ⟨_, Lib.hid rfl⟩
    have d3 : ((N : Int) == (M : Int)) = E := by
      rw [← hE.out]
      by_cases h : N = M
      · subst h; simp
      · rw [decide_eq_false h, beq_eq_false_iff_ne]; omega
    have hSc : Hid (∀ v, Calls Try.prog 12 #[.float .f32 b, .float .f32 c2] v fun e v' => e = .returned (.bool E) ∧ v = v') := Lib.hid fun v => (implSame_any b c2 v hb1 hc1).mono fun e v' ⟨h1, h2⟩ => ⟨by rw [h1, hN.out, hM.out, hE.out], h2⟩
    have hNx := Lib.hid fun v => implNext_any b v hb1
    have hDn := Lib.hid fun v => implDown_any b v hb1
    rcases Nat.lt_trichotomy (b % 2147483648) 2139095040 with hf | hf | hf
    · have hNb : N = b := by rw [← hN.out, ab32, if_neg (by omega)]; rfl
      subst hNb
      have d4 : ((N : Int) == 2143289344) = false := by rw [beq_eq_false_iff_ne]; omega
      have d5 : finB N = true := decide_eq_true hf
      have d6 := bits_inf hN1
      rw [d5] at d6 hFi
      obtain ⟨k, hk⟩ := Nu.of hN1 (by omega)
      have o1 : FloatKind.f32.format.order N N = some .eq := hk.eqw hk rfl
      rw [show (!true) = false from rfl] at d6
      have d8 : (bits BinOp.and IntKind.i64 (N : Int) 2139095040 != 2139095040) = true := by rw [bne, d6]; rfl
      obtain ⟨u, hu⟩ : ∃ u : Nat, Hid (nextN N = u) := ⟨_, Lib.hid rfl⟩
      obtain ⟨dd, hdd⟩ : ∃ u : Nat, Hid (negN (nextN (negN N)) = u) := ⟨_, Lib.hid rfl⟩
      have hkin := hk.in_
      have hkin2 : -2139095040 < k ∧ k < 2139095040 := by
        have := hk.key
        by_cases h : N < 2147483648
        · rw [if_pos h] at this; omega
        · rw [if_neg h] at this; omega
      have nu : Nu u (k + 1) := hu.out ▸ hk.next hkin2.2
      have nd : Nu dd (k - 1) := hdd.out ▸ hk.down hkin2.1
      have np := nu.down (by omega)
      have nq := nd.next (by omega)
      rw [show k + 1 - 1 = k by omega] at np
      rw [show k - 1 + 1 = k by omega] at nq
      rw [hu.out] at hNx
      rw [hdd.out] at hDn
      have hDu := Lib.hid fun v => implDown_any u v nu.lt
      have hNd := Lib.hid fun v => implNext_any dd v nd.lt
      generalize negN (nextN (negN u)) = p at np hDu
      generalize nextN dd = q at nq hNd
      have r1 : FloatKind.f32.format.order u N = some .gt := nu.gtw hk (by omega)
      have r2 : FloatKind.f32.format.order dd N = some .lt := nd.ltw hk (by omega)
      have r3 : FloatKind.f32.format.order p N = some .eq := np.eqw hk rfl
      have r4 : FloatKind.f32.format.order q N = some .eq := nq.eqw hk rfl
      clear hu hdd hkin hkin2 np nq
      by_cases hcn : 2139095040 < c2 % 2147483648
      · have r5 := (ord_nan (b := c2) N hcn).1
        have r6 := (ord_nan (b := c2) u hcn).1
        have r7 := (ord_nan (b := c2) dd hcn).1
        go_wp2_with (first | (go_at_call 10; with_reducible refine (hBb.out _).mono ?_; rintro e v ⟨rfl, rfl⟩) | (go_at_call 10; with_reducible refine (hBc.out _).mono ?_; rintro e v ⟨rfl, rfl⟩) | (go_at_call 11; refine (hFr.out _).mono ?_; rintro e v ⟨rfl, rfl⟩) | (go_at_call 12; with_reducible refine (hSb.out _).mono ?_; rintro e v ⟨rfl, rfl⟩) | (go_at_call 12; with_reducible refine (hSc.out _).mono ?_; rintro e v ⟨rfl, rfl⟩) | (go_at_call 13; refine (hFi.out _).mono ?_; rintro e v ⟨rfl, rfl⟩) | (go_at_call 14; with_reducible refine (hNx.out _).mono ?_; rintro e v ⟨rfl, rfl⟩) | (go_at_call 15; with_reducible refine (hDn.out _).mono ?_; rintro e v ⟨rfl, rfl⟩) | (go_at_call 14; with_reducible refine (hNd.out _).mono ?_; rintro e v ⟨rfl, rfl⟩) | (go_at_call 15; with_reducible refine (hDu.out _).mono ?_; rintro e v ⟨rfl, rfl⟩))
        go_ret
        exact ⟨ret_bool (by first | rfl | simp [r3, r4]), S3.out⟩
      · obtain ⟨l, hl⟩ := Nu.of hc1 (by omega)
        rcases Int.lt_trichotomy l k with h | h | h
        · have r5 : FloatKind.f32.format.order c2 N = some .lt := hl.ltw hk h
          rcases (show l < k - 1 ∨ k - 1 ≤ l by omega) with h9 | h9
          · have r7 : FloatKind.f32.format.order c2 dd = some .lt := hl.ltw nd h9
            go_wp2_with (first | (go_at_call 10; with_reducible refine (hBb.out _).mono ?_; rintro e v ⟨rfl, rfl⟩) | (go_at_call 10; with_reducible refine (hBc.out _).mono ?_; rintro e v ⟨rfl, rfl⟩) | (go_at_call 11; refine (hFr.out _).mono ?_; rintro e v ⟨rfl, rfl⟩) | (go_at_call 12; with_reducible refine (hSb.out _).mono ?_; rintro e v ⟨rfl, rfl⟩) | (go_at_call 12; with_reducible refine (hSc.out _).mono ?_; rintro e v ⟨rfl, rfl⟩) | (go_at_call 13; refine (hFi.out _).mono ?_; rintro e v ⟨rfl, rfl⟩) | (go_at_call 14; with_reducible refine (hNx.out _).mono ?_; rintro e v ⟨rfl, rfl⟩) | (go_at_call 15; with_reducible refine (hDn.out _).mono ?_; rintro e v ⟨rfl, rfl⟩) | (go_at_call 14; with_reducible refine (hNd.out _).mono ?_; rintro e v ⟨rfl, rfl⟩) | (go_at_call 15; with_reducible refine (hDu.out _).mono ?_; rintro e v ⟨rfl, rfl⟩))
            go_ret
            exact ⟨ret_bool (by first | rfl | simp [r3, r4]), S3.out⟩
          · have r7 : FloatKind.f32.format.order c2 dd = some .eq := hl.eqw nd (by omega)
            go_wp2_with (first | (go_at_call 10; with_reducible refine (hBb.out _).mono ?_; rintro e v ⟨rfl, rfl⟩) | (go_at_call 10; with_reducible refine (hBc.out _).mono ?_; rintro e v ⟨rfl, rfl⟩) | (go_at_call 11; refine (hFr.out _).mono ?_; rintro e v ⟨rfl, rfl⟩) | (go_at_call 12; with_reducible refine (hSb.out _).mono ?_; rintro e v ⟨rfl, rfl⟩) | (go_at_call 12; with_reducible refine (hSc.out _).mono ?_; rintro e v ⟨rfl, rfl⟩) | (go_at_call 13; refine (hFi.out _).mono ?_; rintro e v ⟨rfl, rfl⟩) | (go_at_call 14; with_reducible refine (hNx.out _).mono ?_; rintro e v ⟨rfl, rfl⟩) | (go_at_call 15; with_reducible refine (hDn.out _).mono ?_; rintro e v ⟨rfl, rfl⟩) | (go_at_call 14; with_reducible refine (hNd.out _).mono ?_; rintro e v ⟨rfl, rfl⟩) | (go_at_call 15; with_reducible refine (hDu.out _).mono ?_; rintro e v ⟨rfl, rfl⟩))
            go_ret
            exact ⟨ret_bool (by first | rfl | simp [r3, r4]), S3.out⟩
        · have r5 : FloatKind.f32.format.order c2 N = some .eq := hl.eqw hk h
          go_wp2_with (first | (go_at_call 10; with_reducible refine (hBb.out _).mono ?_; rintro e v ⟨rfl, rfl⟩) | (go_at_call 10; with_reducible refine (hBc.out _).mono ?_; rintro e v ⟨rfl, rfl⟩) | (go_at_call 11; refine (hFr.out _).mono ?_; rintro e v ⟨rfl, rfl⟩) | (go_at_call 12; with_reducible refine (hSb.out _).mono ?_; rintro e v ⟨rfl, rfl⟩) | (go_at_call 12; with_reducible refine (hSc.out _).mono ?_; rintro e v ⟨rfl, rfl⟩) | (go_at_call 13; refine (hFi.out _).mono ?_; rintro e v ⟨rfl, rfl⟩) | (go_at_call 14; with_reducible refine (hNx.out _).mono ?_; rintro e v ⟨rfl, rfl⟩) | (go_at_call 15; with_reducible refine (hDn.out _).mono ?_; rintro e v ⟨rfl, rfl⟩) | (go_at_call 14; with_reducible refine (hNd.out _).mono ?_; rintro e v ⟨rfl, rfl⟩) | (go_at_call 15; with_reducible refine (hDu.out _).mono ?_; rintro e v ⟨rfl, rfl⟩))
          go_ret
          exact ⟨ret_bool (by first | rfl | simp [r3, r4]), S3.out⟩
        · have r5 : FloatKind.f32.format.order c2 N = some .gt := hl.gtw hk h
          rcases (show k + 1 < l ∨ l ≤ k + 1 by omega) with h9 | h9
          · have r6 : FloatKind.f32.format.order c2 u = some .gt := hl.gtw nu h9
            go_wp2_with (first | (go_at_call 10; with_reducible refine (hBb.out _).mono ?_; rintro e v ⟨rfl, rfl⟩) | (go_at_call 10; with_reducible refine (hBc.out _).mono ?_; rintro e v ⟨rfl, rfl⟩) | (go_at_call 11; refine (hFr.out _).mono ?_; rintro e v ⟨rfl, rfl⟩) | (go_at_call 12; with_reducible refine (hSb.out _).mono ?_; rintro e v ⟨rfl, rfl⟩) | (go_at_call 12; with_reducible refine (hSc.out _).mono ?_; rintro e v ⟨rfl, rfl⟩) | (go_at_call 13; refine (hFi.out _).mono ?_; rintro e v ⟨rfl, rfl⟩) | (go_at_call 14; with_reducible refine (hNx.out _).mono ?_; rintro e v ⟨rfl, rfl⟩) | (go_at_call 15; with_reducible refine (hDn.out _).mono ?_; rintro e v ⟨rfl, rfl⟩) | (go_at_call 14; with_reducible refine (hNd.out _).mono ?_; rintro e v ⟨rfl, rfl⟩) | (go_at_call 15; with_reducible refine (hDu.out _).mono ?_; rintro e v ⟨rfl, rfl⟩))
            go_ret
            exact ⟨ret_bool (by first | rfl | simp [r3, r4]), S3.out⟩
          · have r6 : FloatKind.f32.format.order c2 u = some .eq := hl.eqw nu (by omega)
            go_wp2_with (first | (go_at_call 10; with_reducible refine (hBb.out _).mono ?_; rintro e v ⟨rfl, rfl⟩) | (go_at_call 10; with_reducible refine (hBc.out _).mono ?_; rintro e v ⟨rfl, rfl⟩) | (go_at_call 11; refine (hFr.out _).mono ?_; rintro e v ⟨rfl, rfl⟩) | (go_at_call 12; with_reducible refine (hSb.out _).mono ?_; rintro e v ⟨rfl, rfl⟩) | (go_at_call 12; with_reducible refine (hSc.out _).mono ?_; rintro e v ⟨rfl, rfl⟩) | (go_at_call 13; refine (hFi.out _).mono ?_; rintro e v ⟨rfl, rfl⟩) | (go_at_call 14; with_reducible refine (hNx.out _).mono ?_; rintro e v ⟨rfl, rfl⟩) | (go_at_call 15; with_reducible refine (hDn.out _).mono ?_; rintro e v ⟨rfl, rfl⟩) | (go_at_call 14; with_reducible refine (hNd.out _).mono ?_; rintro e v ⟨rfl, rfl⟩) | (go_at_call 15; with_reducible refine (hDu.out _).mono ?_; rintro e v ⟨rfl, rfl⟩))
            go_ret
            exact ⟨ret_bool (by first | rfl | simp [r3, r4]), S3.out⟩
    · have hNb : N = b := by rw [← hN.out, ab32, if_neg (by omega)]; rfl
      subst hNb
      have d4 : ((N : Int) == 2143289344) = false := by rw [beq_eq_false_iff_ne]; omega
      have d5 : finB N = false := decide_eq_false (by omega)
      have d6 := bits_inf hN1
      rw [d5] at d6 hFi
      rw [show (!false) = true from rfl] at d6
      have d8 : (bits BinOp.and IntKind.i64 (N : Int) 2139095040 != 2139095040) = false := by rw [bne, d6]; rfl
      obtain ⟨k, hk⟩ := Nu.of hN1 (by omega)
      have n0 : Nu 0 0 := ⟨by decide, by decide, rfl⟩
      have o1 : FloatKind.f32.format.order N N = some .eq := hk.eqw hk rfl
      by_cases hs : N < 2147483648
      · have hkk : k = 2139095040 := by have := hk.key; rw [if_pos hs] at this; omega
        have hu : nextN N = N := by unfold nextN; split; rfl; rw [if_pos (by omega)]
        rw [hu] at hNx
        obtain ⟨dd, hdd⟩ : ∃ u : Nat, Hid (negN (nextN (negN N)) = u) := ⟨_, Lib.hid rfl⟩
        have nd : Nu dd (k - 1) := hdd.out ▸ hk.down (by omega)
        rw [hdd.out] at hDn
        have r1 : FloatKind.f32.format.order N 0 = some .gt := hk.gtw n0 (by omega)
        have r2 : FloatKind.f32.format.order dd N = some .lt := nd.ltw hk (by omega)
        clear hdd hu
        go_wp2_with (first | (go_at_call 10; with_reducible refine (hBb.out _).mono ?_; rintro e v ⟨rfl, rfl⟩) | (go_at_call 10; with_reducible refine (hBc.out _).mono ?_; rintro e v ⟨rfl, rfl⟩) | (go_at_call 11; refine (hFr.out _).mono ?_; rintro e v ⟨rfl, rfl⟩) | (go_at_call 12; with_reducible refine (hSb.out _).mono ?_; rintro e v ⟨rfl, rfl⟩) | (go_at_call 12; with_reducible refine (hSc.out _).mono ?_; rintro e v ⟨rfl, rfl⟩) | (go_at_call 13; refine (hFi.out _).mono ?_; rintro e v ⟨rfl, rfl⟩) | (go_at_call 14; with_reducible refine (hNx.out _).mono ?_; rintro e v ⟨rfl, rfl⟩) | (go_at_call 15; with_reducible refine (hDn.out _).mono ?_; rintro e v ⟨rfl, rfl⟩))
        go_ret
        exact ⟨ret_bool (by first | rfl | simp [r1, r2, o1]), S3.out⟩
      · have hkk : k = -2139095040 := by have := hk.key; rw [if_neg hs] at this; omega
        have hnn : negN N = 2139095040 := by unfold negN; rw [neg32' N hN1, if_neg hs]; omega
        have hd9 : negN (nextN (negN N)) = N := by
          rw [hnn, show nextN 2139095040 = 2139095040 by decide]
          unfold negN
          rw [neg32' _ (by decide), if_pos (by decide)]; omega
        rw [hd9] at hDn
        obtain ⟨u, hu⟩ : ∃ u : Nat, Hid (nextN N = u) := ⟨_, Lib.hid rfl⟩
        have nu : Nu u (k + 1) := hu.out ▸ hk.next (by omega)
        rw [hu.out] at hNx
        have r1 : FloatKind.f32.format.order N 0 = some .lt := hk.ltw n0 (by omega)
        have r2 : FloatKind.f32.format.order u N = some .gt := nu.gtw hk (by omega)
        clear hu hd9 hnn
        go_wp2_with (first | (go_at_call 10; with_reducible refine (hBb.out _).mono ?_; rintro e v ⟨rfl, rfl⟩) | (go_at_call 10; with_reducible refine (hBc.out _).mono ?_; rintro e v ⟨rfl, rfl⟩) | (go_at_call 11; refine (hFr.out _).mono ?_; rintro e v ⟨rfl, rfl⟩) | (go_at_call 12; with_reducible refine (hSb.out _).mono ?_; rintro e v ⟨rfl, rfl⟩) | (go_at_call 12; with_reducible refine (hSc.out _).mono ?_; rintro e v ⟨rfl, rfl⟩) | (go_at_call 13; refine (hFi.out _).mono ?_; rintro e v ⟨rfl, rfl⟩) | (go_at_call 14; with_reducible refine (hNx.out _).mono ?_; rintro e v ⟨rfl, rfl⟩) | (go_at_call 15; with_reducible refine (hDn.out _).mono ?_; rintro e v ⟨rfl, rfl⟩))
        go_ret
        exact ⟨ret_bool (by first | rfl | simp [r1, r2, o1]), S3.out⟩
    · have hNb : N = 2143289344 := by rw [← hN.out, ab32, if_pos hf]; rfl
      have d4 : ((N : Int) == 2143289344) = true := by rw [beq_iff_eq]; omega
      have d5 : finB b = false := decide_eq_false (by omega)
      have d7 : finB N = false := by rw [hNb]; decide
      have d6 := bits_inf hN1
      rw [d7] at d6
      rw [d5] at hFi
      rw [show (!false) = true from rfl] at d6
      have d8 : (bits BinOp.and IntKind.i64 (N : Int) 2139095040 != 2139095040) = false := by rw [bne, d6]; rfl
      have o1 := (ord_nan (b := b) b hf).1
      have hu : nextN b = b := by unfold nextN nanB; rw [if_pos (by simpa using hf)]
      rw [hu] at hNx
      obtain ⟨dd, hdd⟩ : ∃ u : Nat, Hid (negN (nextN (negN b)) = u) := ⟨_, Lib.hid rfl⟩
      have hnm1 : ∀ z, negN z % 2147483648 = z % 2147483648 := fun z => by have := neg_mod .f32 z; rw [sw32] at this; exact this
      have hdn : 2139095040 < dd % 2147483648 := by
        rw [← hdd.out, hnm1]
        unfold nextN nanB
        rw [if_pos (by rw [hnm1]; simpa using hf), hnm1]; exact hf
      have r2 := (ord_nan (b := dd) dd hdn).1
      rw [hdd.out] at hDn
      clear hdd hu hNb hnm1 hdn d5 d7
      go_wp2_with (first | (go_at_call 10; with_reducible refine (hBb.out _).mono ?_; rintro e v ⟨rfl, rfl⟩) | (go_at_call 10; with_reducible refine (hBc.out _).mono ?_; rintro e v ⟨rfl, rfl⟩) | (go_at_call 11; refine (hFr.out _).mono ?_; rintro e v ⟨rfl, rfl⟩) | (go_at_call 12; with_reducible refine (hSb.out _).mono ?_; rintro e v ⟨rfl, rfl⟩) | (go_at_call 12; with_reducible refine (hSc.out _).mono ?_; rintro e v ⟨rfl, rfl⟩) | (go_at_call 13; refine (hFi.out _).mono ?_; rintro e v ⟨rfl, rfl⟩) | (go_at_call 14; with_reducible refine (hNx.out _).mono ?_; rintro e v ⟨rfl, rfl⟩) | (go_at_call 15; with_reducible refine (hDn.out _).mono ?_; rintro e v ⟨rfl, rfl⟩))
      go_ret
      exact ⟨ret_bool (by first | rfl | simp [r2, o1]), S3.out⟩
end Go.Proofs.Ytogbejgbaenfdaa
