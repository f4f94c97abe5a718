/- Draws: numbers and lists of numbers, of any bits. -/
import Derived.Test.YtlpbpljdfflgeaaHd
import Derived.Test.YtlpbpljdfflgeaaEg
set_option linter.unusedVariables false
set_option linter.unusedSimpArgs false
namespace Go.Proofs.Ytlpbpljdfflgeaa
open Fl Go.RowKit
set_option maxHeartbeats 4000000 in
set_option maxRecDepth 100000 in
theorem plain_any (B b K : Nat) (w : World) (h : Src B b K w) (hK : K ≤ 900000) :
    Calls Try.prog 85 #[.pointer (some ⟨b, 0, none⟩)] w fun e w' => ∃ q Q, e = .returned (.float .f32 q) ∧ Hid (Fv .f32 q Q) ∧ Src B b (K + 4) w' ∧ On b w w' := by
  have HH := Lib.hid h; clear h
  go_enter Try.func85, Try.ntmps85
  go_wp2_with fail
  refine (pick_any B b K 129 w HH.out (by omega) (by omega)).mono ?_
  rintro e w1 ⟨v1, rfl, a1, a2, s1, o1⟩
  have a3 := a2 (by omega)
  have S1 := Lib.hid s1; have O1 := Lib.hid o1; clear s1 o1 a2
  go_wp2_with fail
  refine (one_any B b (K + 2) 4 w1 S1.out (by omega) (by omega)).mono ?_
  rintro e w2 ⟨v2, rfl, s2, o2⟩
  have S2 := Lib.hid s2; have O2 := Lib.hid o2; clear s2 o2
  have q1 := fI_fv (v1 - 64)
  have q7 : Hid (Fv .f32 1088421888 (some 1088421888)) := fvc (by decide) (by decide)
  have q16 : Hid (Fv .f32 1098907648 (some 1098907648)) := fvc (by decide) (by decide)
  cases v2
  all_goals
    go_wp2_with (with_reducible_and_instances refine Lo.wpList_fo _ rfl _ _ _ _ _ rfl _ _ _ _ _ rfl rfl rfl (by assumption) (by assumption) ?_; intro rr nn hrr)
    go_ret
    exact ⟨_, _, rfl, hrr, S2.out.drewN _, (O1.out.trans O2.out).drewN _⟩
theorem is_alloc (w : World) (T : TypeId) (xs : List Int) : Is (w.alloc (.cells (xs.map (Value.int .i64)).toArray T)) (w.alloc (.cells (xs.map (Value.int .i64)).toArray T)).heap.size (some ⟨w.heap.size, 0, none⟩) xs.length xs :=
  ⟨rfl, fun _ => ⟨w.heap.size, 0, rfl, by simp, fun k hk => by
    have h := Go.Deep.blk_alloc_new w (.cells (xs.map (Value.int .i64)).toArray T)
    rw [Nat.zero_add]
    unfold World.cell?
    simp only [h]
    simp [hk, iv, wi]⟩⟩
def numsA : List Int := [0, 2147483648, 2139095040, 4286578688, 2143289344, 1, 2139095039, 8388608, 8388607, 2147483649]
def numsB : List Int := [8388608, 2130706432, 1610612736, 536870912]
theorem numsA_in : ∀ k, k < 10 → 0 ≤ wi numsA k ∧ wi numsA k < 4294967296 := by decide
theorem numsB_in : ∀ k, k < 4 → 0 ≤ wi numsB k ∧ wi numsB k < 4294967296 := by decide
theorem from_int (z : Int) (h0 : 0 ≤ z) (h1 : z < 4294967296) (w : World) : Calls Try.prog 100 #[.int .i64 z] w fun e w' => ∃ q, e = .returned (.float .f32 q) ∧ Hid (Fv .f32 q (ab .f32 q)) ∧ w = w' := by
  obtain ⟨m, rfl⟩ := Int.eq_ofNat_of_zero_le h0
  have hm : m < 4294967296 := by omega
  exact (l01From_any m w hm).mono fun e w' ⟨h1, h2⟩ => ⟨m, h1, Lib.hid ⟨hm, rfl⟩, h2⟩
set_option maxHeartbeats 4000000 in
set_option maxRecDepth 100000 in
theorem float_any (B b K : Nat) (w : World) (h : Src B b K w) (hK : K ≤ 800000) :
    Calls Try.prog 101 #[.pointer (some ⟨b, 0, none⟩)] w fun e w' => ∃ q Q, e = .returned (.float .f32 q) ∧ Hid (Fv .f32 q Q) ∧ Src B b (K + 12) w' ∧ On b w w' := by
  have HH := Lib.hid h
  have hlt := h.lt
  clear h
  go_enter Try.func101, Try.ntmps101
  go_wp2_with fail
  refine (one_any B b K 12 w HH.out (by omega) (by omega)).mono ?_
  rintro e w1 ⟨v1, rfl, s1, o1⟩
  have S1 := Lib.hid s1; have O1 := Lib.hid o1; clear s1 o1
  cases v1
  · go_wp2_with fail
    refine (plain_any B b (K + 2) w1 S1.out (by omega)).mono ?_
    rintro e w2 ⟨q, Q, rfl, hq, s2, o2⟩
    have S2 := Lib.hid s2; have O2 := Lib.hid o2; clear s2 o2
    go_wp2
    go_ret
    exact ⟨_, _, rfl, hq, S2.out.up (by omega), O1.out.trans O2.out⟩
  · go_wp2_with fail
    refine (pick_any B b (K + 2) 4 w1 S1.out (by omega) (by omega)).mono ?_
    rintro e w2 ⟨v, rfl, a1, a2, s2, o2⟩
    have a3 := a2 (by omega)
    have S2 := Lib.hid s2; have O2 := Lib.hid (O1.out.trans o2); clear s2 o2 a2
    have hlt2 : b < w2.heap.size := S2.out.lt
    by_cases h0 : v = 0
    · subst h0
      go_wp2_with fail
      generalize hW : World.alloc _ _ = W
      have X1 : Hid (Is W W.heap.size (some ⟨w2.heap.size, 0, none⟩) 10 numsA) := Lib.hid (by rw [← hW]; exact is_alloc w2 2 numsA)
      have Z1 : Hid (W.heap.size = w2.heap.size + 1) := Lib.hid (by rw [← hW]; simp)
      have O3 : Hid (On b w W) := Lib.hid (by rw [← hW]; exact O2.out.alloc (by omega) _)
      have S3 : Hid (Src B b (K + 4) W) := Lib.hid (S2.out.on (by rw [← hW]; exact (World.Since.refl _ _).alloc (by omega) _))
      clear hW
      have hz := Z1.out
      refine (among_any B b (K + 4) w2.heap.size 10 numsA W S3.out (by omega) X1.out (by omega) (by omega) hlt2 (by omega)).mono ?_
      rintro e w3 ⟨k, rfl, hk, s4, o4⟩
      have S4 := Lib.hid s4; have O4 := Lib.hid (O3.out.trans o4); clear s4 o4
      have hm := numsA_in k hk
      generalize wi numsA k = m at *
      go_wp2_with fail
      refine (from_int m hm.1 hm.2 _).mono ?_
      rintro e w5 ⟨q, rfl, hq, rfl⟩
      go_wp2
      go_ret
      exact ⟨_, _, rfl, hq, S4.out.up (by omega), O4.out⟩
    · by_cases h1 : v = 1
      · subst h1
        go_wp2_with fail
        refine (pick_any B b (K + 4) 65536 w2 S2.out (by omega) (by omega)).mono ?_
        rintro e w3 ⟨v3, rfl, b1, b2, s3, o3⟩
        have b3 := b2 (by omega)
        have S3 := Lib.hid s3; have O3 := Lib.hid (O2.out.trans o3); clear s3 o3 b2
        go_wp2_with fail
        refine (pick_any B b (K + 4 + 2) 65536 w3 S3.out (by omega) (by omega)).mono ?_
        rintro e w4 ⟨v4, rfl, c1, c2, s4, o4⟩
        have c3 := c2 (by omega)
        have S4 := Lib.hid s4; have O4 := Lib.hid (O3.out.trans o4); clear s4 o4 c2
        go_wp2_with fail
        refine (from_int (v3 * 65536 + v4) (by omega) (by omega) _).mono ?_
        rintro e w5 ⟨q, rfl, hq, rfl⟩
        go_wp2
        go_ret
        exact ⟨_, _, rfl, hq, S4.out.up (by omega), O4.out⟩
      · by_cases h2 : v = 2
        · subst h2
          go_wp2_with fail
          refine (pick_any B b (K + 4) 65536 w2 S2.out (by omega) (by omega)).mono ?_
          rintro e w3 ⟨v3, rfl, b1, b2, s3, o3⟩
          have b3 := b2 (by omega)
          have S3 := Lib.hid s3; have O3 := Lib.hid (O2.out.trans o3); clear s3 o3 b2
          go_wp2_with fail
          refine (from_int (v3 * 65536) (by omega) (by omega) _).mono ?_
          rintro e w5 ⟨q, rfl, hq, rfl⟩
          go_wp2
          go_ret
          exact ⟨_, _, rfl, hq, S3.out.up (by omega), O3.out⟩
        · have e0 : decide (v = 0) = false := decide_eq_false h0
          have e1 : decide (v = 1) = false := decide_eq_false h1
          have e2 : decide (v = 2) = false := decide_eq_false h2
          have g0 : (v == 0) = false := by simpa using h0
          have g1 : (v == 1) = false := by simpa using h1
          have g2 : (v == 2) = false := by simpa using h2
          go_wp2_with fail
          refine (plain_any B b (K + 4) w2 S2.out (by omega)).mono ?_
          rintro e w3 ⟨q, Q, rfl, hq, s3, o3⟩
          have S3 := Lib.hid s3; have O3 := Lib.hid (O2.out.trans o3); clear s3 o3
          have hlt3 : b < w3.heap.size := S3.out.lt
          go_wp2_with fail
          generalize hW : World.alloc _ _ = W
          have X1 : Hid (Is W W.heap.size (some ⟨w3.heap.size, 0, none⟩) 4 numsB) := Lib.hid (by rw [← hW]; exact is_alloc w3 2 numsB)
          have Z1 : Hid (W.heap.size = w3.heap.size + 1) := Lib.hid (by rw [← hW]; simp)
          have O5 : Hid (On b w W) := Lib.hid (by rw [← hW]; exact O3.out.alloc (by omega) _)
          have S5 : Hid (Src B b (K + 4 + 4) W) := Lib.hid (S3.out.on (by rw [← hW]; exact (World.Since.refl _ _).alloc (by omega) _))
          clear hW
          have hz := Z1.out
          refine (among_any B b (K + 4 + 4) w3.heap.size 4 numsB W S5.out (by omega) X1.out (by omega) (by omega) hlt3 (by omega)).mono ?_
          rintro e w6 ⟨k, rfl, hk, s6, o6⟩
          have S6 := Lib.hid s6; have O6 := Lib.hid (O5.out.trans o6); clear s6 o6
          have hm := numsB_in k hk
          generalize wi numsB k = m at *
          go_wp2_with fail
          refine (from_int m hm.1 hm.2 _).mono ?_
          rintro e w7 ⟨q2, rfl, hq2, rfl⟩
          go_wp2_with (with_reducible_and_instances refine Lo.wpList_fo _ rfl _ _ _ _ _ rfl _ _ _ _ _ rfl rfl rfl (by assumption) (by assumption) ?_; intro rr nn hrr)
          go_ret
          exact ⟨_, _, rfl, hrr, (S6.out.up (by omega)).drewN _, O6.out.drewN _⟩
end Go.Proofs.Ytlpbpljdfflgeaa
