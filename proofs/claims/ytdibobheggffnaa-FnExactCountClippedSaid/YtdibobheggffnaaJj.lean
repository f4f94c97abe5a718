/- Bits: codes at the ends counted, both. -/
import Derived.Test.YtdibobheggffnaaJi
import Derived.Deep.QuietTactic
import Derived.BigQuiet
set_option linter.unusedVariables false
set_option linter.unusedSimpArgs false
namespace Go.Proofs.Ytdibobheggffnaa
open Fl Go.RowKit
def cntC (m : Nat) (xs : List Int) : Nat → Nat
  | 0 => 0
  | k + 1 => cntC m xs k + if wi xs k = -(m : Int) ∨ wi xs k = (m : Int) - 1 then 1 else 0
theorem cntC_le (m : Nat) (xs : List Int) : ∀ k, cntC m xs k ≤ k
  | 0 => Nat.le_refl _
  | k + 1 => by
    have := cntC_le m xs k
    unfold cntC
    split <;> omega
def okCod (b : Int) (n : Nat) (xs : List Int) : Prop := inB b 2 16 = true ∧ n ≤ 256 ∧ areC (mst b.toNat) xs n
set_option maxHeartbeats 4000000 in
set_option maxRecDepth 100000 in
theorem specCount_ok (b : Nat) (A : Option Addr) (n c : Nat) (xs : List Int) (w : World) (hA : Is w w.heap.size A n xs) (hn : n ≤ 256) (h1 : 2 ≤ b) (h2 : b ≤ 16) (hc : areC (mst b) xs n) :
    Calls Try.prog 25 #[.int .i64 b, .slice A n c] w (PIB (cntC (mst b) xs n : Nat) true w) := by
  have HA := Lib.hid hA
  have HC := Lib.hid hc
  have hm := mst_le h1 h2
  have hb : inB (b : Int) 2 16 = true := by simp [inB]; omega
  obtain ⟨m, hmm⟩ : ∃ m, m = mst b := ⟨_, rfl⟩
  rw [← hmm] at hm ⊢
  have HM := Lib.hid hmm
  have hq : ∀ W, Calls Try.prog 64 #[.int .i64 b] W fun e w' => e = .returned (.int .i64 (m : Int)) ∧ w' = W := fun W => by
    rw [HM.out]; exact (specMost_any b W h1 h2).mono fun _ _ ⟨a, b⟩ => ⟨a, b.symm⟩
  have HQ := Lib.hid hq
  have hw1 : IntKind.i64.wrap (-(m : Int)) = -(m : Int) := by rw [IntKind.wrap_i64]; omega
  have hw2 : IntKind.i64.wrap ((m : Int) - 1) = (m : Int) - 1 := by rw [IntKind.wrap_i64]; omega
  clear hA hc hq hmm
  go_enter Try.func25, Try.ntmps25
  go_wp2_with (first | (go_at_call 62; refine (specBits_b b true _ hb).mono ?_; rintro e w' ⟨rfl, rfl⟩) | (go_at_call 63; refine (specCodes_b b A n c xs _ HA.out (by omega) h1 h2 true ⟨fun _ => ⟨hn, HC.out⟩, fun _ => rfl⟩).mono ?_; rintro e w1 ⟨rfl, hs1⟩; have HS1 := Lib.hid hs1; clear hs1))
  go_loopw [6, 7] (fun v i wr => ∃ k : Nat, k ≤ n ∧ i = .int .i64 k ∧ v = .int .i64 (cntC m xs k : Nat) ∧ w.Since w.heap.size wr) (fun _ i _ => n - (intOf i).toNat)
  case atStart => exact ⟨0, Nat.zero_le _, rfl, rfl, HS1.out⟩
  case round =>
    obtain ⟨k, hk, rfl, rfl, hs⟩ := hrel
    have HS := Lib.hid hs
    have hle := cntC_le m xs k
    clear hs
    by_cases hlt : k < n
    · obtain ⟨g, off, rfl, hg, hc⟩ := HA.out.2 (by omega)
      have hcell : wr.cell? ⟨g, off + k, none⟩ = some (.int .i64 (wi xs k)) := (HS.out.cell (a := ⟨g, off + k, none⟩) hg).trans (hc k hlt)
      have eN : Hid (cntC m xs (k + 1) = cntC m xs k + if wi xs k = -(m : Int) ∨ wi xs k = (m : Int) - 1 then 1 else 0) := Lib.hid rfl
      clear hc
      generalize hy : wi xs k = y at *
      generalize hx : cntC m xs k = x at *
      clear hy
      by_cases e1 : y = -(m : Int)
      · rw [if_pos (.inl e1)] at eN
        have d1 : (y == -(m : Int)) = true := beq_iff_eq.2 e1
        clear e1
        go_wp2
        go_quiet (first | (go_at_call 64; refine Calls.quiet_of_same (HQ.out _)))
        go_wp2
        go_roundw
        case rel => exact ⟨k + 1, by omega, by go_num, by rw [eN.out]; go_num, since_drewN HS.out _⟩
        case measure => simp [intOf]; omega
      · have d1 : (y == -(m : Int)) = false := beq_eq_false_iff_ne.2 e1
        by_cases e2 : y = (m : Int) - 1
        · rw [if_pos (.inr e2)] at eN
          have d2 : (y == (m : Int) - 1) = true := beq_iff_eq.2 e2
          clear e1 e2
          go_wp2
          go_quiet (first | (go_at_call 64; refine Calls.quiet_of_same (HQ.out _)))
          go_wp2
          go_roundw
          case rel => exact ⟨k + 1, by omega, by go_num, by rw [eN.out]; go_num, since_drewN HS.out _⟩
          case measure => simp [intOf]; omega
        · rw [if_neg (fun h => h.elim e1 e2)] at eN
          have d2 : (y == (m : Int) - 1) = false := beq_eq_false_iff_ne.2 e2
          clear e1 e2
          go_wp2
          go_quiet (first | (go_at_call 64; refine Calls.quiet_of_same (HQ.out _)))
          go_wp2
          go_roundw
          case rel => exact ⟨k + 1, by omega, by go_num, by rw [eN.out]; go_num, since_drewN HS.out _⟩
          case measure => simp [intOf]; omega
    · obtain rfl : k = n := by omega
      go_wp2
      go_ret2
      exact ⟨rfl, HS.out⟩
set_option maxHeartbeats 4000000 in
set_option maxRecDepth 100000 in
theorem specCount_no (b : Int) (A : Option Addr) (n c : Nat) (xs : List Int) (w : World) (hA : Is w w.heap.size A n xs) (hn : n ≤ 1048576) (h : ¬ okCod b n xs) :
    Calls Try.prog 25 #[.int .i64 b, .slice A n c] w (PIB 0 false w) := by
  have HA := Lib.hid hA
  clear hA
  cases hb : inB b 2 16
  · go_enter Try.func25, Try.ntmps25
    go_wp2_with (go_at_call 62; refine (specBits_b b false _ hb).mono ?_; rintro e w' ⟨rfl, rfl⟩)
    go_ret2
    exact ⟨rfl, by (repeat (first | (with_reducible refine Fl.sinDrew ?_) | (with_reducible refine World.Since.drew ?_) | (with_reducible refine Fl.sinSet ?_ ?_; rotate_left) | (with_reducible refine Fl.sinAlloc ?_ ?_; rotate_left) | with_reducible exact World.Since.refl _ _ | with_reducible assumption | (with_reducible refine Fl.sinStep (by with_reducible assumption) ?_))); all_goals (first | omega | (simp; done) | (simp; omega) | (simp [go_sem]; done) | (simp [go_sem]; omega))⟩
  · have hb2 := hb
    simp only [inB, Bool.and_eq_true, decide_eq_true_eq] at hb2
    obtain ⟨b', rfl⟩ : ∃ b' : Nat, b = b' := ⟨b.toNat, by omega⟩
    have hr : false = true ↔ n ≤ 256 ∧ areC (mst b') xs n := ⟨(fun h => by cases h), fun h2 => absurd ⟨hb, h2⟩ h⟩
    have HR := Lib.hid hr
    clear hr h
    go_enter Try.func25, Try.ntmps25
    go_wp2_with (first | (go_at_call 62; refine (specBits_b b' true _ hb).mono ?_; rintro e w' ⟨rfl, rfl⟩) | (go_at_call 63; refine (specCodes_b b' A n c xs _ HA.out (by omega) (by omega) (by omega) false HR.out).mono ?_; rintro e w1 ⟨rfl, hs1⟩; have HS1 := Lib.hid hs1; clear hs1))
    go_ret2
    exact ⟨rfl, HS1.out⟩
set_option maxHeartbeats 4000000 in
set_option maxRecDepth 100000 in
theorem implCount_no (b : Int) (A : Option Addr) (n c : Nat) (xs : List Int) (w : World) (hA : Is w w.heap.size A n xs) (hn : n ≤ 1048576) (h : ¬ okCod b n xs) :
    Calls Try.prog 27 #[.int .i64 b, .slice A n c] w (PIB 0 false w) := by
  have HA := Lib.hid hA
  clear hA
  cases hb : inB b 2 16
  · have hq := fun W => coderOf_no b W hb
    unfold codZ at hq
    have HQ := Lib.hid hq
    clear hq
    go_enter Try.func27, Try.ntmps27
    go_wp2_with (first | (go_at_call 65; refine (HQ.out _).mono ?_; rintro e w1 ⟨rfl, hs1⟩; have HS1 := Lib.hid hs1; clear hs1))
    go_ret2
    exact ⟨rfl, HS1.out.trans (since_mono (show World.Since w1.heap.size w1 _ from by (repeat (first | (with_reducible refine Fl.sinDrew ?_) | (with_reducible refine World.Since.drew ?_) | (with_reducible refine Fl.sinSet ?_ ?_; rotate_left) | (with_reducible refine Fl.sinAlloc ?_ ?_; rotate_left) | with_reducible exact World.Since.refl _ _ | with_reducible assumption | (with_reducible refine Fl.sinStep (by with_reducible assumption) ?_))); all_goals (first | omega | (simp; done) | (simp; omega) | (simp [go_sem]; done) | (simp [go_sem]; omega))) HS1.out.size)⟩
  · have hb2 := hb
    simp only [inB, Bool.and_eq_true, decide_eq_true_eq] at hb2
    obtain ⟨b', rfl⟩ : ∃ b' : Nat, b = b' := ⟨b.toNat, by omega⟩
    have hr : false = true ↔ n ≤ 256 ∧ areC (mst b') xs n := ⟨(fun h => by cases h), fun h2 => absurd ⟨hb, h2⟩ h⟩
    have HR := Lib.hid hr
    have hq := fun W => coderOf_ok b' W (by omega) (by omega)
    obtain ⟨m, hm⟩ : ∃ m, m = mst b' := ⟨_, rfl⟩
    rw [← hm] at hq HR
    have ha : ∀ W, w.Since w.heap.size W → Calls Try.prog 66 #[codV m, .slice A n c] W fun e w' => e = .returned (.bool false) ∧ W.Since W.heap.size w' := fun W hs =>
      areCodes_b m A n c xs false W W.heap.size (HA.out.now hs) (Nat.le_refl _) hn HR.out
    unfold codV at hq ha
    obtain ⟨f, hf⟩ : ∃ f, f = floatOfInt .f32 (m : Int) := ⟨_, rfl⟩
    rw [← hf] at hq ha
    have HQ := Lib.hid hq; have HC := Lib.hid ha
    clear hq ha hr h hf hm
    go_enter Try.func27, Try.ntmps27
    go_wp2_with (first | (go_at_call 65; refine (HQ.out _).mono ?_; rintro e w1 ⟨rfl, hs1⟩; have HS1 := Lib.hid hs1; clear hs1) | (go_at_call 66; refine (HC.out _ (HS1.out.trans (since_mono (show World.Since w1.heap.size w1 _ from by (repeat (first | (with_reducible refine Fl.sinDrew ?_) | (with_reducible refine World.Since.drew ?_) | (with_reducible refine Fl.sinSet ?_ ?_; rotate_left) | (with_reducible refine Fl.sinAlloc ?_ ?_; rotate_left) | with_reducible exact World.Since.refl _ _ | with_reducible assumption | (with_reducible refine Fl.sinStep (by with_reducible assumption) ?_))); all_goals (first | omega | (simp; done) | (simp; omega) | (simp [go_sem]; done) | (simp [go_sem]; omega))) HS1.out.size))).mono ?_; rintro e w2 ⟨rfl, hs2⟩; have HS2 := Lib.hid hs2; clear hs2))
    go_ret2
    exact ⟨rfl, since_step (HS1.out.trans (since_mono (show World.Since w1.heap.size w1 _ from by (repeat (first | (with_reducible refine Fl.sinDrew ?_) | (with_reducible refine World.Since.drew ?_) | (with_reducible refine Fl.sinSet ?_ ?_; rotate_left) | (with_reducible refine Fl.sinAlloc ?_ ?_; rotate_left) | with_reducible exact World.Since.refl _ _ | with_reducible assumption | (with_reducible refine Fl.sinStep (by with_reducible assumption) ?_))); all_goals (first | omega | (simp; done) | (simp; omega) | (simp [go_sem]; done) | (simp [go_sem]; omega))) HS1.out.size)) HS2.out⟩
set_option maxHeartbeats 4000000 in
set_option maxRecDepth 100000 in
theorem implCount_ok (b : Nat) (A : Option Addr) (n c : Nat) (xs : List Int) (w : World) (hA : Is w w.heap.size A n xs) (hn : n ≤ 256) (h1 : 2 ≤ b) (h2 : b ≤ 16) (hc : areC (mst b) xs n) :
    Calls Try.prog 27 #[.int .i64 b, .slice A n c] w (PIB (cntC (mst b) xs n : Nat) true w) := by
  have HA := Lib.hid hA
  have hm := mst_le h1 h2
  have hq := fun W => coderOf_ok b W h1 h2
  obtain ⟨m, hmm⟩ : ∃ m, m = mst b := ⟨_, rfl⟩
  rw [← hmm] at hq hm hc ⊢
  have HC := Lib.hid hc
  have ha : ∀ W, w.Since w.heap.size W → Calls Try.prog 66 #[codV m, .slice A n c] W fun e w' => e = .returned (.bool true) ∧ W.Since W.heap.size w' := fun W hs =>
    areCodes_b m A n c xs true W W.heap.size (HA.out.now hs) (Nat.le_refl _) (by omega) ⟨fun _ => ⟨hn, HC.out⟩, fun _ => rfl⟩
  unfold codV at hq ha
  obtain ⟨f, hf⟩ : ∃ f, f = floatOfInt .f32 (m : Int) := ⟨_, rfl⟩
  rw [← hf] at hq ha
  have HQ := Lib.hid hq; have HQ2 := Lib.hid ha
  clear hq ha hf hmm hc hA
  go_enter Try.func27, Try.ntmps27
  go_wp2_with (first | (go_at_call 65; refine (HQ.out _).mono ?_; rintro e w1 ⟨rfl, hs1⟩; have HS1 := Lib.hid hs1; clear hs1) | fail)
  obtain ⟨W, hW⟩ : ∃ W, W = w1.alloc (.cells #[.int .i64 (-(m : Int)), .int .i64 ((m : Int) - 1), .float .f32 f] 72) := ⟨_, rfl⟩
  rw [← hW]
  have S1 : Hid (w.Since w.heap.size W) := Lib.hid (HS1.out.trans (by rw [hW]; exact (World.Since.refl _ _).alloc HS1.out.size _))
  have z1 : w1.heap.size < W.heap.size := by rw [hW]; simp
  have c0 : Hid (W.cell? ⟨w1.heap.size, 0, none⟩ = some (.int .i64 (-(m : Int)))) := Lib.hid (by rw [hW]; simp [go_sem])
  have c1 : Hid (W.cell? ⟨w1.heap.size, 1, none⟩ = some (.int .i64 ((m : Int) - 1))) := Lib.hid (by rw [hW]; simp [go_sem])
  have c2 : Hid (W.cell? ⟨w1.heap.size, 2, none⟩ = some (.float .f32 f)) := Lib.hid (by rw [hW]; simp [go_sem])
  clear hW
  have d0 := c0.out; have d1 := c1.out; have d2 := c2.out
  go_wp2_with (first | (go_at_call 66; refine (HQ2.out _ S1.out).mono ?_; rintro e w2 ⟨rfl, hs2⟩; have HS2 := Lib.hid hs2; clear hs2))
  have S2 : Hid (w.Since w.heap.size w2) := Lib.hid (since_step S1.out HS2.out)
  have zz := HS2.out.size
  go_loopw [8, 26] (fun v i wr => ∃ k : Nat, k ≤ n ∧ i = .int .i64 k ∧ v = .int .i64 (cntC m xs k : Nat) ∧ W.Since W.heap.size wr) (fun _ i _ => n - (intOf i).toNat)
  case atStart => exact ⟨0, Nat.zero_le _, rfl, rfl, HS2.out⟩
  case round =>
    obtain ⟨k, hk, rfl, rfl, hs⟩ := hrel
    have HS := Lib.hid hs
    have hle := cntC_le m xs k
    clear hs d0 d1 d2
    by_cases hlt : k < n
    · obtain ⟨g, off, rfl, hg, hc⟩ := HA.out.2 (by omega)
      have hcell : wr.cell? ⟨g, off + k, none⟩ = some (.int .i64 (wi xs k)) := ((since_step S1.out HS.out).cell (a := ⟨g, off + k, none⟩) hg).trans (hc k hlt)
      have d0 : wr.cell? ⟨w1.heap.size, 0, none⟩ = some (.int .i64 (-(m : Int))) := (HS.out.cell (a := ⟨w1.heap.size, 0, none⟩) z1).trans c0.out
      have d1 : wr.cell? ⟨w1.heap.size, 1, none⟩ = some (.int .i64 ((m : Int) - 1)) := (HS.out.cell (a := ⟨w1.heap.size, 1, none⟩) z1).trans c1.out
      have eN : Hid (cntC m xs (k + 1) = cntC m xs k + if wi xs k = -(m : Int) ∨ wi xs k = (m : Int) - 1 then 1 else 0) := Lib.hid rfl
      clear hc
      generalize hy : wi xs k = y at *
      generalize hx : cntC m xs k = x at *
      clear hy
      by_cases e1 : y = -(m : Int)
      · rw [if_pos (.inl e1)] at eN
        have b1 : (y == -(m : Int)) = true := beq_iff_eq.2 e1
        clear e1
        go_wp2
        go_roundw
        case rel => exact ⟨k + 1, by omega, by go_num, by rw [eN.out]; go_num, HS.out⟩
        case measure => simp [intOf]; omega
      · have b1 : (y == -(m : Int)) = false := beq_eq_false_iff_ne.2 e1
        by_cases e2 : y = (m : Int) - 1
        · rw [if_pos (.inr e2)] at eN
          have b2 : (y == (m : Int) - 1) = true := beq_iff_eq.2 e2
          clear e1 e2
          go_wp2
          go_roundw
          case rel => exact ⟨k + 1, by omega, by go_num, by rw [eN.out]; go_num, HS.out⟩
          case measure => simp [intOf]; omega
        · rw [if_neg (fun h => h.elim e1 e2)] at eN
          have b2 : (y == (m : Int) - 1) = false := beq_eq_false_iff_ne.2 e2
          clear e1 e2
          go_wp2
          go_roundw
          case rel => exact ⟨k + 1, by omega, by go_num, by rw [eN.out]; go_num, HS.out⟩
          case measure => simp [intOf]; omega
    · obtain rfl : k = n := by omega
      go_wp2
      go_ret2
      exact ⟨rfl, since_step S1.out HS.out⟩
end Go.Proofs.Ytdibobheggffnaa
