/- Valid effects and chains, of the model. -/
import Derived.Test.YtbgjmmncjmcjfaaRa
import Derived.Test.YtbgjmmncjmcjfaaFk
import Derived.Test.YtbgjmmncjmcjfaaWa
import Derived.Test.YtbgjmmncjmcjfaaEh
set_option linter.unusedVariables false
set_option linter.unusedSimpArgs false
namespace Go.Proofs.Ytbgjmmncjmcjfaa
open Fl Go.RowKit
/-- a finite number greater than 0 -/
def limB (x : Nat) : Bool := finB x && (FloatKind.f32.format.order x 0 == some .gt)
abbrev geLim (x : Nat) : Bool := FloatKind.f32.format.order x 1 == some .gt || FloatKind.f32.format.order x 1 == some .eq
abbrev leLim (x : Nat) : Bool := FloatKind.f32.format.order x 2139095039 == some .lt || FloatKind.f32.format.order x 2139095039 == some .eq
theorem limB_lim (x : Nat) (hx : x < 4294967296) : (geLim x && leLim x) = limB x := by
  unfold limB geLim leLim finB
  by_cases hn : 2139095040 < x % 2147483648
  · have h0 : ab .f32 x = none := by rw [ab32, if_pos hn]
    have h1 : ∀ c, FloatKind.f32.format.order x c = none := fun c => by rw [order_ab, h0]; rfl
    rw [h1, h1, h1, decide_eq_false (by omega)]; rfl
  · have hb : ab .f32 x = some x := by rw [ab32, if_neg hn]
    have h1 : ab .f32 1 = some 1 := by rw [ab32]; rfl
    have h2 : ab .f32 2139095039 = some 2139095039 := by rw [ab32]; rfl
    have k1 : key .f32 1 = 1 := by rw [key32 1 (by omega)]; rfl
    have k2 : key .f32 2139095039 = 2139095039 := by rw [key32 2139095039 (by omega)]; rfl
    have kb := key32 x hx
    rw [ord_zero32 hx hb, order_key .f32 hb h1, order_key .f32 hb h2, cmp_def, cmp_def, k1, k2]
    by_cases hs : x < 2147483648
    · rw [if_pos hs] at kb
      rw [kb]
      by_cases h0 : x % 2147483648 = 0
      · have hx0 : x = 0 := by omega
        subst hx0; decide
      · rw [if_neg h0, if_pos hs]
        by_cases hf : x % 2147483648 < 2139095040
        · rw [decide_eq_true hf, if_neg (show ¬ (x : Int) < 1 by omega)]
          by_cases h3 : (x : Int) = 1
          · rw [if_pos h3, if_pos (show (x : Int) < 2139095039 by omega)]; rfl
          · rw [if_neg h3]
            by_cases h4 : (x : Int) < 2139095039
            · rw [if_pos h4]; rfl
            · rw [if_neg h4, if_pos (show (x : Int) = 2139095039 by omega)]; rfl
        · rw [decide_eq_false hf, if_neg (show ¬ (x : Int) < 2139095039 by omega), if_neg (show ¬ (x : Int) = 2139095039 by omega)]
          simp
    · rw [if_neg hs] at kb
      rw [kb, if_pos (show -((x : Int) - 2147483648) < 1 by omega)]
      by_cases h0 : x % 2147483648 = 0
      · rw [if_pos h0]; simp
      · rw [if_neg h0, if_neg hs]; simp
theorem specFinE_any (x : Nat) (b : Bool) (w : World) (hx : x < 4294967296) (h : finB x = b) :
    Calls Try.prog 114 #[.float .f32 x] w fun e w' => e = .returned (.bool b) ∧ w.Since w.heap.size w' := by
  subst h
  go_enter Try.func114, Try.ntmps114
  go_wp2_with (first | (with_reducible_and_instances refine wpList_fop _ rfl _ _ _ _ _ rfl _ _ _ rfl rfl rfl ?_; intro r n hr))
  go_ret
  refine ⟨ret_bool ?_, since_drewN (World.Since.refl _ _) _⟩
  rw [order_ab, hr.2, sub_self_any, rung32, ir32]
  unfold finB
  by_cases h : x % 2147483648 < 2139095040
  · rw [if_pos h, decide_eq_true h]; rfl
  · rw [if_neg h, decide_eq_false h]; rfl
theorem specLimit_b (x : Nat) (b : Bool) (w : World) (hx : x < 4294967296) (h : limB x = b) :
    Calls Try.prog 87 #[.float .f32 x] w fun e w' => e = .returned (.bool b) ∧ w.Since w.heap.size w' := by
  subst h
  unfold limB
  cases h1 : finB x
  · go_enter Try.func87, Try.ntmps87
    go_wp2_with (first | (go_at_call 114; refine (specFinE_any x false _ hx h1).mono ?_; rintro e w' ⟨rfl, hs⟩; have HS := Lib.hid hs; clear hs))
    go_ret
    exact ⟨rfl, HS.out⟩
  · cases h2 : FloatKind.f32.format.order x 0 == some .gt
    all_goals
      go_enter Try.func87, Try.ntmps87
      go_wp2_with (first | (go_at_call 114; refine (specFinE_any x true _ hx h1).mono ?_; rintro e w' ⟨rfl, hs⟩; have HS := Lib.hid hs; clear hs))
      go_ret
      exact ⟨rfl, HS.out⟩
theorem implLimit_b (x : Nat) (b : Bool) (w : World) (hx : x < 4294967296) (h : limB x = b) :
    Calls Try.prog 69 #[.float .f32 x] w fun e w' => e = .returned (.bool b) ∧ w.Since w.heap.size w' := by
  subst h
  rw [← limB_lim x hx]
  have H : ∀ W, Calls Try.prog 112 #[.agg #[.float .f32 1, .float .f32 2139095039], .float .f32 x] W fun e w' => e = .returned (.bool (geLim x && leLim x)) ∧ W.Since W.heap.size w' := fun W => by
    cases h1 : geLim x <;> cases h2 : leLim x
    all_goals
      go_enter Try.func112, Try.ntmps112
      go_wp2
      go_ret
      exact ⟨rfl, by (repeat (first | (with_reducible refine Fl.sinDrew ?_) | (with_reducible refine World.Since.drew ?_) | (with_reducible refine Fl.sinSet ?_ ?_; rotate_left) | (with_reducible refine Fl.sinAlloc ?_ ?_; rotate_left) | with_reducible exact World.Since.refl _ _ | with_reducible assumption | (with_reducible refine Fl.sinStep (by with_reducible assumption) ?_))); all_goals (first | omega | (simp; done) | (simp; omega) | (simp [go_sem]; done) | (simp [go_sem]; omega))⟩
  have HH := Lib.hid H
  clear H
  generalize (geLim x && leLim x) = b at HH ⊢
  go_enter Try.func69, Try.ntmps69
  go_wp2_with (first | (go_at_call 112; refine (HH.out _).mono ?_; rintro e w' ⟨rfl, hs⟩; have HS := Lib.hid hs; clear hs))
  go_ret
  exact ⟨rfl, HS.out⟩
/-- how many numbers, how many kept, and which lengths an effect has -/
def cntE (k : Int) : Int := if k = 0 then 1 else if k = 1 then 5 else if k = 2 then 2 else if k = 3 then 4 else if k = 4 then 1 else if k = 5 then 0 else if k = 6 then 2 else -1
def keepE (k l : Int) : Int := if k = 0 then 0 else if k = 1 then 2 else if k = 2 then l else if k = 3 then 1 else if k = 4 then 0 else if k = 5 then 0 else if k = 6 then 1 + l else -1
def lowE (k : Int) : Int := if k = 2 then 1 else 0
def highE (k : Int) : Int := if k = 2 then 32 else if k = 6 then 32 else 0
def effB (x : EffectR) : Bool := inB x.l (lowE x.k) (highE x.k) && decide ((x.sn : Int) = cntE x.k) && (!decide (x.k = 6) || limB (wd x.sx 0))
theorem kinds (k : Int) : (k = 0 ∨ k = 1 ∨ k = 2 ∨ k = 3 ∨ k = 4 ∨ k = 5 ∨ k = 6) ∨ (¬ k = 0 ∧ ¬ k = 1 ∧ ¬ k = 2 ∧ ¬ k = 3 ∧ ¬ k = 4 ∧ ¬ k = 5 ∧ ¬ k = 6) := by omega
theorem effB_facts {x : EffectR} (h : effB x = true) : 0 ≤ x.l ∧ x.l ≤ 32 ∧ (x.k = 0 ∨ x.k = 1 ∨ x.k = 2 ∨ x.k = 3 ∨ x.k = 4 ∨ x.k = 5 ∨ x.k = 6) ∧ (x.sn : Int) = cntE x.k := by
  unfold effB inB at h
  simp only [Bool.and_eq_true, decide_eq_true_eq] at h
  obtain ⟨⟨⟨h1, h2⟩, h3⟩, _⟩ := h
  have h4 : 0 ≤ lowE x.k := by unfold lowE; split <;> decide
  have h5 : highE x.k ≤ 32 := by unfold highE; split <;> (try split) <;> decide
  refine ⟨by omega, by omega, ?_, h3⟩
  rcases kinds x.k with h | ⟨k0, k1, k2, k3, k4, k5, k6⟩
  · exact h
  · unfold cntE at h3
    rw [if_neg k0, if_neg k1, if_neg k2, if_neg k3, if_neg k4, if_neg k5, if_neg k6] at h3
    omega
theorem specCounts_any (k l : Int) (w : World) (h0 : 0 ≤ l) (h1 : l ≤ 32) :
    Calls Try.prog 111 #[.int .i64 k, .int .i64 l] w fun e w' => e = .returned (.tuple #[.int .i64 (cntE k), .int .i64 (keepE k l)]) ∧ w' = w := by
  rcases kinds k with (rfl | rfl | rfl | rfl | rfl | rfl | rfl) | ⟨k0, k1, k2, k3, k4, k5, k6⟩
  · go_enter Try.func111, Try.ntmps111
    go_wp2
    go_ret2
    exact ⟨rfl, rfl⟩
  · go_enter Try.func111, Try.ntmps111
    go_wp2
    go_ret2
    exact ⟨rfl, rfl⟩
  · go_enter Try.func111, Try.ntmps111
    go_wp2
    go_ret2
    exact ⟨rfl, rfl⟩
  · go_enter Try.func111, Try.ntmps111
    go_wp2
    go_ret2
    exact ⟨rfl, rfl⟩
  · go_enter Try.func111, Try.ntmps111
    go_wp2
    go_ret2
    exact ⟨rfl, rfl⟩
  · go_enter Try.func111, Try.ntmps111
    go_wp2
    go_ret2
    exact ⟨rfl, rfl⟩
  · go_enter Try.func111, Try.ntmps111
    go_wp2
    go_ret2
    exact ⟨rfl, rfl⟩
  · have e1 : cntE k = -1 := by unfold cntE; rw [if_neg k0, if_neg k1, if_neg k2, if_neg k3, if_neg k4, if_neg k5, if_neg k6]
    have e2 : keepE k l = -1 := by unfold keepE; rw [if_neg k0, if_neg k1, if_neg k2, if_neg k3, if_neg k4, if_neg k5, if_neg k6]
    rw [e1, e2]
    clear e1 e2
    go_enter Try.func111, Try.ntmps111
    go_wp2
    go_ret2
    exact ⟨rfl, rfl⟩
set_option maxHeartbeats 8000000 in
set_option maxRecDepth 100000 in
theorem specEffect_b (g o : Nat) (x : EffectR) (b : Bool) (w : World) (B : Nat) (hB : B ≤ w.heap.size) (c0 : w.cell? ⟨g, o, none⟩ = some (.int .i64 x.k)) (c1 : w.cell? ⟨g, o + 1, none⟩ = some (.int .i64 x.l)) (c2 : w.cell? ⟨g, o + 2, none⟩ = some (.slice x.sA x.sn x.sc))
    (hF : Fs w B x.sA x.sn x.sx) (hg : g < w.heap.size) (hb : effB x = b) :
    Calls Try.prog 66 #[.pointer (some ⟨g, o, none⟩)] w fun e w' => e = .returned (.bool b) ∧ w.Since w.heap.size w' := by
  obtain ⟨k, l, sA, sn, sc, sx⟩ := x
  simp only at c0 c1 c2 hF
  have HF := Lib.hid hF
  subst hb
  unfold effB
  simp only
  clear hF
  have HIN : Hid (∀ lo hi r, inB l lo hi = r → ∀ W, Calls Try.prog 78 #[.int .i64 l, .int .i64 lo, .int .i64 hi] W fun e w' => e = .returned (.bool r) ∧ W = w') := Lib.hid (fun lo hi r h W => specHold_b l lo hi r W h)
  rcases kinds k with h | ⟨k0, k1, k2, k3, k4, k5, k6⟩
  · have e6 : Hid (k = 6 → 0 < sn → ∃ gs os, sA = some ⟨gs, os, none⟩ ∧ wd sx 0 < 4294967296 ∧ ∀ w1 : World, w.Since w.heap.size w1 → w1.cell? ⟨gs, os, none⟩ = some (.float .f32 (wd sx 0))) := Lib.hid (fun _ h0 => by
      obtain ⟨gs, os, es, hgs, hcs⟩ := HF.out.2.2 h0
      refine ⟨gs, os, es, HF.out.2.1.at_ 0, fun w1 hs => ?_⟩
      rw [hs.cell (a := ⟨gs, os, none⟩) (by show gs < _; omega)]
      have := hcs 0 h0
      rw [Nat.add_zero] at this
      exact this)
    cases h1 : inB l (lowE k) (highE k)
    · have HI := Lib.hid (HIN.out _ _ _ h1)
      clear HIN h1 e6
      rcases h with rfl | rfl | rfl | rfl | rfl | rfl | rfl
      all_goals
        simp only [lowE, highE, if_true, if_false, ite_true, ite_false, Int.reduceEq, reduceIte] at HI
        go_enter Try.func66, Try.ntmps66
        go_wp2_with (first | (go_at_call 78; refine (HI.out _).mono ?_; rintro e w' ⟨rfl, rfl⟩))
        go_ret
        exact ⟨rfl, by (repeat (first | (with_reducible refine Fl.sinDrew ?_) | (with_reducible refine World.Since.drew ?_) | (with_reducible refine Fl.sinSet ?_ ?_; rotate_left) | (with_reducible refine Fl.sinAlloc ?_ ?_; rotate_left) | with_reducible exact World.Since.refl _ _ | with_reducible assumption | (with_reducible refine Fl.sinStep (by with_reducible assumption) ?_))); all_goals (first | omega | (simp; done) | (simp; omega) | (simp [go_sem]; done) | (simp [go_sem]; omega))⟩
    · have HI := Lib.hid (HIN.out _ _ _ h1)
      have hl : 0 ≤ l ∧ l ≤ 32 := by
        have h4 : 0 ≤ lowE k := by unfold lowE; split <;> decide
        have h5 : highE k ≤ 32 := by unfold highE; split <;> (try split) <;> decide
        unfold inB at h1
        simp only [Bool.and_eq_true, decide_eq_true_eq] at h1
        omega
      have HC := Lib.hid (fun W => specCounts_any k l W hl.1 hl.2)
      clear HIN h1 hl
      by_cases h2 : (sn : Int) = cntE k
      · rw [decide_eq_true h2]
        by_cases h6 : k = 6
        · subst h6
          have h3 : (sn : Int) = 2 := h2
          obtain rfl : sn = 2 := by omega
          obtain ⟨gs, os, rfl, hwd, hcs⟩ := e6.out rfl (by decide)
          have HCS := Lib.hid hcs
          have cs := hcs w (World.Since.refl _ _)
          have HL := Lib.hid (fun b (hb : limB (wd sx 0) = b) W => specLimit_b (wd sx 0) b W hwd hb)
          clear h h2 h3 e6 hcs
          simp only [lowE, highE, if_true, if_false, ite_true, ite_false, Int.reduceEq, reduceIte] at HI
          simp only [cntE, keepE, if_true, if_false, ite_true, ite_false, Int.reduceEq, reduceIte] at HC
          cases h7 : limB (wd sx 0)
          all_goals
            go_enter Try.func66, Try.ntmps66
            go_wp2_with (first | (go_at_call 78; refine (HI.out _).mono ?_; rintro e w' ⟨rfl, rfl⟩))
            go_quiet (first | (go_at_call 111; refine Calls.quiet_of_same (HC.out _)))
            go_wp2_with (first  | (go_at_call 87; refine (HL.out _ h7 _).mono ?_; rintro e w' ⟨rfl, hs⟩; have HS := Lib.hid hs; clear hs))
            go_ret
            exact ⟨rfl, by have hs0 := HS.out; exact since_step (since_drewN (World.Since.refl _ _) _) hs0⟩
        · rw [decide_eq_false h6]
          clear e6
          rcases h with rfl | rfl | rfl | rfl | rfl | rfl | rfl
          all_goals first | (exact absurd rfl h6) | skip
          all_goals
            simp only [lowE, highE, if_true, if_false, ite_true, ite_false, Int.reduceEq, reduceIte] at HI
            simp only [cntE, keepE, if_true, if_false, ite_true, ite_false, Int.reduceEq, reduceIte] at HC h2
            go_enter Try.func66, Try.ntmps66
            go_wp2_with (first | (go_at_call 78; refine (HI.out _).mono ?_; rintro e w' ⟨rfl, rfl⟩))
            go_quiet (first | (go_at_call 111; refine Calls.quiet_of_same (HC.out _)))
            go_wp2
            go_ret
            exact ⟨rfl, by (repeat (first | (with_reducible refine Fl.sinDrew ?_) | (with_reducible refine World.Since.drew ?_) | (with_reducible refine Fl.sinSet ?_ ?_; rotate_left) | (with_reducible refine Fl.sinAlloc ?_ ?_; rotate_left) | with_reducible exact World.Since.refl _ _ | with_reducible assumption | (with_reducible refine Fl.sinStep (by with_reducible assumption) ?_))); all_goals (first | omega | (simp; done) | (simp; omega) | (simp [go_sem]; done) | (simp [go_sem]; omega))⟩
      · rw [decide_eq_false h2]
        clear e6
        rcases h with rfl | rfl | rfl | rfl | rfl | rfl | rfl
        all_goals
          simp only [lowE, highE, if_true, if_false, ite_true, ite_false, Int.reduceEq, reduceIte] at HI
          simp only [cntE, keepE, if_true, if_false, ite_true, ite_false, Int.reduceEq, reduceIte] at HC h2
          go_enter Try.func66, Try.ntmps66
          go_wp2_with (first | (go_at_call 78; refine (HI.out _).mono ?_; rintro e w' ⟨rfl, rfl⟩))
          go_quiet (first | (go_at_call 111; refine Calls.quiet_of_same (HC.out _)))
          go_wp2
          go_ret
          exact ⟨rfl, by (repeat (first | (with_reducible refine Fl.sinDrew ?_) | (with_reducible refine World.Since.drew ?_) | (with_reducible refine Fl.sinSet ?_ ?_; rotate_left) | (with_reducible refine Fl.sinAlloc ?_ ?_; rotate_left) | with_reducible exact World.Since.refl _ _ | with_reducible assumption | (with_reducible refine Fl.sinStep (by with_reducible assumption) ?_))); all_goals (first | omega | (simp; done) | (simp; omega) | (simp [go_sem]; done) | (simp [go_sem]; omega))⟩
  · have e1 : cntE k = -1 := by unfold cntE; rw [if_neg k0, if_neg k1, if_neg k2, if_neg k3, if_neg k4, if_neg k5, if_neg k6]
    have h2 : ¬ (sn : Int) = cntE k := by omega
    rw [decide_eq_false h2]
    have e3 : lowE k = 0 := by unfold lowE; rw [if_neg k2]
    have e4 : highE k = 0 := by unfold highE; rw [if_neg k2, if_neg k6]
    have h3 : ¬ (sn : Int) = -1 := by omega
    rw [e3, e4]
    cases h1 : inB l 0 0
    · have HI := Lib.hid (HIN.out _ _ _ h1)
      clear HIN h1 e1 e3 e4 h2
      go_enter Try.func66, Try.ntmps66
      go_wp2_with (first | (go_at_call 78; refine (HI.out _).mono ?_; rintro e w' ⟨rfl, rfl⟩))
      go_ret
      exact ⟨rfl, by (repeat (first | (with_reducible refine Fl.sinDrew ?_) | (with_reducible refine World.Since.drew ?_) | (with_reducible refine Fl.sinSet ?_ ?_; rotate_left) | (with_reducible refine Fl.sinAlloc ?_ ?_; rotate_left) | with_reducible exact World.Since.refl _ _ | with_reducible assumption | (with_reducible refine Fl.sinStep (by with_reducible assumption) ?_))); all_goals (first | omega | (simp; done) | (simp; omega) | (simp [go_sem]; done) | (simp [go_sem]; omega))⟩
    · have HI := Lib.hid (HIN.out _ _ _ h1)
      have hl : 0 ≤ l ∧ l ≤ 32 := by
        unfold inB at h1
        simp only [Bool.and_eq_true, decide_eq_true_eq] at h1
        omega
      have HC := Lib.hid (fun W => specCounts_any k l W hl.1 hl.2)
      simp only [e1] at HC
      clear HIN h1 e1 e3 e4 h2 hl
      go_enter Try.func66, Try.ntmps66
      go_wp2_with (first | (go_at_call 78; refine (HI.out _).mono ?_; rintro e w' ⟨rfl, rfl⟩))
      go_quiet (first | (go_at_call 111; refine Calls.quiet_of_same (HC.out _)))
      go_wp2
      go_ret
      exact ⟨rfl, by (repeat (first | (with_reducible refine Fl.sinDrew ?_) | (with_reducible refine World.Since.drew ?_) | (with_reducible refine Fl.sinSet ?_ ?_; rotate_left) | (with_reducible refine Fl.sinAlloc ?_ ?_; rotate_left) | with_reducible exact World.Since.refl _ _ | with_reducible assumption | (with_reducible refine Fl.sinStep (by with_reducible assumption) ?_))); all_goals (first | omega | (simp; done) | (simp; omega) | (simp [go_sem]; done) | (simp [go_sem]; omega))⟩
end Go.Proofs.Ytbgjmmncjmcjfaa
