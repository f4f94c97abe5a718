/- Rates: factors; samples picked, both. -/
import Derived.Test.YtlpbpljdfflgeaaJa
set_option linter.unusedVariables false
set_option linter.unusedSimpArgs false
namespace Go.Proofs.Ytlpbpljdfflgeaa
open Fl Go.RowKit
theorem specIn_b (l a b : Int) (bb : Bool) (w : World) (h : inB l a b = bb) : Calls Try.prog 104 #[.int .i64 l, .int .i64 a, .int .i64 b] w fun e w' => e = .returned (.bool bb) ∧ w = w' := by
  subst h
  exact specIn_any l a b w
theorem allowR_any (a b x : Int) (w : World) :
    Calls Try.prog 97 #[.agg #[.int .i64 a, .int .i64 b], .int .i64 x] w fun e w' => e = .returned (.bool (inB x a b)) ∧ w.alloc (.cells #[.int .i64 a, .int .i64 b] 123) = w' := by
  by_cases h : a ≤ x
  all_goals
    go_enter Try.func97, Try.ntmps97
    go_wp2
    go_ret
    exact ⟨ret_bool (by simp [inB]; omega), rfl⟩
theorem allowR (a b x : Int) (bb : Bool) (w : World) (h : inB x a b = bb) :
    Calls Try.prog 97 #[.agg #[.int .i64 a, .int .i64 b], .int .i64 x] w fun e w' => e = .returned (.bool bb) ∧ w.alloc (.cells #[.int .i64 a, .int .i64 b] 123) = w' := by subst h; exact allowR_any a b x w
theorem implFactor_b (f : Int) (b : Bool) (w : World) (h : inB f 1 8 = b) : Calls Try.prog 95 #[.int .i64 f] w fun e w' => e = .returned (.bool b) ∧ w.Since w.heap.size w' := by
  go_enter Try.func95, Try.ntmps95
  go_wp2_with (go_at_call 97; refine (allowR 1 8 f b _ h).mono ?_; rintro e w' ⟨rfl, rfl⟩)
  go_ret
  exact ⟨rfl, by (repeat (first | (with_reducible refine Fl.sinDrew ?_) | (with_reducible refine World.Since.drew ?_) | (with_reducible refine Fl.sinSet ?_ ?_; rotate_left) | (with_reducible refine Fl.sinAlloc ?_ ?_; rotate_left) | with_reducible exact World.Since.refl _ _ | with_reducible assumption | (with_reducible refine Fl.sinStep (by with_reducible assumption) ?_))); all_goals (first | omega | (simp; done) | (simp; omega) | (simp [go_sem]; done) | (simp [go_sem]; omega))⟩
/-- how many samples are picked, from t on, each f-th -/
def cntP (n f t : Nat) : Nat := (n + f - 1 - t) / f
theorem cntP_lt {n f t k : Nat} (hf : 1 ≤ f) (ht : t < f) : k < cntP n f t ↔ t + k * f < n := by
  unfold cntP
  rw [← Nat.succ_le_iff, Nat.le_div_iff_mul_le (by omega), Nat.succ_mul]
  omega
theorem cntP_le {n f t : Nat} (hf : 1 ≤ f) : cntP n f t ≤ n + f := by
  unfold cntP
  exact Nat.le_trans (Nat.div_le_self _ _) (by omega)
def pickF (xs : List Nat) (f t : Nat) (k : Nat) : O := ab .f32 (wd xs (t + k * f))
def okPick (f t : Int) (n : Nat) : Bool := inB f 1 8 && inB t 0 (f - 1) && decide (n ≤ 256)
theorem okPick_nat {f t : Int} {n : Nat} (h : okPick f t n = true) : ∃ f' t' : Nat, f = f' ∧ t = t' ∧ 1 ≤ f' ∧ f' ≤ 8 ∧ t' < f' ∧ n ≤ 256 := by
  simp only [okPick, inB, Bool.and_eq_true, decide_eq_true_eq] at h
  exact ⟨f.toNat, t.toNat, by omega, by omega, by omega, by omega, by omega, by omega⟩
theorem PL.toB {n0 : Nat} {f0 : Nat → O} {w w' : World} {e : Ending} (h : PL n0 f0 w e w') : ∃ (p : Ls) (c : Nat), e = .returned (.slice p.A p.n c) ∧ Hid (p.n = n0) ∧ Hid (Gs 30 w' w.heap.size p.A p.n p.xs) ∧ Hid (Are p f0) ∧ Hid (w.Since w.heap.size w') := by
  obtain ⟨p, c, h1, h2, h3, h4, h5⟩ := h
  exact ⟨p, c, h1, Lib.hid h2, Lib.hid h3, Lib.hid h4, Lib.hid h5⟩
set_option maxHeartbeats 4000000 in
theorem implPick_no (A : Option Addr) (n c : Nat) (f t : Int) (w : World) (h : okPick f t n = false) (F : Nat → O) : Calls Try.prog 24 #[.int .i64 f, .int .i64 t, .slice A n c] w (PLB 0 F false w) := by
  unfold okPick at h
  cases h1 : inB f 1 8
  · go_enter Try.func24, Try.ntmps24
    go_wp2_with (first | (go_at_call 97; refine (allowR_any _ _ _ _).mono ?_; rintro e w' ⟨rfl, rfl⟩) | (go_at_call 95; refine (implFactor_b f false _ h1).mono ?_; rintro e w1 ⟨rfl, hs1⟩; have HS1 := Lib.hid hs1; clear hs1))
    go_ret2
    exact PLB.none_ ((show World.Since w.heap.size w _ from by (repeat (first | (with_reducible refine Fl.sinDrew ?_) | (with_reducible refine World.Since.drew ?_) | (with_reducible refine Fl.sinSet ?_ ?_; rotate_left) | (with_reducible refine Fl.sinAlloc ?_ ?_; rotate_left) | with_reducible exact World.Since.refl _ _ | with_reducible assumption | (with_reducible refine Fl.sinStep (by with_reducible assumption) ?_))); all_goals (first | omega | (simp; done) | (simp; omega) | (simp [go_sem]; done) | (simp [go_sem]; omega))).trans (since_mono HS1.out (by simp))) _
  · have hb := h1
    simp only [inB, Bool.and_eq_true, decide_eq_true_eq] at hb
    have e3 : decide (n ≤ 256) = decide ((n : Int) ≤ 256) := by simp; omega
    rw [e3, h1] at h
    cases h2 : inB t 0 (f - 1) <;> cases h3 : decide ((n : Int) ≤ 256)
    all_goals try (rw [h2, h3] at h; cases h; done)
    all_goals
      go_enter Try.func24, Try.ntmps24
      go_wp2_with (first | (go_at_call 97; with_reducible refine (allowR _ _ _ _ _ h2).mono ?_; rintro e w' ⟨rfl, rfl⟩) | (go_at_call 95; refine (implFactor_b f true _ h1).mono ?_; rintro e w1 ⟨rfl, hs1⟩; have HS1 := Lib.hid hs1; clear hs1) | (go_at_call 89; refine (implSamples_b _ _ _ _ _ h3).mono ?_; rintro e w' ⟨rfl, rfl⟩))
      go_ret2
      exact PLB.none_ ((show World.Since w.heap.size w _ from by (repeat (first | (with_reducible refine Fl.sinDrew ?_) | (with_reducible refine World.Since.drew ?_) | (with_reducible refine Fl.sinSet ?_ ?_; rotate_left) | (with_reducible refine Fl.sinAlloc ?_ ?_; rotate_left) | with_reducible exact World.Since.refl _ _ | with_reducible assumption | (with_reducible refine Fl.sinStep (by with_reducible assumption) ?_))); all_goals (first | omega | (simp; done) | (simp; omega) | (simp [go_sem]; done) | (simp [go_sem]; omega))).trans (since_mono HS1.out (by simp))) _
set_option maxHeartbeats 4000000 in
set_option maxRecDepth 100000 in
theorem implPick_ok (A : Option Addr) (n c f t : Nat) (xs : List Nat) (w : World) (hA : Fs w w.heap.size A n xs) (hn : n ≤ 256) (hf : 1 ≤ f) (hf2 : f ≤ 8) (ht : t < f) :
    Calls Try.prog 24 #[.int .i64 f, .int .i64 t, .slice A n c] w (PLB (cntP n f t) (pickF xs f t) true w) := by
  have HA := Lib.hid hA
  have h1 : inB (f : Int) 1 8 = true := by simp [inB]; omega
  have h2 : inB (t : Int) 0 ((f : Int) - 1) = true := by simp [inB]; omega
  have h3 : decide ((n : Int) ≤ 256) = true := decide_eq_true (by omega)
  clear hA
  go_enter Try.func24, Try.ntmps24
  go_wp2_with (first | (go_at_call 97; with_reducible refine (allowR _ _ _ _ _ h2).mono ?_; rintro e w' ⟨rfl, rfl⟩) | (go_at_call 95; refine (implFactor_b f true _ h1).mono ?_; rintro e w1 ⟨rfl, hs1⟩; have HS1 := Lib.hid hs1; clear hs1) | (go_at_call 89; refine (implSamples_b _ _ _ _ _ h3).mono ?_; rintro e w' ⟨rfl, rfl⟩))
  have S1 : Hid (w.Since w.heap.size w1) := Lib.hid ((show World.Since w.heap.size w _ from by (repeat (first | (with_reducible refine Fl.sinDrew ?_) | (with_reducible refine World.Since.drew ?_) | (with_reducible refine Fl.sinSet ?_ ?_; rotate_left) | (with_reducible refine Fl.sinAlloc ?_ ?_; rotate_left) | with_reducible exact World.Since.refl _ _ | with_reducible assumption | (with_reducible refine Fl.sinStep (by with_reducible assumption) ?_))); all_goals (first | omega | (simp; done) | (simp; omega) | (simp [go_sem]; done) | (simp [go_sem]; omega))).trans (since_mono HS1.out (by simp)))
  have z1 := S1.out.size
  clear HS1
  go_loopw [9, 10] (fun v i wr => ∃ k : Nat, k ≤ cntP n f t ∧ i = .int .i64 ((t + k * f : Nat) : Int) ∧ Rw w1.heap.size wr v k (pickF xs f t) ∧ w1.Since w1.heap.size wr) (fun _ i _ => n + f - (intOf i).toNat)
  case atStart => exact ⟨0, Nat.zero_le _, by rw [Nat.zero_mul]; rfl, Rw.start w1 _ (Nat.le_refl _) _, (World.Since.refl _ _).alloc (Nat.le_refl _) _⟩
  case round =>
    obtain ⟨k, hk, rfl, hr, hs⟩ := hrel
    have HR := Lib.hid hr; have HS := Lib.hid hs
    have hK := cntP_lt (n := n) (k := k) hf ht
    have eF : Hid (pickF xs f t k = ab .f32 (wd xs (t + k * f))) := Lib.hid rfl
    have eN : (k + 1) * f = k * f + f := Nat.succ_mul k f
    clear hr hs
    generalize hp : k * f = p at *
    by_cases hlt : t + p < n
    · have hk2 := hK.2 hlt
      have hKn := cntP_le (n := n) (t := t) hf
      obtain ⟨g, off, rfl, hg, hc⟩ := HA.out.2.2 (by omega)
      have hcell : wr.cell? ⟨g, off + (t + p), none⟩ = some (.float .f32 (wd xs (t + p))) := ((HS.out.cell (a := ⟨g, off + (t + p), none⟩) (by show g < _; omega)).trans (S1.out.cell (a := ⟨g, off + (t + p), none⟩) hg)).trans (hc (t + p) hlt)
      have hx : Hid (Fv .f32 (wd xs (t + p)) (pickF xs f t k)) := Lib.hid ⟨HA.out.2.1.at_ _, eF.out.symm⟩
      have hsz := HS.out.size
      clear hc hK eF
      go_wp2_with (first | (at_builtin; refine wpList_app1 rfl (.tmp 37) (.tmp 42) rfl w1.heap.size _ k _ rfl _ _ rfl (by simp [go_sem]) (by omega) (by simp; omega) hx (HR.out.alloc _) ?_; intro v' w3 hR3 hS3))
      go_roundw
      case rel => exact ⟨k + 1, by omega, by rw [eN]; go_num, hR3.out, HS.out.trans (((World.Since.refl _ _).alloc hsz _).trans hS3.out)⟩
      case measure => simp [intOf]; omega
    · have hk3 : ¬ k < cntP n f t := fun h => hlt (hK.1 h)
      obtain rfl : k = cntP n f t := by omega
      obtain ⟨p', cp, rfl, hpn, hg, ha⟩ := HR.out.done
      have HG := Lib.hid hg; have HAA := Lib.hid ha; have HN := Lib.hid hpn; clear hg ha hpn
      go_wp2
      go_ret2
      exact ⟨p', cp, rfl, HN.out, HG.out.less z1, HAA.out, S1.out.trans (since_mono HS.out z1)⟩
end Go.Proofs.Ytlpbpljdfflgeaa
