/- Valid effects and chains, of the program; chains, of both; lateness. -/
import Derived.Test.YtbgjmmncjmcjfaaRc
import Derived.Test.YtbgjmmncjmcjfaaVa
import Derived.Test.YtbgjmmncjmcjfaaRz
set_option linter.unusedVariables false
set_option linter.unusedSimpArgs false
namespace Go.Proofs.Ytbgjmmncjmcjfaa
open Fl Go.RowKit
def restE (k : Int) : Int := if k = 1 then 2 else if k = 3 then 1 else if k = 6 then 1 else 0
theorem shapeOf_ok (k : Int) (w : World) (h : k = 0 ∨ k = 1 ∨ k = 2 ∨ k = 3 ∨ k = 4 ∨ k = 5 ∨ k = 6) :
    Calls Try.prog 67 #[.int .i64 k] w fun e w' => e = .returned (.tuple #[.agg #[.int .i64 (cntE k), .int .i64 (lowE k), .int .i64 (highE k), .int .i64 (restE k)], .bool true]) ∧ w.Since w.heap.size w' := by
  rcases h with rfl | rfl | rfl | rfl | rfl | rfl | rfl
  · go_enter Try.func67, Try.ntmps67
    go_wp2
    exact bodyPost_ret (v := .tuple #[.agg #[.int .i64 1, .int .i64 0, .int .i64 0, .int .i64 0], .bool true]) (by simp [results, Try.results67, go_sem]) rfl ⟨rfl, by (repeat (first | (with_reducible refine Fl.sinDrew ?_) | (with_reducible refine World.Since.drew ?_) | (with_reducible refine Fl.sinSet ?_ ?_; rotate_left) | (with_reducible refine Fl.sinAlloc ?_ ?_; rotate_left) | with_reducible exact World.Since.refl _ _ | with_reducible assumption | (with_reducible refine Fl.sinStep (by with_reducible assumption) ?_))); all_goals (first | omega | (simp; done) | (simp; omega) | (simp [go_sem]; done) | (simp [go_sem]; omega))⟩
  · go_enter Try.func67, Try.ntmps67
    go_wp2
    exact bodyPost_ret (v := .tuple #[.agg #[.int .i64 5, .int .i64 0, .int .i64 0, .int .i64 2], .bool true]) (by simp [results, Try.results67, go_sem]) rfl ⟨rfl, by (repeat (first | (with_reducible refine Fl.sinDrew ?_) | (with_reducible refine World.Since.drew ?_) | (with_reducible refine Fl.sinSet ?_ ?_; rotate_left) | (with_reducible refine Fl.sinAlloc ?_ ?_; rotate_left) | with_reducible exact World.Since.refl _ _ | with_reducible assumption | (with_reducible refine Fl.sinStep (by with_reducible assumption) ?_))); all_goals (first | omega | (simp; done) | (simp; omega) | (simp [go_sem]; done) | (simp [go_sem]; omega))⟩
  · go_enter Try.func67, Try.ntmps67
    go_wp2
    exact bodyPost_ret (v := .tuple #[.agg #[.int .i64 2, .int .i64 1, .int .i64 32, .int .i64 0], .bool true]) (by simp [results, Try.results67, go_sem]) rfl ⟨rfl, by (repeat (first | (with_reducible refine Fl.sinDrew ?_) | (with_reducible refine World.Since.drew ?_) | (with_reducible refine Fl.sinSet ?_ ?_; rotate_left) | (with_reducible refine Fl.sinAlloc ?_ ?_; rotate_left) | with_reducible exact World.Since.refl _ _ | with_reducible assumption | (with_reducible refine Fl.sinStep (by with_reducible assumption) ?_))); all_goals (first | omega | (simp; done) | (simp; omega) | (simp [go_sem]; done) | (simp [go_sem]; omega))⟩
  · go_enter Try.func67, Try.ntmps67
    go_wp2
    exact bodyPost_ret (v := .tuple #[.agg #[.int .i64 4, .int .i64 0, .int .i64 0, .int .i64 1], .bool true]) (by simp [results, Try.results67, go_sem]) rfl ⟨rfl, by (repeat (first | (with_reducible refine Fl.sinDrew ?_) | (with_reducible refine World.Since.drew ?_) | (with_reducible refine Fl.sinSet ?_ ?_; rotate_left) | (with_reducible refine Fl.sinAlloc ?_ ?_; rotate_left) | with_reducible exact World.Since.refl _ _ | with_reducible assumption | (with_reducible refine Fl.sinStep (by with_reducible assumption) ?_))); all_goals (first | omega | (simp; done) | (simp; omega) | (simp [go_sem]; done) | (simp [go_sem]; omega))⟩
  · go_enter Try.func67, Try.ntmps67
    go_wp2
    exact bodyPost_ret (v := .tuple #[.agg #[.int .i64 1, .int .i64 0, .int .i64 0, .int .i64 0], .bool true]) (by simp [results, Try.results67, go_sem]) rfl ⟨rfl, by (repeat (first | (with_reducible refine Fl.sinDrew ?_) | (with_reducible refine World.Since.drew ?_) | (with_reducible refine Fl.sinSet ?_ ?_; rotate_left) | (with_reducible refine Fl.sinAlloc ?_ ?_; rotate_left) | with_reducible exact World.Since.refl _ _ | with_reducible assumption | (with_reducible refine Fl.sinStep (by with_reducible assumption) ?_))); all_goals (first | omega | (simp; done) | (simp; omega) | (simp [go_sem]; done) | (simp [go_sem]; omega))⟩
  · go_enter Try.func67, Try.ntmps67
    go_wp2
    exact bodyPost_ret (v := .tuple #[.agg #[.int .i64 0, .int .i64 0, .int .i64 0, .int .i64 0], .bool true]) (by simp [results, Try.results67, go_sem]) rfl ⟨rfl, by (repeat (first | (with_reducible refine Fl.sinDrew ?_) | (with_reducible refine World.Since.drew ?_) | (with_reducible refine Fl.sinSet ?_ ?_; rotate_left) | (with_reducible refine Fl.sinAlloc ?_ ?_; rotate_left) | with_reducible exact World.Since.refl _ _ | with_reducible assumption | (with_reducible refine Fl.sinStep (by with_reducible assumption) ?_))); all_goals (first | omega | (simp; done) | (simp; omega) | (simp [go_sem]; done) | (simp [go_sem]; omega))⟩
  · go_enter Try.func67, Try.ntmps67
    go_wp2
    exact bodyPost_ret (v := .tuple #[.agg #[.int .i64 2, .int .i64 0, .int .i64 32, .int .i64 1], .bool true]) (by simp [results, Try.results67, go_sem]) rfl ⟨rfl, by (repeat (first | (with_reducible refine Fl.sinDrew ?_) | (with_reducible refine World.Since.drew ?_) | (with_reducible refine Fl.sinSet ?_ ?_; rotate_left) | (with_reducible refine Fl.sinAlloc ?_ ?_; rotate_left) | with_reducible exact World.Since.refl _ _ | with_reducible assumption | (with_reducible refine Fl.sinStep (by with_reducible assumption) ?_))); all_goals (first | omega | (simp; done) | (simp; omega) | (simp [go_sem]; done) | (simp [go_sem]; omega))⟩
theorem shapeOf_no (k : Int) (w : World) (h : ¬ k = 0 ∧ ¬ k = 1 ∧ ¬ k = 2 ∧ ¬ k = 3 ∧ ¬ k = 4 ∧ ¬ k = 5 ∧ ¬ k = 6) :
    Calls Try.prog 67 #[.int .i64 k] w fun e w' => e = .returned (.tuple #[.agg #[.int .i64 0, .int .i64 0, .int .i64 0, .int .i64 0], .bool false]) ∧ w.Since w.heap.size w' := by
  obtain ⟨k0, k1, k2, k3, k4, k5, k6⟩ := h
  go_enter Try.func67, Try.ntmps67
  go_wp2
  exact bodyPost_ret (v := .tuple #[.agg #[.int .i64 0, .int .i64 0, .int .i64 0, .int .i64 0], .bool false]) (by simp [results, Try.results67, go_sem]) rfl ⟨rfl, by (repeat (first | (with_reducible refine Fl.sinDrew ?_) | (with_reducible refine World.Since.drew ?_) | (with_reducible refine Fl.sinSet ?_ ?_; rotate_left) | (with_reducible refine Fl.sinAlloc ?_ ?_; rotate_left) | with_reducible exact World.Since.refl _ _ | with_reducible assumption | (with_reducible refine Fl.sinStep (by with_reducible assumption) ?_))); all_goals (first | omega | (simp; done) | (simp; omega) | (simp [go_sem]; done) | (simp [go_sem]; omega))⟩
set_option maxHeartbeats 4000000 in
set_option maxRecDepth 100000 in
theorem implEffect_b (x : EffectR) (b : Bool) (w : World) (hF : Fs w w.heap.size x.sA x.sn x.sx) (hb : effB x = b) :
    Calls Try.prog 18 #[x.val] w fun e w' => e = .returned (.bool b) ∧ w.Since w.heap.size w' := by
  obtain ⟨k, l, sA, sn, sc, sx⟩ := x
  simp only at hF
  have HF := Lib.hid hF
  have HB := Lib.hid hb
  unfold effB at HB
  unfold EffectR.val
  simp only at HB
  clear hF hb
  obtain ⟨W1, hW1⟩ : ∃ W1, W1 = w.alloc (.cells #[.int .i64 k, .int .i64 l, .slice sA sn sc] 27) := ⟨_, rfl⟩
  have z1 : Hid (W1.heap.size = w.heap.size + 1) := Lib.hid (by rw [hW1]; simp)
  have S1 : Hid (w.Since w.heap.size W1) := Lib.hid (by rw [hW1]; exact (World.Since.refl _ _).alloc (Nat.le_refl _) _)
  have C0 : Hid (W1.cell? ⟨w.heap.size, 0, none⟩ = some (.int .i64 k)) := Lib.hid (by rw [hW1]; simp [go_sem])
  have C1 : Hid (W1.cell? ⟨w.heap.size, 1, none⟩ = some (.int .i64 l)) := Lib.hid (by rw [hW1]; simp [go_sem])
  have C2 : Hid (W1.cell? ⟨w.heap.size, 2, none⟩ = some (.slice sA sn sc)) := Lib.hid (by rw [hW1]; simp [go_sem])
  have HW1 := Lib.hid hW1
  clear hW1
  rcases kinds k with h | h
  · have HSH := Lib.hid (fun W => shapeOf_ok k W h)
    have HAL := Lib.hid (fun b (hb : inB l (lowE k) (highE k) = b) W => allowX_any (lowE k) (highE k) l W)
    generalize hlo : lowE k = lo at HSH HAL HB
    generalize hhi : highE k = hi at HSH HAL HB
    generalize hrs : restE k = rs at HSH
    have HCN : Hid (k = 6 → cntE k = 2) := Lib.hid (fun h => by rw [h]; rfl)
    generalize hcn : cntE k = cn at HSH HCN HB
    clear hlo hhi hrs hcn h
    go_enter Try.func18, Try.ntmps18
    go_wp2_with fail
    rw [← HW1.out]
    have c0 := C0.out
    go_wp2_with fail
    go_at_call 67
    refine (HSH.out _).mono ?_
    rintro e w2 ⟨rfl, hs⟩
    have S2 := Lib.hid hs; clear hs c0
    have z2 := S2.out.size
    have hz1 := z1.out
    have c0 := (S2.out.cell (a := ⟨w.heap.size, 0, none⟩) (by show w.heap.size < _; omega)).trans C0.out
    have c1 := (S2.out.cell (a := ⟨w.heap.size, 1, none⟩) (by show w.heap.size < _; omega)).trans C1.out
    have c2 := (S2.out.cell (a := ⟨w.heap.size, 2, none⟩) (by show w.heap.size < _; omega)).trans C2.out
    have hlt : w.heap.size < w2.heap.size := by omega
    have SS := Lib.hid (since_step S1.out S2.out)
    by_cases h2 : (sn : Int) = cn
    · rw [decide_eq_true h2] at HB
      cases h1 : inB l lo hi
      · have HA := Lib.hid (fun W => by have := HAL.out _ h1 W; rw [h1] at this; exact this)
        rw [h1] at HB
        obtain rfl : false = b := HB.out
        have h1' := Lib.hid h1; clear h1 HAL
        go_wp2_with (first | (go_at_call 68; refine (HA.out _).mono ?_; rintro e w1 ⟨rfl, rfl⟩))
        go_ret
        exact ⟨rfl, by have hs0 := SS.out; have hz0 := hs0.size; (repeat (first | (with_reducible refine Fl.sinDrew ?_) | (with_reducible refine World.Since.drew ?_) | (with_reducible refine Fl.sinSet ?_ ?_; rotate_left) | (with_reducible refine Fl.sinAlloc ?_ ?_; rotate_left) | with_reducible exact World.Since.refl _ _ | with_reducible assumption | (with_reducible refine Fl.sinStep (by with_reducible assumption) ?_))); all_goals (first | omega | (simp; done) | (simp; omega) | (simp [go_sem]; done) | (simp [go_sem]; omega))⟩
      · have HA := Lib.hid (fun W => by have := HAL.out _ h1 W; rw [h1] at this; exact this)
        rw [h1] at HB
        have h1' := Lib.hid h1; clear h1 HAL
        by_cases h6 : k = 6
        · have hn2 : (sn : Int) = 2 := by rw [h2]; exact HCN.out h6
          obtain ⟨gs, os, rfl, hgs, hcs⟩ := HF.out.2.2 (by omega)
          have hwd : wd sx 0 < 4294967296 := HF.out.2.1.at_ 0
          have cs := (SS.out.cell (a := ⟨gs, os + 0, none⟩) hgs).trans (hcs 0 (by omega))
          rw [Nat.add_zero] at cs
          unfold fv at cs
          have HL := Lib.hid (fun b (hb : limB (wd sx 0) = b) W => implLimit_b (wd sx 0) b W hwd hb)
          have hgs2 : gs < w2.heap.size := by omega
          clear hcs
          subst h6
          cases h7 : limB (wd sx 0)
          all_goals
            rw [h7] at HB
            obtain rfl : _ = b := HB.out
            have h7' := Lib.hid h7; clear h7
            go_wp2_with (first | (go_at_call 68; refine (HA.out _).mono ?_; rintro e w1 ⟨rfl, rfl⟩) | (go_at_call 69; refine (HL.out _ h7'.out _).mono ?_; rintro e w' ⟨rfl, hs⟩; have HS := Lib.hid hs; clear hs))
            go_ret
            refine ⟨rfl, ?_⟩
            have hs := HS.out
            exact since_step ((SS.out.alloc (by omega) _).alloc (by simp; omega) _) hs
        · rw [decide_eq_false h6] at HB
          obtain rfl : true = b := HB.out
          go_wp2_with (first | (go_at_call 68; refine (HA.out _).mono ?_; rintro e w1 ⟨rfl, rfl⟩))
          go_ret
          exact ⟨rfl, by have hs0 := SS.out; have hz0 := hs0.size; (repeat (first | (with_reducible refine Fl.sinDrew ?_) | (with_reducible refine World.Since.drew ?_) | (with_reducible refine Fl.sinSet ?_ ?_; rotate_left) | (with_reducible refine Fl.sinAlloc ?_ ?_; rotate_left) | with_reducible exact World.Since.refl _ _ | with_reducible assumption | (with_reducible refine Fl.sinStep (by with_reducible assumption) ?_))); all_goals (first | omega | (simp; done) | (simp; omega) | (simp [go_sem]; done) | (simp [go_sem]; omega))⟩
    · rw [decide_eq_false h2, Bool.and_false, Bool.false_and] at HB
      obtain rfl : false = b := HB.out
      go_wp2_with (first | (go_at_call 68; refine (HAL.out _ rfl _).mono ?_; rintro e w1 ⟨rfl, rfl⟩))
      go_ret
      exact ⟨rfl, by have hs0 := SS.out; have hz0 := hs0.size; (repeat (first | (with_reducible refine Fl.sinDrew ?_) | (with_reducible refine World.Since.drew ?_) | (with_reducible refine Fl.sinSet ?_ ?_; rotate_left) | (with_reducible refine Fl.sinAlloc ?_ ?_; rotate_left) | with_reducible exact World.Since.refl _ _ | with_reducible assumption | (with_reducible refine Fl.sinStep (by with_reducible assumption) ?_))); all_goals (first | omega | (simp; done) | (simp; omega) | (simp [go_sem]; done) | (simp [go_sem]; omega))⟩
  · have HSH := Lib.hid (fun W => shapeOf_no k W h)
    have e1 : cntE k = -1 := by obtain ⟨k0, k1, k2, k3, k4, k5, k6⟩ := h; unfold cntE; rw [if_neg k0, if_neg k1, if_neg k2, if_neg k3, if_neg k4, if_neg k5, if_neg k6]
    have h2 : ¬ (sn : Int) = cntE k := by omega
    rw [decide_eq_false h2, Bool.and_false, Bool.false_and] at HB
    obtain rfl : false = b := HB.out
    clear h e1 h2
    go_enter Try.func18, Try.ntmps18
    go_wp2_with fail
    rw [← HW1.out]
    have c0 := C0.out
    go_wp2_with (first | (go_at_call 67; refine (HSH.out _).mono ?_; rintro e w2 ⟨rfl, hs⟩))
    go_ret
    have SS := Lib.hid (since_step S1.out hs)
    exact ⟨rfl, by have hs0 := SS.out; have hz0 := hs0.size; (repeat (first | (with_reducible refine Fl.sinDrew ?_) | (with_reducible refine World.Since.drew ?_) | (with_reducible refine Fl.sinSet ?_ ?_; rotate_left) | (with_reducible refine Fl.sinAlloc ?_ ?_; rotate_left) | with_reducible exact World.Since.refl _ _ | with_reducible assumption | (with_reducible refine Fl.sinStep (by with_reducible assumption) ?_))); all_goals (first | omega | (simp; done) | (simp; omega) | (simp [go_sem]; done) | (simp [go_sem]; omega))⟩
def effsIn (x : Nat → EffectR) (k : Nat) : Prop := ∀ j, j < k → effB (x j) = true
def chainOk (x : Nat → EffectR) (n : Nat) : Prop := effsIn x n ∧ n ≤ 8
theorem effsIn_succ {x : Nat → EffectR} {k : Nat} (h : effsIn x k) (hk : effB (x k) = true) : effsIn x (k + 1) := fun j hj => by
  by_cases e : j = k
  · subst e; exact hk
  · exact h j (by omega)
set_option maxHeartbeats 4000000 in
set_option maxRecDepth 100000 in
theorem specIs_b (A : Option Addr) (n c : Nat) (x : Nat → EffectR) (r : Bool) (w : World) (B : Nat) (h : EffectR.Ts w B A n x) (hB : B ≤ w.heap.size) (hn : n ≤ 1048576) (hr : r = true ↔ chainOk x n) :
    Calls Try.prog 70 #[.slice A n c] w fun e w' => e = .returned (.bool r) ∧ w.Since w.heap.size w' := by
  have HA := Lib.hid h; have HR := Lib.hid hr
  clear h hr
  by_cases h8 : n ≤ 8
  · have h8i : decide ((n : Int) ≤ 8) = true := decide_eq_true (by omega)
    go_enter Try.func70, Try.ntmps70
    go_wp2
    go_loopw [3] (fun i wr => ∃ k : Nat, k ≤ n ∧ i = .int .i64 k ∧ effsIn x k ∧ w.Since w.heap.size wr) (fun i _ => n - (intOf i).toNat)
    case atStart => exact ⟨0, Nat.zero_le _, rfl, (fun j hj => by omega), World.Since.refl _ _⟩
    case round =>
      obtain ⟨k, hk, rfl, hz, hs⟩ := hrel
      have HZ := Lib.hid hz; have HS := Lib.hid hs
      clear hz hs
      by_cases hlt : k < n
      · obtain ⟨g, off, rfl, hg, hc⟩ := HA.out.1.at_ hlt
        have hgw : g < w.heap.size := by omega
        have HE := Lib.hid (fun b (hb : effB (x k) = b) => specEffect_b g (off + k * 3) (x k) b wr w.heap.size HS.out.size ((HS.out.cell (a := ⟨g, off + k * 3 + 0, none⟩) hgw).trans (hc 0 (by decide))) ((HS.out.cell (a := ⟨g, off + k * 3 + 1, none⟩) hgw).trans (hc 1 (by decide))) ((HS.out.cell (a := ⟨g, off + k * 3 + 2, none⟩) hgw).trans (hc 2 (by decide))) (((HA.out.2 k hlt).more hB).since HS.out) (Nat.lt_of_lt_of_le hgw HS.out.size) hb)
        clear hc
        cases ho : effB (x k)
        · have h6 : r = false := by
            cases h6 : r
            · rfl
            · have h7 := (HR.out.1 h6).1 k hlt
              rw [ho] at h7; cases h7
          subst h6
          have HO := Lib.hid ho; clear ho
          go_wp2_with (go_at_call 66; refine (HE.out false HO.out).mono ?_; rintro e w2 ⟨rfl, hs2⟩; have HS2 := Lib.hid (since_step HS.out hs2); clear hs2)
          go_ret
          exact ⟨rfl, HS2.out⟩
        · have HO := Lib.hid ho; clear ho
          go_wp2_with (go_at_call 66; refine (HE.out true HO.out).mono ?_; rintro e w2 ⟨rfl, hs2⟩; have HS2 := Lib.hid (since_step HS.out hs2); clear hs2)
          go_roundw
          case rel => exact ⟨k + 1, by omega, by go_num, effsIn_succ HZ.out HO.out, HS2.out⟩
          case measure => simp [intOf]; omega
      · obtain rfl : k = n := by omega
        have h5 := HR.out.2 ⟨HZ.out, h8⟩
        subst h5
        clear HR
        go_wp2
        go_ret
        exact ⟨rfl, HS.out⟩
  · have h6 : r = false := by
      cases h6 : r
      · rfl
      · exact absurd (HR.out.1 h6).2 h8
    subst h6
    clear HR HA
    have h8i : decide ((n : Int) ≤ 8) = false := decide_eq_false (by omega)
    have h0i : decide ((0 : Int) < n) = true := decide_eq_true (by omega)
    go_enter Try.func70, Try.ntmps70
    go_wp2
    go_loopw [3] (fun i wr => i = .int .i64 0 ∧ w.Since w.heap.size wr) (fun i _ => 0)
    case atStart => exact ⟨rfl, World.Since.refl _ _⟩
    case round =>
      obtain ⟨rfl, hs⟩ := hrel
      go_wp2
      go_ret
      exact ⟨rfl, hs⟩
theorem specValidChain_b (A : Option Addr) (n c : Nat) (x : Nat → EffectR) (r : Bool) (w : World) (h : EffectR.Ts w w.heap.size A n x) (hn : n ≤ 1048576) (hr : r = true ↔ chainOk x n) :
    Calls Try.prog 21 #[.slice A n c] w (PB r w) := by
  unfold PB
  have HA := Lib.hid h; have HR := Lib.hid hr
  clear h hr
  go_enter Try.func21, Try.ntmps21
  go_wp2_with (go_at_call 70; refine (specIs_b A n c x r _ _ HA.out (Nat.le_refl _) hn HR.out).mono ?_; rintro e w2 ⟨rfl, hs⟩)
  go_ret
  exact ⟨rfl, hs⟩
set_option maxHeartbeats 4000000 in
set_option maxRecDepth 100000 in
theorem allEffects_any (A : Option Addr) (n c : Nat) (x : Nat → EffectR) (r : Bool) (w : World) (h : EffectR.Ts w w.heap.size A n x) (hn : n ≤ 1048576) (hr : r = true ↔ effsIn x n) :
    Calls Try.prog 71 #[.slice A n c, .func (.func 18) #[] #[]] w fun e w' => e = .returned (.bool r) ∧ w.Since w.heap.size w' := by
  have HA := Lib.hid h; have HR := Lib.hid hr
  clear h hr
  go_enter Try.func71, Try.ntmps71
  go_wp2
  go_loopw [9] (fun i wr => ∃ k : Nat, k ≤ n ∧ i = .int .i64 k ∧ effsIn x k ∧ w.Since w.heap.size wr) (fun i _ => n - (intOf i).toNat)
  case atStart => exact ⟨0, Nat.zero_le _, rfl, (fun j hj => by omega), World.Since.refl _ _⟩
  case round =>
    obtain ⟨k, hk, rfl, hz, hs⟩ := hrel
    have HZ := Lib.hid hz; have HS := Lib.hid hs
    clear hz hs
    by_cases hlt : k < n
    · obtain ⟨g, off, rfl, hg, hc⟩ := HA.out.1.at_ hlt
      have hc0 := (HS.out.cell (a := ⟨g, off + k * 3 + 0, none⟩) (by show g < _; omega)).trans (hc 0 (by decide))
      have hc1 := (HS.out.cell (a := ⟨g, off + k * 3 + 1, none⟩) (by show g < _; omega)).trans (hc 1 (by decide))
      have hc2 := (HS.out.cell (a := ⟨g, off + k * 3 + 2, none⟩) (by show g < _; omega)).trans (hc 2 (by decide))
      simp only [EffectR.cells, List.getD_cons_zero, List.getD_cons_succ, Nat.add_zero] at hc0 hc1 hc2
      clear hc
      have HE := Lib.hid (fun b (hb : effB (x k) = b) W (hW : wr.Since wr.heap.size W) => implEffect_b (x k) b W ((HA.out.2 k hlt).now (since_step HS.out hW)) hb)
      unfold EffectR.val at HE
      cases ho : effB (x k)
      · have h6 : r = false := by
          cases h6 : r
          · rfl
          · have h7 := HR.out.1 h6 k hlt
            rw [ho] at h7; cases h7
        subst h6
        have HO := Lib.hid ho; clear ho
        go_wp2_with fail
        refine (HE.out false HO.out _ (by (repeat (first | (with_reducible refine Fl.sinDrew ?_) | (with_reducible refine World.Since.drew ?_) | (with_reducible refine Fl.sinSet ?_ ?_; rotate_left) | (with_reducible refine Fl.sinAlloc ?_ ?_; rotate_left) | with_reducible exact World.Since.refl _ _ | with_reducible assumption | (with_reducible refine Fl.sinStep (by with_reducible assumption) ?_))); all_goals (first | omega | (simp; done) | (simp; omega) | (simp [go_sem]; done) | (simp [go_sem]; omega)))).mono ?_; rintro e w2 ⟨rfl, hs2⟩
        have HS2 := Lib.hid (since_step (HS.out.alloc HS.out.size _) hs2); clear hs2
        go_wp2
        go_ret
        exact ⟨rfl, HS2.out⟩
      · have HO := Lib.hid ho; clear ho
        go_wp2_with fail
        refine (HE.out true HO.out _ (by (repeat (first | (with_reducible refine Fl.sinDrew ?_) | (with_reducible refine World.Since.drew ?_) | (with_reducible refine Fl.sinSet ?_ ?_; rotate_left) | (with_reducible refine Fl.sinAlloc ?_ ?_; rotate_left) | with_reducible exact World.Since.refl _ _ | with_reducible assumption | (with_reducible refine Fl.sinStep (by with_reducible assumption) ?_))); all_goals (first | omega | (simp; done) | (simp; omega) | (simp [go_sem]; done) | (simp [go_sem]; omega)))).mono ?_; rintro e w2 ⟨rfl, hs2⟩
        have HS2 := Lib.hid (since_step (HS.out.alloc HS.out.size _) hs2); clear hs2
        go_wp2
        go_roundw
        case rel => exact ⟨k + 1, by omega, by go_num, effsIn_succ HZ.out HO.out, HS2.out⟩
        case measure => simp [intOf]; omega
    · obtain rfl : k = n := by omega
      have h5 := HR.out.2 HZ.out
      subst h5
      clear HR
      go_wp2
      go_ret
      exact ⟨rfl, HS.out⟩
theorem implValidChain_b (A : Option Addr) (n c : Nat) (x : Nat → EffectR) (r : Bool) (w : World) (h : EffectR.Ts w w.heap.size A n x) (hn : n ≤ 1048576) (hr : r = true ↔ chainOk x n) :
    Calls Try.prog 23 #[.slice A n c] w (PB r w) := by
  unfold PB
  have HA := Lib.hid h
  by_cases h8 : n ≤ 8
  · have HR : Hid (r = true ↔ effsIn x n) := Lib.hid (hr.trans ⟨fun h => h.1, fun h => ⟨h, h8⟩⟩)
    clear h hr
    have h8i : decide ((n : Int) ≤ 8) = true := decide_eq_true (by omega)
    go_enter Try.func23, Try.ntmps23
    go_wp2_with (go_at_call 71; refine (allEffects_any A n c x r _ HA.out hn HR.out).mono ?_; rintro e w2 ⟨rfl, hs⟩)
    go_ret
    exact ⟨rfl, hs⟩
  · have h6 : r = false := by
      cases h6 : r
      · rfl
      · exact absurd (hr.1 h6).2 h8
    subst h6
    clear h hr
    have h8i : decide ((n : Int) ≤ 8) = false := decide_eq_false (by omega)
    go_enter Try.func23, Try.ntmps23
    go_wp2
    go_ret
    exact ⟨rfl, World.Since.refl _ _⟩
/-- the sum of lengths of limiters -/
def lateE (x : Nat → EffectR) : Nat → Int
  | 0 => 0
  | k + 1 => lateE x k + if (x k).k = 6 then (x k).l else 0
theorem lateE_le {x : Nat → EffectR} {n : Nat} (h : effsIn x n) : ∀ k, k ≤ n → 0 ≤ lateE x k ∧ lateE x k ≤ 32 * k
  | 0, _ => by simp [lateE]
  | k + 1, hk => by
    have h1 := lateE_le h k (by omega)
    have h2 := effB_facts (h k hk)
    unfold lateE
    split <;> omega
set_option maxHeartbeats 4000000 in
set_option maxRecDepth 100000 in
theorem specLateness_b (A : Option Addr) (n c : Nat) (x : Nat → EffectR) (r : Bool) (w : World) (h : EffectR.Ts w w.heap.size A n x) (hn : n ≤ 1048576) (hr : r = true ↔ chainOk x n) :
    Calls Try.prog 35 #[.slice A n c] w (PIB (if r then lateE x n else 0) r w) := by
  unfold PIB
  have HA := Lib.hid h; have HR := Lib.hid hr
  cases hrr : r
  · rw [hrr] at HR
    clear h hr hrr
    go_enter Try.func35, Try.ntmps35
    go_wp2_with (go_at_call 70; refine (specIs_b A n c x false _ _ HA.out (Nat.le_refl _) hn HR.out).mono ?_; rintro e w2 ⟨rfl, hs⟩)
    go_ret2
    exact ⟨rfl, hs⟩
  · rw [hrr] at HR
    have HC := Lib.hid (HR.out.1 rfl)
    have h8 : n ≤ 8 := HC.out.2
    clear h hr hrr
    rw [if_pos rfl]
    go_enter Try.func35, Try.ntmps35
    go_wp2_with (go_at_call 70; refine (specIs_b A n c x true _ _ HA.out (Nat.le_refl _) hn HR.out).mono ?_; rintro e w2 ⟨rfl, hs⟩)
    have HS0 := Lib.hid hs; clear hs
    go_loopw [4, 5] (fun sv i wr => ∃ (k : Nat) (s : Int), k ≤ n ∧ i = .int .i64 k ∧ sv = .int .i64 s ∧ Hid (s = lateE x k) ∧ 0 ≤ s ∧ s ≤ 32 * k ∧ w.Since w.heap.size wr) (fun _ i _ => n - (intOf i).toNat)
    case atStart => exact ⟨0, 0, Nat.zero_le _, rfl, rfl, Lib.hid rfl, by omega, by omega, HS0.out⟩
    case round =>
      obtain ⟨k, s, hk, rfl, rfl, HE, h0, h1, hs⟩ := hrel
      have HS := Lib.hid hs
      clear hs
      by_cases hlt : k < n
      · obtain ⟨g, off, rfl, hg, hc⟩ := HA.out.1.at_ hlt
        have hc0 := (HS.out.cell (a := ⟨g, off + k * 3 + 0, none⟩) (by show g < _; omega)).trans (hc 0 (by decide))
        have hc1 := (HS.out.cell (a := ⟨g, off + k * 3 + 1, none⟩) (by show g < _; omega)).trans (hc 1 (by decide))
        simp only [EffectR.cells, List.getD_cons_zero, List.getD_cons_succ, Nat.add_zero] at hc0 hc1
        have hE := effB_facts (HC.out.1 k hlt)
        have hl0 := hE.1; have hl1 := hE.2.1
        have HT : Hid (lateE x (k + 1) = lateE x k + if (x k).k = 6 then (x k).l else 0) := Lib.hid rfl
        clear hc hE
        by_cases h6 : (x k).k = 6
        · rw [if_pos h6] at HT
          rw [h6] at hc0
          clear h6
          go_wp2
          go_roundw
          case rel => exact ⟨k + 1, s + (x k).l, by omega, by go_num, by go_num, Lib.hid (by rw [HT.out, HE.out]), by omega, by omega, HS.out⟩
          case measure => simp [intOf]; omega
        · rw [if_neg h6] at HT
          go_wp2
          go_roundw
          case rel => exact ⟨k + 1, s, by omega, by go_num, rfl, Lib.hid (by rw [HT.out, HE.out, Int.add_zero]), by omega, by omega, HS.out⟩
          case measure => simp [intOf]; omega
      · obtain rfl : k = n := by omega
        go_wp2
        go_ret2
        exact ⟨by have h := HE.out; subst h; rfl, HS.out⟩
set_option maxHeartbeats 4000000 in
set_option maxRecDepth 100000 in
theorem implLateness_b (A : Option Addr) (n c : Nat) (x : Nat → EffectR) (r : Bool) (w : World) (h : EffectR.Ts w w.heap.size A n x) (hn : n ≤ 1048576) (hr : r = true ↔ chainOk x n) :
    Calls Try.prog 36 #[.slice A n c] w (PIB (if r then lateE x n else 0) r w) := by
  unfold PIB
  have HA := Lib.hid h; have HR := Lib.hid hr
  cases hrr : r
  · rw [hrr] at HR
    clear h hr hrr
    go_enter Try.func36, Try.ntmps36
    go_wp2_with (go_at_call 23; refine (implValidChain_b A n c x false _ HA.out hn HR.out).mono ?_; rintro e w2 ⟨rfl, hs⟩)
    go_ret2
    exact ⟨rfl, hs⟩
  · rw [hrr] at HR
    have HC := Lib.hid (HR.out.1 rfl)
    have h8 : n ≤ 8 := HC.out.2
    clear h hr hrr
    rw [if_pos rfl]
    go_enter Try.func36, Try.ntmps36
    go_wp2_with (go_at_call 23; refine (implValidChain_b A n c x true _ HA.out hn HR.out).mono ?_; rintro e w2 ⟨rfl, hs⟩)
    have HS0 := Lib.hid hs; clear hs
    go_loopw [4, 12] (fun sv i wr => ∃ (k : Nat) (s : Int), k ≤ n ∧ i = .int .i64 k ∧ sv = .int .i64 s ∧ Hid (s = lateE x k) ∧ 0 ≤ s ∧ s ≤ 32 * k ∧ w.Since w.heap.size wr) (fun _ i _ => n - (intOf i).toNat)
    case atStart => exact ⟨0, 0, Nat.zero_le _, rfl, rfl, Lib.hid rfl, by omega, by omega, HS0.out⟩
    case round =>
      obtain ⟨k, s, hk, rfl, rfl, HE, h0, h1, hs⟩ := hrel
      have HS := Lib.hid hs
      clear hs
      by_cases hlt : k < n
      · obtain ⟨g, off, rfl, hg, hc⟩ := HA.out.1.at_ hlt
        have hc0 := (HS.out.cell (a := ⟨g, off + k * 3 + 0, none⟩) (by show g < _; omega)).trans (hc 0 (by decide))
        have hc1 := (HS.out.cell (a := ⟨g, off + k * 3 + 1, none⟩) (by show g < _; omega)).trans (hc 1 (by decide))
        have hc2 := (HS.out.cell (a := ⟨g, off + k * 3 + 2, none⟩) (by show g < _; omega)).trans (hc 2 (by decide))
        simp only [EffectR.cells, List.getD_cons_zero, List.getD_cons_succ, Nat.add_zero] at hc0 hc1 hc2
        have hE := effB_facts (HC.out.1 k hlt)
        have hl0 := hE.1; have hl1 := hE.2.1
        have HT : Hid (lateE x (k + 1) = lateE x k + if (x k).k = 6 then (x k).l else 0) := Lib.hid rfl
        clear hc hE
        by_cases h6 : (x k).k = 6
        · rw [if_pos h6] at HT
          rw [h6] at hc0
          clear h6
          go_wp2
          go_roundw
          case rel => exact ⟨k + 1, s + (x k).l, by omega, by go_num, by go_num, Lib.hid (by rw [HT.out, HE.out]), by omega, by omega, HS.out.alloc HS.out.size _⟩
          case measure => simp [intOf]; omega
        · rw [if_neg h6] at HT
          go_wp2
          go_roundw
          case rel => exact ⟨k + 1, s, by omega, by go_num, rfl, Lib.hid (by rw [HT.out, HE.out, Int.add_zero]), by omega, by omega, HS.out.alloc HS.out.size _⟩
          case measure => simp [intOf]; omega
      · obtain rfl : k = n := by omega
        go_wp2
        go_ret2
        exact ⟨by have h := HE.out; subst h; rfl, HS.out⟩
end Go.Proofs.Ytbgjmmncjmcjfaa
