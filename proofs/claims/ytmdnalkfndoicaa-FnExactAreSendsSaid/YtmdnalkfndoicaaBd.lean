/- AreSends of the program; its law. -/
import Derived.Test.YtmdnalkfndoicaaBc
set_option linter.unusedVariables false
set_option linter.unusedSimpArgs false
namespace Go.Proofs.Ytmdnalkfndoicaa
open Fl Go.RowKit
set_option maxHeartbeats 2000000 in
set_option maxRecDepth 100000 in
theorem allSends_any (m : Int) (gb : Nat) (A : Option Addr) (n c : Nat) (x : Nat → SendR) (r : Bool) (w : World) (B : Nat) (hm1 : 1 ≤ m) (hm2 : m ≤ 8) (hgb : gb < w.heap.size) (hgc : w.cell? ⟨gb, 0, none⟩ = some (.int .i64 m)) (h : Rs SendR.cells 3 w B A n x) (hB : B ≤ w.heap.size) (hn : n ≤ 1048576) (hr : r = true ↔ sendsIn m x n) :
    Calls Try.prog 79 #[.slice A n c, .func (.func 76) #[] #[.pointer (some ⟨gb, 0, none⟩)]] w fun e w' => e = .returned (.bool r) ∧ w.Since w.heap.size w' := by
  have HA := Lib.hid h; have HR := Lib.hid hr; have HGC := Lib.hid hgc
  clear h hr hgc
  go_enter Try.func79, Try.ntmps79
  go_wp2
  go_loopw [9] (fun i wr => ∃ k : Nat, k ≤ n ∧ i = .int .i64 k ∧ sendsIn m x k ∧ w.Since w.heap.size wr) (fun i _ => n - (intOf i).toNat)
  case atStart => exact ⟨0, Nat.zero_le _, rfl, (fun j hj => by omega), World.Since.refl _ _⟩
  case round =>
    obtain ⟨k, hk, rfl, hz, hs⟩ := hrel
    have HZ := Lib.hid hz; have HS := Lib.hid hs
    clear hz hs
    by_cases hlt : k < n
    · obtain ⟨g, off, rfl, hg, hc⟩ := HA.out.at_ hlt
      have hc0 := (HS.out.cell (a := ⟨g, off + k * 3 + 0, none⟩) (by show g < _; omega)).trans (hc 0 (by decide))
      have hc1 := (HS.out.cell (a := ⟨g, off + k * 3 + 1, none⟩) (by show g < _; omega)).trans (hc 1 (by decide))
      have hc2 := (HS.out.cell (a := ⟨g, off + k * 3 + 2, none⟩) (by show g < _; omega)).trans (hc 2 (by decide))
      simp only [SendR.cells, List.getD_cons_zero, List.getD_cons_succ, Nat.add_zero] at hc0 hc1 hc2
      clear hc
      have HQ := Lib.hid (fun (o : Obj) (b : Bool) (hb : sendB m (x k) = b) => sendClos_b m gb (x k) b (wr.alloc o) hm1 hm2 (Nat.lt_of_lt_of_le hgb (by have := HS.out.size; simp; omega)) (((HS.out.alloc HS.out.size o).cell (a := ⟨gb, 0, none⟩) hgb).trans HGC.out) hb)
      have HW := Lib.hid (fun (o : Obj) (w2 : World) (hs2 : (wr.alloc o).Since (wr.alloc o).heap.size w2) => since_step (HS.out.alloc HS.out.size o) hs2)
      cases ho : sendB m (x k)
      · have h6 : r = false := by
          cases h6 : r
          · rfl
          · have h7 := HR.out.1 h6 k hlt
            rw [ho] at h7; cases h7
        subst h6
        clear HR
        unfold SendR.val at HQ
        go_wp2_with fail
        refine (HQ.out _ false ho).mono ?_; rintro e w2 ⟨rfl, hs2⟩
        have HS2 := Lib.hid (HW.out _ _ hs2); clear hs2
        go_wp2
        go_ret
        exact ⟨rfl, HS2.out⟩
      · have HO := Lib.hid ho
        unfold SendR.val at HQ
        go_wp2_with fail
        refine (HQ.out _ true HO.out).mono ?_; rintro e w2 ⟨rfl, hs2⟩
        have HS2 := Lib.hid (HW.out _ _ hs2); clear hs2
        go_wp2
        go_roundw
        case rel =>
          refine ⟨k + 1, by omega, by go_num, fun j hj => ?_, HS2.out⟩
          by_cases e : j = k
          · subst e; exact HO.out
          · exact HZ.out j (by omega)
        case measure => simp [intOf]; omega
    · obtain rfl : k = n := by omega
      have h5 := HR.out.2 HZ.out
      subst h5
      clear HR
      go_wp2
      go_ret
      exact ⟨rfl, HS.out⟩
set_option maxHeartbeats 4000000 in
set_option maxRecDepth 100000 in
theorem implAreSends_b (m : Int) (A : Option Addr) (n c : Nat) (x : Nat → SendR) (r : Bool) (w : World) (B : Nat) (h : Rs SendR.cells 3 w B A n x) (hB : B ≤ w.heap.size) (hn : n ≤ 1048576) (hr : r = true ↔ sendsOk m x n) :
    Calls Try.prog 41 #[.int .i64 m, .slice A n c] w fun e w' => e = .returned (.bool r) ∧ w.Since w.heap.size w' := by
  have HA := Lib.hid h; have HR := Lib.hid hr
  clear h hr
  cases hm : inB m 1 8
  · have h5 : r = false := by
      cases h6 : r
      · rfl
      · have := (HR.out.1 h6).1
        rw [hm] at this; cases this
    subst h5
    clear HR
    go_enter Try.func41, Try.ntmps41
    go_wp2_with (go_at_call 78; refine (allowX_any _ _ _ _).mono ?_; rw [hm]; rintro e w1 ⟨rfl, rfl⟩)
    go_ret
    exact ⟨rfl, by (repeat (first | (with_reducible refine Fl.sinDrew ?_) | (with_reducible refine World.Since.drew ?_) | (with_reducible refine Fl.sinSet ?_ ?_; rotate_left) | (with_reducible refine Fl.sinAlloc ?_ ?_; rotate_left) | with_reducible exact World.Since.refl _ _ | with_reducible assumption | (with_reducible refine Fl.sinStep (by with_reducible assumption) ?_))); all_goals (first | omega | (simp; done) | (simp; omega) | (simp [go_sem]; done) | (simp [go_sem]; omega))⟩
  · have hm1 : 1 ≤ m ∧ m ≤ 8 := by simpa [inB] using hm
    obtain ⟨hm1, hm2⟩ := hm1
    cases h3 : decide ((n : Int) ≤ 20)
    · have h5 : r = false := by
        cases h6 : r
        · rfl
        · exact absurd (HR.out.1 h6).2.2 (by have := of_decide_eq_false h3; omega)
      subst h5
      clear HR
      go_enter Try.func41, Try.ntmps41
      go_wp2_with (go_at_call 78; refine (allowX_any _ _ _ _).mono ?_; rw [hm]; rintro e w1 ⟨rfl, rfl⟩)
      go_ret
      exact ⟨rfl, by (repeat (first | (with_reducible refine Fl.sinDrew ?_) | (with_reducible refine World.Since.drew ?_) | (with_reducible refine Fl.sinSet ?_ ?_; rotate_left) | (with_reducible refine Fl.sinAlloc ?_ ?_; rotate_left) | with_reducible exact World.Since.refl _ _ | with_reducible assumption | (with_reducible refine Fl.sinStep (by with_reducible assumption) ?_))); all_goals (first | omega | (simp; done) | (simp; omega) | (simp [go_sem]; done) | (simp [go_sem]; omega))⟩
    · have hr2 : Hid (r = true ↔ sendsIn m x n) := Lib.hid (HR.out.trans ⟨fun h => h.2.1, fun h => ⟨hm, h, by have := of_decide_eq_true h3; omega⟩⟩)
      clear HR
      obtain ⟨W, hW⟩ : ∃ W, W = (w.alloc (.cells #[.int .i64 m] 2)).alloc (lim 1 8) := ⟨_, rfl⟩
      have SW : Hid (w.Since w.heap.size W) := Lib.hid (by rw [hW]; exact ((World.Since.refl _ _).alloc (Nat.le_refl _) _).alloc (by simp) _)
      have CW : Hid (W.cell? ⟨w.heap.size, 0, none⟩ = some (.int .i64 m)) := Lib.hid (by rw [hW]; unfold lim; simp [go_sem])
      have zW : w.heap.size < W.heap.size := by rw [hW]; simp; omega
      unfold lim at hW
      go_enter Try.func41, Try.ntmps41
      go_wp2_with (go_at_call 78; refine (allowX_any _ _ _ _).mono ?_; rw [hm]; rintro e w1 ⟨rfl, rfl⟩)
      rw [← hW]
      refine (allSends_any m w.heap.size A n c x r W w.heap.size hm1 hm2 zW CW.out ((HA.out.more hB).since SW.out) (by omega) hn hr2.out).mono ?_
      rintro e w2 ⟨rfl, hs2⟩
      have HS2 := Lib.hid (since_step SW.out hs2); clear hs2
      go_wp2
      go_ret
      exact ⟨rfl, HS2.out⟩
theorem specAreSends_b (m : Int) (A : Option Addr) (n c : Nat) (x : Nat → SendR) (r : Bool) (w : World) (h : Rs SendR.cells 3 w w.heap.size A n x) (hn : n ≤ 1048576) (hr : r = true ↔ sendsOk m x n) :
    Calls Try.prog 39 #[.int .i64 m, .slice A n c] w (PB r w) := by
  unfold PB
  have HA := Lib.hid h; have HR := Lib.hid hr
  clear h hr
  go_enter Try.func39, Try.ntmps39
  go_wp2_with (go_at_call 74; refine (specSends_b m A n c x r _ _ HA.out (Nat.le_refl _) hn HR.out).mono ?_; rintro e w2 ⟨rfl, hs⟩)
  go_ret
  exact ⟨rfl, hs⟩
open Classical in
theorem lawAreSends_any (m : Int) (A0 : Option Addr) (n0 c0 : Nat) (x0 : Nat → SendR) (w : World) (hm : (Lit.int .i64 m).wf = true)
    (h0 : Rs SendR.cells 3 w w.heap.size A0 n0 x0) (hk0 : ∀ k, k < n0 → (x0 k).wf) (hb0 : n0 ≤ 9223372036854775807) :
    Calls Try.prog 10 #[.int .i64 m, .slice A0 n0 c0] w fun e w' => e = .returned (.bool true) ∧ w.Since w.heap.size w' := by
  by_cases h : 1048576 < n0
  · exact lawAreSends_big m A0 n0 c0 w h hb0
  · have hn : n0 ≤ 1048576 := by omega
    have hr : (decide (sendsOk m x0 n0)) = true ↔ sendsOk m x0 n0 := decide_eq_true_iff
    exact lawAreSends_gen m A0 n0 c0 x0 _ w h0 hn (fun k hk => (hk0 k hk).1) (fun v b h => specAreSends_b _ _ _ _ _ _ _ h hn hr) (fun v b h => implAreSends_b _ _ _ _ _ _ _ _ h (Nat.le_refl _) hn hr)
end Go.Proofs.Ytmdnalkfndoicaa
