/- ValidTaps, of the model and of the program. -/
import Derived.Test.YtnhlnbnldpkmiaaMd
import Derived.StillTailTactics
set_option linter.unusedVariables false
set_option linter.unusedSimpArgs false
namespace Go.Proofs.Ytnhlnbnldpkmiaa
open Fl Go.RowKit
/-- the first k taps are in their limits -/
def tapsOk (x : Nat → TapR) (k : Nat) : Prop := ∀ j, j < k → 0 ≤ (x j).b ∧ (x j).b ≤ 64
theorem specIn_bt (l a b : Int) (bb : Bool) (w : World) (h : (decide (a ≤ l) && decide (l ≤ b)) = bb) : Calls Try.prog 78 #[.int .i64 l, .int .i64 a, .int .i64 b] w fun e w' => e = .returned (.bool bb) ∧ w = w' := by
  subst h
  cases h1 : decide (a ≤ l)
  · go_enter Try.func78, Try.ntmps78
    go_wp2
    go_ret
    exact ⟨rfl, rfl⟩
  · go_enter Try.func78, Try.ntmps78
    go_wp2
    go_ret
    exact ⟨rfl, rfl⟩
theorem tapClos_b (b : Int) (g : Nat) (bb : Bool) (w : World) (h : (decide (0 ≤ b) && decide (b ≤ 64)) = bb) : Calls Try.prog 66 #[.agg #[.int .i64 b, .float .f32 g]] w fun e w' => e = .returned (.bool bb) ∧ w.Since w.heap.size w' := by
  subst h
  cases h1 : decide (0 ≤ b)
  · go_enter Try.func66, Try.ntmps66
    go_wp2
    go_ret
    exact ⟨rfl, by (repeat (first | (with_reducible refine Fl.sinDrew ?_) | (with_reducible refine World.Since.drew ?_) | (with_reducible refine Fl.sinSet ?_ ?_; rotate_left) | (with_reducible refine Fl.sinAlloc ?_ ?_; rotate_left) | with_reducible exact World.Since.refl _ _ | with_reducible assumption | (with_reducible refine Fl.sinStep (by with_reducible assumption) ?_))); all_goals (first | omega | (simp; done) | (simp; omega) | (simp [go_sem]; done) | (simp [go_sem]; omega))⟩
  · go_enter Try.func66, Try.ntmps66
    go_wp2
    go_ret
    exact ⟨rfl, by (repeat (first | (with_reducible refine Fl.sinDrew ?_) | (with_reducible refine World.Since.drew ?_) | (with_reducible refine Fl.sinSet ?_ ?_; rotate_left) | (with_reducible refine Fl.sinAlloc ?_ ?_; rotate_left) | with_reducible exact World.Since.refl _ _ | with_reducible assumption | (with_reducible refine Fl.sinStep (by with_reducible assumption) ?_))); all_goals (first | omega | (simp; done) | (simp; omega) | (simp [go_sem]; done) | (simp [go_sem]; omega))⟩
set_option maxHeartbeats 2000000 in
set_option maxRecDepth 100000 in
theorem specTaps_b (A : Option Addr) (n c : Nat) (x : Nat → TapR) (r : Bool) (w : World) (B : Nat) (h : Rs TapR.cells 2 w B A n x) (hB : B ≤ w.heap.size) (hn : n ≤ 1048576) (hr : r = true ↔ tapsOk x n ∧ n ≤ 8) :
    Calls Try.prog 63 #[.slice A n c] w fun e w' => e = .returned (.bool r) ∧ w.Since w.heap.size w' := by
  have HA := Lib.hid h; have HR := Lib.hid hr
  clear h hr
  go_enter Try.func63, Try.ntmps63
  go_wp2
  go_loopw [6] (fun i wr => ∃ k : Nat, k ≤ n ∧ i = .int .i64 k ∧ tapsOk x k ∧ w.Since w.heap.size wr) (fun i _ => n - (intOf i).toNat)
  case atStart => exact ⟨0, Nat.zero_le _, rfl, (fun j hj => by omega), World.Since.refl _ _⟩
  case round =>
    obtain ⟨k, hk, rfl, hz, hs⟩ := hrel
    have HZ := Lib.hid hz; have HS := Lib.hid hs
    clear hz hs
    by_cases hlt : k < n
    · obtain ⟨g, off, rfl, hg, hc⟩ := HA.out.at_ hlt
      have hcell : wr.cell? ⟨g, off + k * 2 + 0, none⟩ = some (.int .i64 (x k).b) := (HS.out.cell (a := ⟨g, off + k * 2 + 0, none⟩) (by show g < _; omega)).trans (hc 0 (by decide))
      simp only [Nat.add_zero] at hcell
      clear hc
      cases ho : decide (0 ≤ (x k).b) && decide ((x k).b ≤ 64)
      · have h6 : r = false := by
          cases h6 : r
          · rfl
          · have h7 := (HR.out.1 h6).1 k hlt
            rw [decide_eq_true h7.1, decide_eq_true h7.2] at ho; cases ho
        subst h6
        go_wp2_with (first | (go_at_call 78; refine (specIn_bt _ 0 64 false _ ho).mono ?_; rintro e w2 ⟨rfl, rfl⟩))
        go_ret
        exact ⟨rfl, HS.out⟩
      · have HO := Lib.hid ho
        go_wp2_with (first | (go_at_call 78; refine (specIn_bt _ 0 64 true _ ho).mono ?_; rintro e w2 ⟨rfl, rfl⟩))
        go_roundw
        case rel =>
          refine ⟨k + 1, by omega, by go_num, fun j hj => ?_, HS.out⟩
          by_cases e : j = k
          · subst e
            have h8 := HO.out
            rw [Bool.and_eq_true] at h8
            exact ⟨of_decide_eq_true h8.1, of_decide_eq_true h8.2⟩
          · exact HZ.out j (by omega)
        case measure => simp [intOf]; omega
    · obtain rfl : k = n := by omega
      cases h3 : decide ((k : Int) ≤ 8)
      · have h5 : r = false := by
          cases h6 : r
          · rfl
          · exact absurd (HR.out.1 h6).2 (by have := of_decide_eq_false h3; omega)
        subst h5
        clear HR
        go_wp2
        go_ret
        exact ⟨rfl, HS.out⟩
      · have h5 := HR.out.2 ⟨HZ.out, by have := of_decide_eq_true h3; omega⟩
        subst h5
        clear HR
        go_wp2
        go_ret
        exact ⟨rfl, HS.out⟩
set_option maxHeartbeats 2000000 in
set_option maxRecDepth 100000 in
theorem allTaps_any (A : Option Addr) (n c : Nat) (x : Nat → TapR) (r : Bool) (w : World) (B : Nat) (h : Rs TapR.cells 2 w B A n x) (hB : B ≤ w.heap.size) (hn : n ≤ 1048576) (hr : r = true ↔ tapsOk x n) :
    Calls Try.prog 65 #[.slice A n c, .func (.func 66) #[] #[]] w fun e w' => e = .returned (.bool r) ∧ w.Since w.heap.size w' := by
  have HA := Lib.hid h; have HR := Lib.hid hr
  clear h hr
  go_enter Try.func65, Try.ntmps65
  go_wp2
  go_loopw [9] (fun i wr => ∃ k : Nat, k ≤ n ∧ i = .int .i64 k ∧ tapsOk x k ∧ w.Since w.heap.size wr) (fun i _ => n - (intOf i).toNat)
  case atStart => exact ⟨0, Nat.zero_le _, rfl, (fun j hj => by omega), World.Since.refl _ _⟩
  case round =>
    obtain ⟨k, hk, rfl, hz, hs⟩ := hrel
    have HZ := Lib.hid hz; have HS := Lib.hid hs
    clear hz hs
    by_cases hlt : k < n
    · obtain ⟨g, off, rfl, hg, hc⟩ := HA.out.at_ hlt
      have hc0 := (HS.out.cell (a := ⟨g, off + k * 2 + 0, none⟩) (by show g < _; omega)).trans (hc 0 (by decide))
      have hc1 := (HS.out.cell (a := ⟨g, off + k * 2 + 1, none⟩) (by show g < _; omega)).trans (hc 1 (by decide))
      simp only [TapR.cells, List.getD_cons_zero, List.getD_cons_succ, Nat.add_zero] at hc0 hc1
      clear hc
      cases ho : decide (0 ≤ (x k).b) && decide ((x k).b ≤ 64)
      · have h6 : r = false := by
          cases h6 : r
          · rfl
          · have h7 := HR.out.1 h6 k hlt
            rw [decide_eq_true h7.1, decide_eq_true h7.2] at ho; cases ho
        subst h6
        go_wp2_with fail
        refine (tapClos_b _ _ false _ ho).mono ?_; rintro e w2 ⟨rfl, hs2⟩
        have HS2 := Lib.hid (since_step (HS.out.alloc HS.out.size _) hs2); clear hs2
        go_wp2
        go_ret
        exact ⟨rfl, HS2.out⟩
      · have HO := Lib.hid ho
        go_wp2_with fail
        refine (tapClos_b _ _ true _ ho).mono ?_; rintro e w2 ⟨rfl, hs2⟩
        have HS2 := Lib.hid (since_step (HS.out.alloc HS.out.size _) hs2); clear hs2
        go_wp2
        go_roundw
        case rel =>
          refine ⟨k + 1, by omega, by go_num, fun j hj => ?_, HS2.out⟩
          by_cases e : j = k
          · subst e
            have h8 := HO.out
            rw [Bool.and_eq_true] at h8
            exact ⟨of_decide_eq_true h8.1, of_decide_eq_true h8.2⟩
          · exact HZ.out j (by omega)
        case measure => simp [intOf]; omega
    · obtain rfl : k = n := by omega
      have h5 := HR.out.2 HZ.out
      subst h5
      clear HR
      go_wp2
      go_ret
      exact ⟨rfl, HS.out⟩
theorem specValidTaps_b (A : Option Addr) (n c : Nat) (x : Nat → TapR) (r : Bool) (w : World) (h : Rs TapR.cells 2 w w.heap.size A n x) (hn : n ≤ 1048576) (hr : r = true ↔ tapsOk x n ∧ n ≤ 8) :
    Calls Try.prog 16 #[.slice A n c] w (PB r w) := by
  unfold PB
  have HA := Lib.hid h; have HR := Lib.hid hr
  clear h hr
  go_enter Try.func16, Try.ntmps16
  go_wp2_with (go_at_call 63; refine (specTaps_b A n c x r _ _ HA.out (Nat.le_refl _) hn HR.out).mono ?_; rintro e w2 ⟨rfl, hs⟩)
  go_ret
  exact ⟨rfl, hs⟩
theorem implValidTaps_b (A : Option Addr) (n c : Nat) (x : Nat → TapR) (r : Bool) (w : World) (h : Rs TapR.cells 2 w w.heap.size A n x) (hn : n ≤ 1048576) (hr : r = true ↔ tapsOk x n ∧ n ≤ 8) :
    Calls Try.prog 18 #[.slice A n c] w (PB r w) := by
  unfold PB
  have HA := Lib.hid h; have HR := Lib.hid hr
  clear h hr
  cases h3 : decide ((n : Int) ≤ 8)
  · have h5 : r = false := by
      cases h6 : r
      · rfl
      · exact absurd (HR.out.1 h6).2 (by have := of_decide_eq_false h3; omega)
    subst h5
    clear HR
    go_enter Try.func18, Try.ntmps18
    go_wp2
    go_ret
    exact ⟨rfl, by (repeat (first | (with_reducible refine Fl.sinDrew ?_) | (with_reducible refine World.Since.drew ?_) | (with_reducible refine Fl.sinSet ?_ ?_; rotate_left) | (with_reducible refine Fl.sinAlloc ?_ ?_; rotate_left) | with_reducible exact World.Since.refl _ _ | with_reducible assumption | (with_reducible refine Fl.sinStep (by with_reducible assumption) ?_))); all_goals (first | omega | (simp; done) | (simp; omega) | (simp [go_sem]; done) | (simp [go_sem]; omega))⟩
  · have h5 : Hid (r = true ↔ tapsOk x n) := Lib.hid (HR.out.trans ⟨fun h => h.1, fun h => ⟨h, by have := of_decide_eq_true h3; omega⟩⟩)
    clear HR
    go_enter Try.func18, Try.ntmps18
    go_wp2_with (go_at_call 65; refine (allTaps_any A n c x r _ _ HA.out (Nat.le_refl _) hn h5.out).mono ?_; rintro e w2 ⟨rfl, hs⟩)
    go_ret
    exact ⟨rfl, hs⟩
open Classical in
theorem lawValidTaps_any (A0 : Option Addr) (n0 c0 : Nat) (x0 : Nat → TapR) (w : World)
    (h0 : Rs TapR.cells 2 w w.heap.size A0 n0 x0) (hk0 : ∀ k, k < n0 → (x0 k).wf) (hb0 : n0 ≤ 9223372036854775807) :
    Calls Try.prog 3 #[.slice A0 n0 c0] w fun e w' => e = .returned (.bool true) ∧ w.Since w.heap.size w' := by
  by_cases h : 1048576 < n0
  · exact lawValidTaps_big A0 n0 c0 w h hb0
  · have hn : n0 ≤ 1048576 := by omega
    have hr : (decide (tapsOk x0 n0 ∧ n0 ≤ 8)) = true ↔ tapsOk x0 n0 ∧ n0 ≤ 8 := decide_eq_true_iff
    exact lawValidTaps_gen A0 n0 c0 x0 _ w h0 hn (fun k hk => (hk0 k hk).1) (fun v b h => specValidTaps_b _ _ _ _ _ _ h hn hr) (fun v b h => implValidTaps_b _ _ _ _ _ _ h hn hr)
end Go.Proofs.Ytnhlnbnldpkmiaa
