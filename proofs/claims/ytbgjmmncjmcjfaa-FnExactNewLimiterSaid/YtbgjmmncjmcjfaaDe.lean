/- EmptyLine, ValidDelay: what both give. -/
import Derived.Test.YtbgjmmncjmcjfaaRz
import Derived.Test.YtbgjmmncjmcjfaaDm
set_option linter.unusedVariables false
set_option linter.unusedSimpArgs false
namespace Go.Proofs.Ytbgjmmncjmcjfaa
open Fl Go.RowKit
theorem small_zeros (n : Nat) : Small (List.replicate n 0) := fun x hx => by obtain ⟨_, rfl⟩ := List.mem_replicate.1 hx; omega
theorem wd_zeros (n k : Nat) : wd (List.replicate n 0) k = 0 := by unfold wd; simp [List.getD_eq_getElem?_getD, List.getElem?_replicate]; split <;> rfl
theorem fv_zeros (n k : Nat) : fv (List.replicate n 0) k = .float .f32 0 := by unfold fv; rw [wd_zeros]
theorem specEmpty_ok (n : Nat) (w : World) (h1 : 1 ≤ n) (h2 : n ≤ 64) : Calls Try.prog 63 #[.int .i64 n] w (PLB n (fun _ => ab .f32 0) true w) := by
  have hok : okLen (n : Int) = true := by unfold okLen; simp; omega
  have hmk := fun W => run_make_row' (P := Try.prog) 22 55 (.float .f32 0) 4 Try.underlying22 Try.infoF rfl .i64 .i64 n (by omega) (by omega) W
  go_enter Try.func63, Try.ntmps63
  go_wp2_with (go_at_call 109; refine (specLen_b _ _ _ hok).mono ?_; rintro e w' ⟨rfl, rfl⟩)
  go_ret2
  refine ⟨⟨some ⟨w.heap.size, 0, none⟩, n, List.replicate n 0⟩, n, rfl, rfl, ⟨by simp, small_zeros n, fun _ => ?_⟩, fun k hk => by rw [wd_zeros], by (repeat (first | (with_reducible refine Fl.sinDrew ?_) | (with_reducible refine World.Since.drew ?_) | (with_reducible refine Fl.sinSet ?_ ?_; rotate_left) | (with_reducible refine Fl.sinAlloc ?_ ?_; rotate_left) | with_reducible exact World.Since.refl _ _ | with_reducible assumption | (with_reducible refine Fl.sinStep (by with_reducible assumption) ?_))); all_goals (first | omega | (simp; done) | (simp; omega) | (simp [go_sem]; done) | (simp [go_sem]; omega))⟩
  obtain ⟨cs, hb, _, hc⟩ := World.rowIs_made w (.float .f32 0) n 55
  exact ⟨_, cs, rfl, Nat.le_refl _, hb, fun k hk => by rw [fv_zeros]; exact hc k hk⟩
theorem specEmpty_no (l : Int) (w : World) (h : okLen l = false) (f : Nat → Option Nat) : Calls Try.prog 63 #[.int .i64 l] w (PLB 0 f false w) := by
  go_enter Try.func63, Try.ntmps63
  go_wp2_with (go_at_call 109; refine (specLen_b _ _ _ h).mono ?_; rintro e w' ⟨rfl, rfl⟩)
  go_ret2
  exact PLB.none_ (by (repeat (first | (with_reducible refine Fl.sinDrew ?_) | (with_reducible refine World.Since.drew ?_) | (with_reducible refine Fl.sinSet ?_ ?_; rotate_left) | (with_reducible refine Fl.sinAlloc ?_ ?_; rotate_left) | with_reducible exact World.Since.refl _ _ | with_reducible assumption | (with_reducible refine Fl.sinStep (by with_reducible assumption) ?_))); all_goals (first | omega | (simp; done) | (simp; omega) | (simp [go_sem]; done) | (simp [go_sem]; omega))) _
theorem implEmpty_ok (n : Nat) (w : World) (h1 : 1 ≤ n) (h2 : n ≤ 64) : Calls Try.prog 64 #[.int .i64 n] w (PLB n (fun _ => ab .f32 0) true w) := by
  have hok : okLen (n : Int) = true := by unfold okLen; simp; omega
  have hmk := fun W => run_make_row' (P := Try.prog) 22 55 (.float .f32 0) 4 Try.underlying22 Try.infoF rfl .i64 .i64 n (by omega) (by omega) W
  go_enter Try.func64, Try.ntmps64
  go_wp2_with (go_at_call 110; refine (implLen_b _ _ _ hok).mono ?_; rintro e w' ⟨rfl, rfl⟩)
  go_ret2
  refine ⟨⟨some ⟨w.heap.size, 0, none⟩, n, List.replicate n 0⟩, n, rfl, rfl, ⟨by simp, small_zeros n, fun _ => ?_⟩, fun k hk => by rw [wd_zeros], by (repeat (first | (with_reducible refine Fl.sinDrew ?_) | (with_reducible refine World.Since.drew ?_) | (with_reducible refine Fl.sinSet ?_ ?_; rotate_left) | (with_reducible refine Fl.sinAlloc ?_ ?_; rotate_left) | with_reducible exact World.Since.refl _ _ | with_reducible assumption | (with_reducible refine Fl.sinStep (by with_reducible assumption) ?_))); all_goals (first | omega | (simp; done) | (simp; omega) | (simp [go_sem]; done) | (simp [go_sem]; omega))⟩
  obtain ⟨cs, hb, _, hc⟩ := World.rowIs_made w (.float .f32 0) n 55
  exact ⟨_, cs, rfl, Nat.le_refl _, hb, fun k hk => by rw [fv_zeros]; exact hc k hk⟩
theorem implEmpty_no (l : Int) (w : World) (h : okLen l = false) (f : Nat → Option Nat) : Calls Try.prog 64 #[.int .i64 l] w (PLB 0 f false w) := by
  go_enter Try.func64, Try.ntmps64
  go_wp2_with (go_at_call 110; refine (implLen_b _ _ _ h).mono ?_; rintro e w' ⟨rfl, rfl⟩)
  go_ret2
  exact PLB.none_ (by (repeat (first | (with_reducible refine Fl.sinDrew ?_) | (with_reducible refine World.Since.drew ?_) | (with_reducible refine Fl.sinSet ?_ ?_; rotate_left) | (with_reducible refine Fl.sinAlloc ?_ ?_; rotate_left) | with_reducible exact World.Since.refl _ _ | with_reducible assumption | (with_reducible refine Fl.sinStep (by with_reducible assumption) ?_))); all_goals (first | omega | (simp; done) | (simp; omega) | (simp [go_sem]; done) | (simp [go_sem]; omega))) _
end Go.Proofs.Ytbgjmmncjmcjfaa
