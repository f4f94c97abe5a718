/- Voices: PlayLoop where it fails. -/
import Derived.Test.YtlodnikboekdpaaVm
set_option linter.unusedVariables false
set_option linter.unusedSimpArgs false
namespace Go.Proofs.Ytlodnikboekdpaa
open Fl Go.RowKit
theorem specLoop_no (A : Option Addr) (n cc : Nat) (fi be f s c : Int) (w : World) (h : okLoop n fi be f s c = false) (hbw : (Lit.int .i64 be).wf = true) (F : Nat → O) : Calls Try.prog 53 #[.slice A n cc, .int .i64 fi, .int .i64 be, .int .i64 f, .int .i64 s, .int .i64 c] w (PLIB 0 F 0 false w) := by
  unfold okLoop at h
  cases h0 : okPlay n f s c
  · clear h
    go_enter Try.func53, Try.ntmps53
    go_wp2_with (first | (go_at_call 89; refine (specPlay_b _ _ _ _ _ _ _ _ h0).mono ?_; rintro e w' ⟨rfl, rfl⟩))
    go_ret3
    exact PLIB.none_ (by (repeat (first | (with_reducible refine Fl.sinDrew ?_) | (with_reducible refine World.Since.drew ?_) | (with_reducible refine Fl.sinSet ?_ ?_; rotate_left) | (with_reducible refine Fl.sinAlloc ?_ ?_; rotate_left) | with_reducible exact World.Since.refl _ _ | with_reducible assumption | (with_reducible refine Fl.sinStep (by with_reducible assumption) ?_))); all_goals (first | omega | (simp; done) | (simp; omega) | (simp [go_sem]; done) | (simp [go_sem]; omega))) _
  · cases h1 : inB be 1 n
    · clear h
      go_enter Try.func53, Try.ntmps53
      go_wp2_with (first | (go_at_call 89; refine (specPlay_b _ _ _ _ _ _ _ _ h0).mono ?_; rintro e w' ⟨rfl, rfl⟩) | (go_at_call 65; with_reducible refine (specHold_b be 1 (n : Int) _ _ h1).mono ?_; rintro e w' ⟨rfl, rfl⟩))
      go_ret3
      exact PLIB.none_ (by (repeat (first | (with_reducible refine Fl.sinDrew ?_) | (with_reducible refine World.Since.drew ?_) | (with_reducible refine Fl.sinSet ?_ ?_; rotate_left) | (with_reducible refine Fl.sinAlloc ?_ ?_; rotate_left) | with_reducible exact World.Since.refl _ _ | with_reducible assumption | (with_reducible refine Fl.sinStep (by with_reducible assumption) ?_))); all_goals (first | omega | (simp; done) | (simp; omega) | (simp [go_sem]; done) | (simp [go_sem]; omega))) _
    · have h2 : inB fi 0 (be - 1) = false := by rw [h0, h1] at h; simpa using h
      have hb1 := h1
      have hb0 := h0
      simp only [okPlay, inB, Bool.and_eq_true, decide_eq_true_eq] at hb1 hb0
      clear h
      go_enter Try.func53, Try.ntmps53
      go_wp2_with (first | (go_at_call 89; refine (specPlay_b _ _ _ _ _ _ _ _ h0).mono ?_; rintro e w' ⟨rfl, rfl⟩) | (go_at_call 65; with_reducible refine (specHold_b be 1 (n : Int) _ _ h1).mono ?_; rintro e w' ⟨rfl, rfl⟩) | (go_at_call 65; with_reducible refine (specHold_b fi 0 (be - 1) _ _ h2).mono ?_; rintro e w' ⟨rfl, rfl⟩))
      go_ret3
      exact PLIB.none_ (by (repeat (first | (with_reducible refine Fl.sinDrew ?_) | (with_reducible refine World.Since.drew ?_) | (with_reducible refine Fl.sinSet ?_ ?_; rotate_left) | (with_reducible refine Fl.sinAlloc ?_ ?_; rotate_left) | with_reducible exact World.Since.refl _ _ | with_reducible assumption | (with_reducible refine Fl.sinStep (by with_reducible assumption) ?_))); all_goals (first | omega | (simp; done) | (simp; omega) | (simp [go_sem]; done) | (simp [go_sem]; omega))) _
set_option maxHeartbeats 4000000 in
theorem implLoop_no (A : Option Addr) (n cc : Nat) (fi be f s c : Int) (w : World) (h : okLoop n fi be f s c = false) (F : Nat → O) : Calls Try.prog 54 #[.slice A n cc, .int .i64 fi, .int .i64 be, .int .i64 f, .int .i64 s, .int .i64 c] w (PLIB 0 F 0 false w) := by
  by_cases h1 : 0 ≤ fi
  · by_cases h2 : fi < be
    · by_cases h3 : be ≤ (n : Int)
      · have h0 : okPlay n f s c = false := by
          unfold okLoop at h
          rw [show inB be 1 n = true by simp [inB]; omega, show inB fi 0 (be - 1) = true by simp [inB]; omega] at h
          simpa using h
        clear h
        go_enter Try.func54, Try.ntmps54
        go_wp2_with (first | (go_at_call 92; refine (isPlay_b _ _ _ _ _ _ _ _ h0).mono ?_; rintro e w1 ⟨rfl, hs1⟩; have HS1 := Lib.hid hs1; clear hs1))
        go_ret3
        exact PLIB.none_ (World.Since.trans ((((World.Since.refl w.heap.size w).alloc (Nat.le_refl _) _).alloc (by simp) _).alloc (by simp; omega) _) (since_mono HS1.out (by simp; omega))) _
      · clear h
        go_enter Try.func54, Try.ntmps54
        go_wp2
        go_ret3
        exact PLIB.none_ (by (repeat (first | (with_reducible refine Fl.sinDrew ?_) | (with_reducible refine World.Since.drew ?_) | (with_reducible refine Fl.sinSet ?_ ?_; rotate_left) | (with_reducible refine Fl.sinAlloc ?_ ?_; rotate_left) | with_reducible exact World.Since.refl _ _ | with_reducible assumption | (with_reducible refine Fl.sinStep (by with_reducible assumption) ?_))); all_goals (first | omega | (simp; done) | (simp; omega) | (simp [go_sem]; done) | (simp [go_sem]; omega))) _
    · clear h
      go_enter Try.func54, Try.ntmps54
      go_wp2
      go_ret3
      exact PLIB.none_ (by (repeat (first | (with_reducible refine Fl.sinDrew ?_) | (with_reducible refine World.Since.drew ?_) | (with_reducible refine Fl.sinSet ?_ ?_; rotate_left) | (with_reducible refine Fl.sinAlloc ?_ ?_; rotate_left) | with_reducible exact World.Since.refl _ _ | with_reducible assumption | (with_reducible refine Fl.sinStep (by with_reducible assumption) ?_))); all_goals (first | omega | (simp; done) | (simp; omega) | (simp [go_sem]; done) | (simp [go_sem]; omega))) _
  · clear h
    go_enter Try.func54, Try.ntmps54
    go_wp2
    go_ret3
    exact PLIB.none_ (by (repeat (first | (with_reducible refine Fl.sinDrew ?_) | (with_reducible refine World.Since.drew ?_) | (with_reducible refine Fl.sinSet ?_ ?_; rotate_left) | (with_reducible refine Fl.sinAlloc ?_ ?_; rotate_left) | with_reducible exact World.Since.refl _ _ | with_reducible assumption | (with_reducible refine Fl.sinStep (by with_reducible assumption) ?_))); all_goals (first | omega | (simp; done) | (simp; omega) | (simp [go_sem]; done) | (simp [go_sem]; omega))) _
end Go.Proofs.Ytlodnikboekdpaa
