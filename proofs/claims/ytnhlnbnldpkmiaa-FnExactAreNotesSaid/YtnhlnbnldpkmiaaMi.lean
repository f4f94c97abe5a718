/- AreNotes, of the model and of the program. -/
import Derived.Test.YtnhlnbnldpkmiaaMh
import Derived.Test.YtnhlnbnldpkmiaaVa
import Derived.StillTailTactics
set_option linter.unusedVariables false
set_option linter.unusedSimpArgs false
namespace Go.Proofs.Ytnhlnbnldpkmiaa
open Fl Go.RowKit
def noteB (x : NoteR) : Bool := okNote x.st x.h x.p
/-- note j is valid, and starts no earlier than that before it -/
def noteAt (x : Nat → NoteR) (j : Nat) : Prop := noteB (x j) = true ∧ (0 < j → (x (j - 1)).st ≤ (x j).st)
def notesOk (x : Nat → NoteR) (k : Nat) : Prop := ∀ j, j < k → noteAt x j
theorem cmpNaN_any (a : Int) (w : World) : Calls Try.prog 131 #[.int .i64 a] w fun e w' => e = .returned (.bool false) ∧ w = w' := by
  go_enter Try.func131, Try.ntmps131
  go_wp2
  go_ret
  exact ⟨by simp, rfl⟩
theorem cmpI_any (a b : Int) (w : World) : Calls Try.prog 86 #[.int .i64 a, .int .i64 b] w fun e w' => e = .returned (.int .i64 (if a < b then -1 else if b < a then 1 else 0)) ∧ w = w' := by
  cases h1 : decide (a < b)
  · have g1 := of_decide_eq_false h1
    rw [if_neg g1]
    cases h2 : decide (b < a)
    · rw [if_neg (of_decide_eq_false h2)]
      go_enter Try.func86, Try.ntmps86
      go_wp2_with (go_at_call 131; refine (cmpNaN_any _ _).mono ?_; rintro e w1 ⟨rfl, rfl⟩)
      go_ret
      exact ⟨rfl, rfl⟩
    · rw [if_pos (of_decide_eq_true h2)]
      go_enter Try.func86, Try.ntmps86
      go_wp2_with (go_at_call 131; refine (cmpNaN_any _ _).mono ?_; rintro e w1 ⟨rfl, rfl⟩)
      go_ret
      exact ⟨rfl, rfl⟩
  · rw [if_pos (of_decide_eq_true h1)]
    go_enter Try.func86, Try.ntmps86
    go_wp2_with (go_at_call 131; refine (cmpNaN_any _ _).mono ?_; rintro e w1 ⟨rfl, rfl⟩)
    go_ret
    exact ⟨rfl, rfl⟩
theorem byStart_any (x y : NoteR) (w : World) : Calls Try.prog 85 #[x.val, y.val] w fun e w' => e = .returned (.int .i64 (if x.st < y.st then -1 else if y.st < x.st then 1 else 0)) ∧ w.Since w.heap.size w' := by
  obtain ⟨a, b, c, d⟩ := x
  obtain ⟨a2, b2, c2, d2⟩ := y
  simp only [NoteR.val]
  have HC := Lib.hid (fun W => cmpI_any a a2 W)
  generalize (if a < a2 then (-1 : Int) else if a2 < a then 1 else 0) = z at HC ⊢
  go_enter Try.func85, Try.ntmps85
  go_wp2_with (go_at_call 86; refine (HC.out _).mono ?_; rintro e w1 ⟨rfl, rfl⟩)
  go_ret
  exact ⟨rfl, by (repeat (first | (with_reducible refine Fl.sinDrew ?_) | (with_reducible refine World.Since.drew ?_) | (with_reducible refine Fl.sinSet ?_ ?_; rotate_left) | (with_reducible refine Fl.sinAlloc ?_ ?_; rotate_left) | with_reducible exact World.Since.refl _ _ | with_reducible assumption | (with_reducible refine Fl.sinStep (by with_reducible assumption) ?_))); all_goals (first | omega | (simp; done) | (simp; omega) | (simp [go_sem]; done) | (simp [go_sem]; omega))⟩
/-- a note wherever its cells lie -/
theorem specNoteO_b (g o : Nat) (a d r : Int) (b : Bool) (w : World) (c0 : w.cell? ⟨g, o, none⟩ = some (.int .i64 a)) (c1 : w.cell? ⟨g, o + 1, none⟩ = some (.int .i64 d)) (c2 : w.cell? ⟨g, o + 2, none⟩ = some (.int .i64 r)) (h : okNote a d r = b) :
    Calls Try.prog 93 #[.pointer (some ⟨g, o, none⟩)] w fun e w' => e = .returned (.bool b) ∧ w = w' := by
  subst h
  simp only [okNote] at *
  cases h1 : inB a 0 1000 <;> cases h2 : inB d 0 1000 <;> cases h3 : inB r 0 127
  all_goals
    go_enter Try.func93, Try.ntmps93
    go_wp2_with (first | (go_at_call 78; with_reducible refine (specHold_b a 0 1000 _ _ h1).mono ?_; rintro e w1 ⟨rfl, rfl⟩) | (go_at_call 78; with_reducible refine (specHold_b d 0 1000 _ _ h2).mono ?_; rintro e w1 ⟨rfl, rfl⟩) | (go_at_call 78; with_reducible refine (specHold_b r 0 127 _ _ h3).mono ?_; rintro e w1 ⟨rfl, rfl⟩))
    go_ret
    exact ⟨rfl, rfl⟩
end Go.Proofs.Ytnhlnbnldpkmiaa
