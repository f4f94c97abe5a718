/- Folds: the model's with its tests, and what is no fold. -/
import Derived.Test.YtdibobheggffnaaTc
set_option linter.unusedVariables false
set_option linter.unusedSimpArgs false
namespace Go.Proofs.Ytdibobheggffnaa
open Fl Go.RowKit
theorem PEE.toB {n0 n1 : Nat} {f0 f1 : Nat → O} {w w' : World} {e : Ending} (h : PEE n0 f0 n1 f1 w e w') : ∃ (p q : Ls) (c d : Nat), e = .returned (.tuple #[.slice p.A p.n c, .slice q.A q.n d]) ∧ Hid (PEEB n0 f0 n1 f1 true w (.returned (.tuple #[.slice p.A p.n c, .slice q.A q.n d, .bool true])) w') := by
  obtain ⟨p, q, c, d, h1, h2, h3, h4, h5, h6, h7, h8, h9⟩ := h
  exact ⟨p, q, c, d, h1, Lib.hid ⟨p, q, c, d, rfl, h2.out, h3.out, h4.out, h5.out, h6.out, h7.out, h8.out, h9.out⟩⟩
def okFold (t l n : Nat) : Bool := inB (t : Int) 1 32 && (!((l : Int) != (t : Int) - 1)) && decide ((n : Int) ≤ 256)
set_option maxHeartbeats 4000000 in
theorem specFoldT_ok (A : Option Addr) (t c l n c1 c2 : Nat) (a1 a2 : Addr) (ts ls xs : List Nat) (w : World) (hA : Fs w w.heap.size A t ts) (hA1 : Fs w w.heap.size (some a1) l ls) (hA2 : Fs w w.heap.size (some a2) n xs) (ht : t = l + 1) (ht2 : t ≤ 32) (hn : n ≤ 256) :
    Calls Try.prog 23 #[.slice A t c, .slice (some a1) l c1, .slice (some a2) n c2] w (PEEB n (foldF (fun k => ab .f32 (wd ts k)) (apO ls xs l) l t) l (offO (apO ls xs l) n) true w) := by
  have hl : l ≤ 31 := by omega
  have htb : inB (t : Int) 1 32 = true := by simp [inB]; omega
  have hfew : decide ((n : Int) ≤ 256) = true := decide_eq_true (by omega)
  have hl1 : ((l : Int) != (t : Int) - 1) = false := by simp; omega
  have HF := Lib.hid (specFold_any A t c l n c1 c2 (some a1) (some a2) (fun h => by cases h) (fun h => by cases h) ts ls xs w hA hA1 hA2 ht ht2 hn)
  clear hA hA1 hA2 ht
  go_enter Try.func23, Try.ntmps23
  go_wp2_with (first | (go_at_call 57; refine (specTaps_b _ _ _ _ _ htb).mono ?_; rintro e w' ⟨rfl, rfl⟩) | (go_at_call 49; refine (specFew_any _ _ _ _ _ hfew).mono ?_; rintro e w' ⟨rfl, rfl⟩) | (go_at_call 58; refine HF.out.mono ?_; intro e w1 hq; obtain ⟨p, q, cp, cq, rfl, hB⟩ := hq.toB; clear hq))
  go_ret3
  exact hB.out
set_option maxHeartbeats 4000000 in
theorem specFoldT_no (A A1 A2 : Option Addr) (t c l n c1 c2 : Nat) (f0 f1 : Nat → O) (w : World) (ht : t ≤ 1048576) (hl : l ≤ 1048576) (h : okFold t l n = false) :
    Calls Try.prog 23 #[.slice A t c, .slice A1 l c1, .slice A2 n c2] w (PEEB 0 f0 0 f1 false w) := by
  unfold okFold at h
  cases h1 : inB (t : Int) 1 32 <;> cases h2 : ((l : Int) != (t : Int) - 1) <;> cases h3 : decide ((n : Int) ≤ 256)
  all_goals try (rw [h1, h2, h3] at h; cases h; done)
  all_goals
    clear h
    go_enter Try.func23, Try.ntmps23
    go_wp2_with (first | (go_at_call 57; refine (specTaps_b _ _ _ _ _ h1).mono ?_; rintro e w' ⟨rfl, rfl⟩) | (go_at_call 49; refine (specFew_any _ _ _ _ _ h3).mono ?_; rintro e w' ⟨rfl, rfl⟩))
    go_ret3
    exact PEEB.none_ (by (repeat (first | (with_reducible refine Fl.sinDrew ?_) | (with_reducible refine World.Since.drew ?_) | (with_reducible refine Fl.sinSet ?_ ?_; rotate_left) | (with_reducible refine Fl.sinAlloc ?_ ?_; rotate_left) | with_reducible exact World.Since.refl _ _ | with_reducible assumption | (with_reducible refine Fl.sinStep (by with_reducible assumption) ?_))); all_goals (first | omega | (simp; done) | (simp; omega) | (simp [go_sem]; done) | (simp [go_sem]; omega))) _ _
set_option maxHeartbeats 4000000 in
theorem implFoldT_no (A A1 A2 : Option Addr) (t c l n c1 c2 : Nat) (f0 f1 : Nat → O) (w : World) (ht : t ≤ 1048576) (hl : l ≤ 1048576) (h : okFold t l n = false) :
    Calls Try.prog 24 #[.slice A t c, .slice A1 l c1, .slice A2 n c2] w (PEEB 0 f0 0 f1 false w) := by
  unfold okFold at h
  cases h1 : inB (t : Int) 1 32 <;> cases h2 : ((l : Int) != (t : Int) - 1) <;> cases h3 : decide ((n : Int) ≤ 256)
  all_goals try (rw [h1, h2, h3] at h; cases h; done)
  all_goals
    clear h
    go_enter Try.func24, Try.ntmps24
    go_wp2_with (first | (go_at_call 59; refine (implTaps_b _ _ _ _ _ h1).mono ?_; rintro e w' ⟨rfl, rfl⟩) | (go_at_call 56; refine (implSamples_b _ _ _ _ _ h3).mono ?_; rintro e w' ⟨rfl, rfl⟩))
    go_ret3
    exact PEEB.none_ (by (repeat (first | (with_reducible refine Fl.sinDrew ?_) | (with_reducible refine World.Since.drew ?_) | (with_reducible refine Fl.sinSet ?_ ?_; rotate_left) | (with_reducible refine Fl.sinAlloc ?_ ?_; rotate_left) | with_reducible exact World.Since.refl _ _ | with_reducible assumption | (with_reducible refine Fl.sinStep (by with_reducible assumption) ?_))); all_goals (first | omega | (simp; done) | (simp; omega) | (simp [go_sem]; done) | (simp [go_sem]; omega))) _ _
end Go.Proofs.Ytdibobheggffnaa
