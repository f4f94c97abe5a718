/- Voices: kinds of waves, oscillators that are valid. -/
import Derived.Test.YtlodnikboekdpaaVb
set_option linter.unusedVariables false
set_option linter.unusedSimpArgs false
namespace Go.Proofs.Ytlodnikboekdpaa
open Fl Go.RowKit
def turnB (x : O) : Bool := geO x (some 0) && ltO x (some 1065353216)
theorem turnB_of {X : O} {b1 b2 b3 : Bool} (h1 : gtO X (some 0) = b1) (h2 : eqO X (some 0) = b2) (h3 : ltO X (some 1065353216) = b3) : turnB X = ((b1 || b2) && b3) := by unfold turnB geO; rw [h1, h2, h3]
theorem specTurn_b (x : Nat) (X : O) (b : Bool) (w : World) (hx : Hid (Fv .f32 x X)) (h : turnB X = b) : Calls Try.prog 59 #[.float .f32 x] w fun e w' => e = .returned (.bool b) ∧ w = w' := by
  subst h
  have g1 := gt_fv hx fv0
  have g2 := eq_fv hx fv0
  have g3 := lt_fv hx fv1
  cases e1 : gtO X (some 0) <;> cases e2 : eqO X (some 0) <;> cases e3 : ltO X (some 1065353216)
  all_goals
    rw [turnB_of e1 e2 e3]
    rw [e1] at g1; rw [e2] at g2; rw [e3] at g3
    go_enter Try.func59, Try.ntmps59
    go_wp2
    go_ret
    exact ⟨rfl, rfl⟩
theorem implPhase_b (x : Nat) (X : O) (b : Bool) (w : World) (hx : Hid (Fv .f32 x X)) (h : turnB X = b) : Calls Try.prog 57 #[.float .f32 x] w fun e w' => e = .returned (.bool b) ∧ w = w' := by
  subst h
  have g1 := gt_fv hx fv0
  have g2 := eq_fv hx fv0
  have g3 := lt_fv hx fv1
  cases e1 : gtO X (some 0) <;> cases e2 : eqO X (some 0) <;> cases e3 : ltO X (some 1065353216)
  all_goals
    rw [turnB_of e1 e2 e3]
    rw [e1] at g1; rw [e2] at g2; rw [e3] at g3
    go_enter Try.func57, Try.ntmps57
    go_wp2
    go_ret
    exact ⟨rfl, rfl⟩
theorem specKind_b (k : Int) (b : Bool) (w : World) (h : inB k 0 3 = b) : Calls Try.prog 58 #[.int .i64 k] w fun e w' => e = .returned (.bool b) ∧ w = w' := by
  go_enter Try.func58, Try.ntmps58
  go_wp2_with (go_at_call 65; with_reducible refine (specHold_b k 0 3 _ _ h).mono ?_; rintro e w' ⟨rfl, rfl⟩)
  go_ret
  exact ⟨rfl, rfl⟩
/-- a wave as an interface's value -/
def wavV (k : Int) : Value := if k = 0 then .iface 126 (.agg #[]) else if k = 1 then .iface 127 (.agg #[]) else if k = 2 then .iface 128 (.agg #[]) else .iface 129 (.agg #[])
theorem waveOf_ok (k : Int) (w : World) (h : inB k 0 3 = true) : Calls Try.prog 56 #[.int .i64 k] w fun e w' => e = .returned (.tuple #[wavV k, .bool true]) ∧ w = w' := by
  simp only [inB, Bool.and_eq_true, decide_eq_true_eq] at h
  have h4 : k = 0 ∨ k = 1 ∨ k = 2 ∨ k = 3 := by omega
  clear h
  rcases h4 with rfl | rfl | rfl | rfl
  all_goals
    go_enter Try.func56, Try.ntmps56
    go_wp2
    go_ret2
    exact ⟨rfl, rfl⟩
theorem waveOf_no (k : Int) (w : World) (h : inB k 0 3 = false) : Calls Try.prog 56 #[.int .i64 k] w fun e w' => e = .returned (.tuple #[.nilIface, .bool false]) ∧ w = w' := by
  have h0 : ¬ k = 0 := by rintro rfl; simp [inB] at h
  have h1 : ¬ k = 1 := by rintro rfl; simp [inB] at h
  have h2 : ¬ k = 2 := by rintro rfl; simp [inB] at h
  have h3 : ¬ k = 3 := by rintro rfl; simp [inB] at h
  clear h
  go_enter Try.func56, Try.ntmps56
  go_wp2
  go_ret2
  exact ⟨rfl, rfl⟩
structure OscAt (w : World) (g : Nat) (e : OscN) : Prop where
  lt : g < w.heap.size
  k : w.cell? ⟨g, 0, none⟩ = some (.int .i64 e.k)
  st : w.cell? ⟨g, 1, none⟩ = some (.float .f32 e.st)
  ph : w.cell? ⟨g, 2, none⟩ = some (.float .f32 e.ph)
def oscB (e : OscN) : Obj := .cells #[.int .i64 e.k, .float .f32 e.st, .float .f32 e.ph] 26
theorem OscAt.new (w : World) (e : OscN) : OscAt (w.alloc (oscB e)) w.heap.size e := by unfold oscB; exact ⟨by simp, by simp [go_sem], by simp [go_sem], by simp [go_sem]⟩
theorem OscAt.since {w w' : World} {g B : Nat} {e : OscN} (h : OscAt w g e) (s : w.Since B w') (hg : g < B) : OscAt w' g e :=
  ⟨Nat.lt_of_lt_of_le h.lt s.size, (s.cell (a := ⟨g, 0, none⟩) hg).trans h.k, (s.cell (a := ⟨g, 1, none⟩) hg).trans h.st, (s.cell (a := ⟨g, 2, none⟩) hg).trans h.ph⟩
def okOsc (k : Int) (s p : O) : Bool := inB k 0 3 && turnB s && turnB p
theorem specIs_b (g : Nat) (e : OscN) (S P : O) (b : Bool) (w : World) (hA : OscAt w g e) (hs : Hid (Fv .f32 e.st S)) (hp : Hid (Fv .f32 e.ph P)) (h : okOsc e.k S P = b) :
    Calls Try.prog 55 #[.pointer (some ⟨g, 0, none⟩)] w fun e w' => e = .returned (.bool b) ∧ w = w' := by
  subst h
  obtain ⟨k, s, p⟩ := e
  obtain ⟨_, c0, c1, c2⟩ := hA
  simp only [okOsc] at *
  cases h1 : inB k 0 3 <;> cases h2 : turnB S <;> cases h3 : turnB P
  all_goals
    go_enter Try.func55, Try.ntmps55
    go_wp2_with (first | (go_at_call 58; with_reducible refine (specKind_b k _ _ h1).mono ?_; rintro e w1 ⟨rfl, rfl⟩) | (go_at_call 59; with_reducible refine (specTurn_b s S _ _ hs h2).mono ?_; rintro e w1 ⟨rfl, rfl⟩) | (go_at_call 59; with_reducible refine (specTurn_b p P _ _ hp h3).mono ?_; rintro e w1 ⟨rfl, rfl⟩))
    go_ret
    exact ⟨rfl, rfl⟩
theorem specValidOsc_b (e : OscN) (S P : O) (b : Bool) (w : World) (hs : Hid (Fv .f32 e.st S)) (hp : Hid (Fv .f32 e.ph P)) (h : okOsc e.k S P = b) : Calls Try.prog 15 #[e.val] w (PB b w) := by
  have HA := Lib.hid (specIs_b w.heap.size e S P b _ (OscAt.new w e) hs hp h)
  obtain ⟨k, s, p⟩ := e
  simp only [OscN.val, oscB] at *
  go_enter Try.func15, Try.ntmps15
  go_wp2_with (go_at_call 55; refine HA.out.mono ?_; rintro e w1 ⟨rfl, rfl⟩)
  go_ret
  exact ⟨rfl, by (repeat (first | (with_reducible refine Fl.sinDrew ?_) | (with_reducible refine World.Since.drew ?_) | (with_reducible refine Fl.sinSet ?_ ?_; rotate_left) | (with_reducible refine Fl.sinAlloc ?_ ?_; rotate_left) | with_reducible exact World.Since.refl _ _ | with_reducible assumption | (with_reducible refine Fl.sinStep (by with_reducible assumption) ?_))); all_goals (first | omega | (simp; done) | (simp; omega) | (simp [go_sem]; done) | (simp [go_sem]; omega))⟩
theorem implValidOsc_b (e : OscN) (S P : O) (b : Bool) (w : World) (hs : Hid (Fv .f32 e.st S)) (hp : Hid (Fv .f32 e.ph P)) (h : okOsc e.k S P = b) : Calls Try.prog 17 #[e.val] w (PB b w) := by
  subst h
  obtain ⟨k, s, p⟩ := e
  simp only [OscN.val, okOsc] at *
  cases h1 : inB k 0 3
  · go_enter Try.func17, Try.ntmps17
    go_wp2_with (first | (go_at_call 56; with_reducible refine (waveOf_no k _ h1).mono ?_; rintro e w1 ⟨rfl, rfl⟩))
    go_ret
    exact ⟨rfl, by (repeat (first | (with_reducible refine Fl.sinDrew ?_) | (with_reducible refine World.Since.drew ?_) | (with_reducible refine Fl.sinSet ?_ ?_; rotate_left) | (with_reducible refine Fl.sinAlloc ?_ ?_; rotate_left) | with_reducible exact World.Since.refl _ _ | with_reducible assumption | (with_reducible refine Fl.sinStep (by with_reducible assumption) ?_))); all_goals (first | omega | (simp; done) | (simp; omega) | (simp [go_sem]; done) | (simp [go_sem]; omega))⟩
  · have hw := fun w => waveOf_ok k w h1
    generalize wavV k = V at hw
    cases h2 : turnB S <;> cases h3 : turnB P
    all_goals
      go_enter Try.func17, Try.ntmps17
      go_wp2_with (first | (go_at_call 56; refine (hw _).mono ?_; rintro e w1 ⟨rfl, rfl⟩) | (go_at_call 57; with_reducible refine (implPhase_b s S _ _ hs h2).mono ?_; rintro e w1 ⟨rfl, rfl⟩) | (go_at_call 57; with_reducible refine (implPhase_b p P _ _ hp h3).mono ?_; rintro e w1 ⟨rfl, rfl⟩))
      go_ret
      exact ⟨rfl, by (repeat (first | (with_reducible refine Fl.sinDrew ?_) | (with_reducible refine World.Since.drew ?_) | (with_reducible refine Fl.sinSet ?_ ?_; rotate_left) | (with_reducible refine Fl.sinAlloc ?_ ?_; rotate_left) | with_reducible exact World.Since.refl _ _ | with_reducible assumption | (with_reducible refine Fl.sinStep (by with_reducible assumption) ?_))); all_goals (first | omega | (simp; done) | (simp; omega) | (simp [go_sem]; done) | (simp [go_sem]; omega))⟩
end Go.Proofs.Ytlodnikboekdpaa
