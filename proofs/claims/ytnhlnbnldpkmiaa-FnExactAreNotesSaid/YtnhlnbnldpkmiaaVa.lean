/- Voices: envelopes and notes by value: valid ones, and their ends. -/
import Derived.Test.YtnhlnbnldpkmiaaEh
import Derived.Test.YtnhlnbnldpkmiaaRz
set_option linter.unusedVariables false
set_option linter.unusedSimpArgs false
namespace Go.Proofs.Ytnhlnbnldpkmiaa
open Fl Go.RowKit
/-- words of an envelope, of a note, of an oscillator -/
structure EnvN where
  a : Int
  d : Int
  s : Nat
  r : Int
structure NotN where
  st : Int
  h : Int
  p : Int
  g : Nat
structure OscN where
  k : Int
  st : Nat
  ph : Nat
def EnvN.val (e : EnvN) : Value := .agg #[.int .i64 e.a, .int .i64 e.d, .float .f32 e.s, .int .i64 e.r]
def NotN.val (e : NotN) : Value := .agg #[.int .i64 e.st, .int .i64 e.h, .int .i64 e.p, .float .f32 e.g]
def OscN.val (e : OscN) : Value := .agg #[.int .i64 e.k, .float .f32 e.st, .float .f32 e.ph]
set_option maxRecDepth 100000 in
theorem toEnvelope_any (d : EnvN) (w : World) :
    Calls Try.prog 38 #[d.val] w fun e w' => e = .returned d.val ∧ w.Since w.heap.size w' := by
  obtain ⟨a, b, s, r⟩ := d
  unfold EnvN.val
  go_enter Try.func38, Try.ntmps38
  go_wp2
  exact bodyPost_ret (v := .agg #[.int .i64 a, .int .i64 b, .float .f32 s, .int .i64 r]) (by simp [results, Try.results38, go_sem]) rfl ⟨rfl, by (repeat (first | (with_reducible refine Fl.sinDrew ?_) | (with_reducible refine World.Since.drew ?_) | (with_reducible refine Fl.sinSet ?_ ?_; rotate_left) | (with_reducible refine Fl.sinAlloc ?_ ?_; rotate_left) | with_reducible exact World.Since.refl _ _ | with_reducible assumption | (with_reducible refine Fl.sinStep (by with_reducible assumption) ?_))); all_goals (first | omega | (simp; done) | (simp; omega) | (simp [go_sem]; done) | (simp [go_sem]; omega))⟩
set_option maxRecDepth 100000 in
theorem toNote_any (d : NotN) (w : World) :
    Calls Try.prog 39 #[d.val] w fun e w' => e = .returned d.val ∧ w.Since w.heap.size w' := by
  obtain ⟨a, b, s, r⟩ := d
  unfold NotN.val
  go_enter Try.func39, Try.ntmps39
  go_wp2
  exact bodyPost_ret (v := .agg #[.int .i64 a, .int .i64 b, .int .i64 s, .float .f32 r]) (by simp [results, Try.results39, go_sem]) rfl ⟨rfl, by (repeat (first | (with_reducible refine Fl.sinDrew ?_) | (with_reducible refine World.Since.drew ?_) | (with_reducible refine Fl.sinSet ?_ ?_; rotate_left) | (with_reducible refine Fl.sinAlloc ?_ ?_; rotate_left) | with_reducible exact World.Since.refl _ _ | with_reducible assumption | (with_reducible refine Fl.sinStep (by with_reducible assumption) ?_))); all_goals (first | omega | (simp; done) | (simp; omega) | (simp [go_sem]; done) | (simp [go_sem]; omega))⟩
set_option maxRecDepth 100000 in
theorem toOscillator_any (d : OscN) (w : World) :
    Calls Try.prog 42 #[d.val] w fun e w' => e = .returned d.val ∧ w.Since w.heap.size w' := by
  obtain ⟨a, b, r⟩ := d
  unfold OscN.val
  go_enter Try.func42, Try.ntmps42
  go_wp2
  exact bodyPost_ret (v := .agg #[.int .i64 a, .float .f32 b, .float .f32 r]) (by simp [results, Try.results42, go_sem]) rfl ⟨rfl, by (repeat (first | (with_reducible refine Fl.sinDrew ?_) | (with_reducible refine World.Since.drew ?_) | (with_reducible refine Fl.sinSet ?_ ?_; rotate_left) | (with_reducible refine Fl.sinAlloc ?_ ?_; rotate_left) | with_reducible exact World.Since.refl _ _ | with_reducible assumption | (with_reducible refine Fl.sinStep (by with_reducible assumption) ?_))); all_goals (first | omega | (simp; done) | (simp; omega) | (simp [go_sem]; done) | (simp [go_sem]; omega))⟩
def okEnv (a d r : Int) : Bool := inB a 0 1000 && inB d 0 1000 && inB r 0 1000
def okNote (s h p : Int) : Bool := inB s 0 1000 && inB h 0 1000 && inB p 0 127
theorem allowX_any (a b x : Int) (w : World) :
    Calls Try.prog 142 #[.agg #[.int .i64 a, .int .i64 b], .int .i64 x] w fun e w' => e = .returned (.bool (inB x a b)) ∧ w.alloc (.cells #[.int .i64 a, .int .i64 b] 202) = w' := by
  by_cases h : a ≤ x
  all_goals
    go_enter Try.func142, Try.ntmps142
    go_wp2
    go_ret
    exact ⟨ret_bool (by simp [inB]; omega), rfl⟩
def lim (a b : Int) : Obj := .cells #[.int .i64 a, .int .i64 b] 202
theorem isHeld_b (x : Int) (b : Bool) (w : World) (h : inB x 0 1000 = b) : Calls Try.prog 132 #[.int .i64 x] w fun e w' => e = .returned (.bool b) ∧ w.alloc (lim 0 1000) = w' := by
  subst h
  unfold lim
  go_enter Try.func132, Try.ntmps132
  go_wp2_with (go_at_call 142; refine (allowX_any _ _ _ _).mono ?_; rintro e w1 ⟨rfl, rfl⟩)
  go_ret
  exact ⟨rfl, rfl⟩
theorem isPitch_b (x : Int) (b : Bool) (w : World) (h : inB x 0 127 = b) : Calls Try.prog 133 #[.int .i64 x] w fun e w' => e = .returned (.bool b) ∧ w.alloc (lim 0 127) = w' := by
  subst h
  unfold lim
  go_enter Try.func133, Try.ntmps133
  go_wp2_with (go_at_call 142; refine (allowX_any _ _ _ _).mono ?_; rintro e w1 ⟨rfl, rfl⟩)
  go_ret
  exact ⟨rfl, rfl⟩
theorem isCount_b (x : Int) (b : Bool) (w : World) (h : inB x 0 256 = b) : Calls Try.prog 104 #[.int .i64 x] w fun e w' => e = .returned (.bool b) ∧ w.alloc (lim 0 256) = w' := by
  subst h
  unfold lim
  go_enter Try.func104, Try.ntmps104
  go_wp2_with (go_at_call 142; refine (allowX_any _ _ _ _).mono ?_; rintro e w1 ⟨rfl, rfl⟩)
  go_ret
  exact ⟨rfl, rfl⟩
set_option maxHeartbeats 2000000 in
theorem implEnv_b (e : EnvN) (b : Bool) (w : World) (h : okEnv e.a e.d e.r = b) : Calls Try.prog 137 #[e.val] w (PB b w) := by
  subst h
  obtain ⟨a, d, s, r⟩ := e
  simp only [EnvN.val, okEnv]
  cases h1 : inB a 0 1000 <;> cases h2 : inB d 0 1000 <;> cases h3 : inB r 0 1000
  all_goals
    go_enter Try.func137, Try.ntmps137
    go_wp2_with (first | (go_at_call 132; with_reducible refine (isHeld_b a _ _ h1).mono ?_; rintro e w1 ⟨rfl, rfl⟩) | (go_at_call 132; with_reducible refine (isHeld_b d _ _ h2).mono ?_; rintro e w1 ⟨rfl, rfl⟩) | (go_at_call 132; with_reducible refine (isHeld_b r _ _ h3).mono ?_; rintro e w1 ⟨rfl, rfl⟩))
    go_ret
    exact ⟨rfl, by (repeat (first | (with_reducible refine Fl.sinDrew ?_) | (with_reducible refine World.Since.drew ?_) | (with_reducible refine Fl.sinSet ?_ ?_; rotate_left) | (with_reducible refine Fl.sinAlloc ?_ ?_; rotate_left) | with_reducible exact World.Since.refl _ _ | with_reducible assumption | (with_reducible refine Fl.sinStep (by with_reducible assumption) ?_))); all_goals (first | omega | (simp; done) | (simp; omega) | (simp [go_sem]; done) | (simp [go_sem]; omega))⟩
set_option maxHeartbeats 2000000 in
theorem implNote_b (e : NotN) (b : Bool) (w : World) (h : okNote e.st e.h e.p = b) : Calls Try.prog 88 #[e.val] w (PB b w) := by
  subst h
  obtain ⟨a, d, r, s⟩ := e
  simp only [NotN.val, okNote]
  cases h1 : inB a 0 1000 <;> cases h2 : inB d 0 1000 <;> cases h3 : inB r 0 127
  all_goals
    go_enter Try.func88, Try.ntmps88
    go_wp2_with (first | (go_at_call 132; with_reducible refine (isHeld_b a _ _ h1).mono ?_; rintro e w1 ⟨rfl, rfl⟩) | (go_at_call 132; with_reducible refine (isHeld_b d _ _ h2).mono ?_; rintro e w1 ⟨rfl, rfl⟩) | (go_at_call 133; with_reducible refine (isPitch_b r _ _ h3).mono ?_; rintro e w1 ⟨rfl, rfl⟩))
    go_ret
    exact ⟨rfl, by (repeat (first | (with_reducible refine Fl.sinDrew ?_) | (with_reducible refine World.Since.drew ?_) | (with_reducible refine Fl.sinSet ?_ ?_; rotate_left) | (with_reducible refine Fl.sinAlloc ?_ ?_; rotate_left) | with_reducible exact World.Since.refl _ _ | with_reducible assumption | (with_reducible refine Fl.sinStep (by with_reducible assumption) ?_))); all_goals (first | omega | (simp; done) | (simp; omega) | (simp [go_sem]; done) | (simp [go_sem]; omega))⟩
/-- an envelope, a note, an oscillator in a box -/
structure EnvAt (w : World) (g : Nat) (e : EnvN) : Prop where
  lt : g < w.heap.size
  a : w.cell? ⟨g, 0, none⟩ = some (.int .i64 e.a)
  d : w.cell? ⟨g, 1, none⟩ = some (.int .i64 e.d)
  s : w.cell? ⟨g, 2, none⟩ = some (.float .f32 e.s)
  r : w.cell? ⟨g, 3, none⟩ = some (.int .i64 e.r)
structure NotAt (w : World) (g : Nat) (e : NotN) : Prop where
  lt : g < w.heap.size
  st : w.cell? ⟨g, 0, none⟩ = some (.int .i64 e.st)
  h : w.cell? ⟨g, 1, none⟩ = some (.int .i64 e.h)
  p : w.cell? ⟨g, 2, none⟩ = some (.int .i64 e.p)
  g : w.cell? ⟨g, 3, none⟩ = some (.float .f32 e.g)
theorem specEnv_b (g : Nat) (e : EnvN) (b : Bool) (w : World) (hA : EnvAt w g e) (h : okEnv e.a e.d e.r = b) :
    Calls Try.prog 92 #[.pointer (some ⟨g, 0, none⟩)] w fun e w' => e = .returned (.bool b) ∧ w = w' := by
  subst h
  obtain ⟨a, d, s, r⟩ := e
  obtain ⟨_, c0, c1, c2, c3⟩ := hA
  simp only [okEnv] at *
  cases h1 : inB a 0 1000 <;> cases h2 : inB d 0 1000 <;> cases h3 : inB r 0 1000
  all_goals
    go_enter Try.func92, Try.ntmps92
    go_wp2_with (first | (go_at_call 78; with_reducible refine (specHold_b a 0 1000 _ _ h1).mono ?_; rintro e w1 ⟨rfl, rfl⟩) | (go_at_call 78; with_reducible refine (specHold_b d 0 1000 _ _ h2).mono ?_; rintro e w1 ⟨rfl, rfl⟩) | (go_at_call 78; with_reducible refine (specHold_b r 0 1000 _ _ h3).mono ?_; rintro e w1 ⟨rfl, rfl⟩))
    go_ret
    exact ⟨rfl, rfl⟩
theorem specNote_b (g : Nat) (e : NotN) (b : Bool) (w : World) (hA : NotAt w g e) (h : okNote e.st e.h e.p = b) :
    Calls Try.prog 93 #[.pointer (some ⟨g, 0, none⟩)] w fun e w' => e = .returned (.bool b) ∧ w = w' := by
  subst h
  obtain ⟨a, d, r, s⟩ := e
  obtain ⟨_, c0, c1, c2, c3⟩ := hA
  simp only [okNote] at *
  cases h1 : inB a 0 1000 <;> cases h2 : inB d 0 1000 <;> cases h3 : inB r 0 127
  all_goals
    go_enter Try.func93, Try.ntmps93
    go_wp2_with (first | (go_at_call 78; with_reducible refine (specHold_b a 0 1000 _ _ h1).mono ?_; rintro e w1 ⟨rfl, rfl⟩) | (go_at_call 78; with_reducible refine (specHold_b d 0 1000 _ _ h2).mono ?_; rintro e w1 ⟨rfl, rfl⟩) | (go_at_call 78; with_reducible refine (specHold_b r 0 127 _ _ h3).mono ?_; rintro e w1 ⟨rfl, rfl⟩))
    go_ret
    exact ⟨rfl, rfl⟩
theorem EnvAt.since {w w' : World} {g B : Nat} {e : EnvN} (h : EnvAt w g e) (s : w.Since B w') (hg : g < B) : EnvAt w' g e :=
  ⟨Nat.lt_of_lt_of_le h.lt s.size, (s.cell (a := ⟨g, 0, none⟩) hg).trans h.a, (s.cell (a := ⟨g, 1, none⟩) hg).trans h.d, (s.cell (a := ⟨g, 2, none⟩) hg).trans h.s, (s.cell (a := ⟨g, 3, none⟩) hg).trans h.r⟩
theorem NotAt.since {w w' : World} {g B : Nat} {e : NotN} (h : NotAt w g e) (s : w.Since B w') (hg : g < B) : NotAt w' g e :=
  ⟨Nat.lt_of_lt_of_le h.lt s.size, (s.cell (a := ⟨g, 0, none⟩) hg).trans h.st, (s.cell (a := ⟨g, 1, none⟩) hg).trans h.h, (s.cell (a := ⟨g, 2, none⟩) hg).trans h.p, (s.cell (a := ⟨g, 3, none⟩) hg).trans h.g⟩
def envB (e : EnvN) : Obj := .cells #[.int .i64 e.a, .int .i64 e.d, .float .f32 e.s, .int .i64 e.r] 57
def notB (e : NotN) : Obj := .cells #[.int .i64 e.st, .int .i64 e.h, .int .i64 e.p, .float .f32 e.g] 59
theorem EnvAt.new (w : World) (e : EnvN) : EnvAt (w.alloc (envB e)) w.heap.size e := by unfold envB; exact ⟨by simp, by simp [go_sem], by simp [go_sem], by simp [go_sem], by simp [go_sem]⟩
theorem NotAt.new (w : World) (e : NotN) : NotAt (w.alloc (notB e)) w.heap.size e := by unfold notB; exact ⟨by simp, by simp [go_sem], by simp [go_sem], by simp [go_sem], by simp [go_sem]⟩
theorem specEnd_any (g h : Nat) (e : EnvN) (n : NotN) (w : World) (hA : EnvAt w g e) (hN : NotAt w h n) (h1 : okEnv e.a e.d e.r = true) (h2 : okNote n.st n.h n.p = true) :
    Calls Try.prog 135 #[.pointer (some ⟨g, 0, none⟩), .pointer (some ⟨h, 0, none⟩)] w fun e' w' => e' = .returned (.int .i64 (n.st + n.h + e.r)) ∧ ∃ m, w.drewN m = w' := by
  simp only [okEnv, okNote, inB, Bool.and_eq_true, decide_eq_true_eq] at h1 h2
  obtain ⟨a, d, s, r⟩ := e
  obtain ⟨st, hh, p, gg⟩ := n
  obtain ⟨_, c0, c1, c2, c3⟩ := hA
  obtain ⟨_, d0, d1, d2, d3⟩ := hN
  simp only at *
  go_enter Try.func135, Try.ntmps135
  go_wp2_with fail
  refine Lo.wp_loose_all [] (by kernel_rfl) (by kernel_rfl) ?_
  repeat (first
    | (refine Lo.wpL_move rfl _ (.inl rfl) (by decide) ?_; simp only [Act.put, List.setIfInBounds_toArray, List.set_cons_succ, List.set_cons_zero])
    | (refine Lo.wpL_move rfl _ (.inr rfl) (by decide) ?_; simp only [Act.put, List.setIfInBounds_toArray, List.set_cons_succ, List.set_cons_zero])
    | (refine Lo.wpL_fop rfl _ _ _ _ rfl rfl (by decide) _ _ _ _ _ rfl rfl (by assumption) (by assumption) ?_; intro rr hrr; simp only [Act.put, List.setIfInBounds_toArray, List.set_cons_succ, List.set_cons_zero])
    | (refine Lo.wpL_wide rfl _ _ _ rfl (by decide) _ _ rfl (by kernel_rfl) (by kernel_rfl) (by assumption) ?_; intro rr hrr; simp only [Act.put, List.setIfInBounds_toArray, List.set_cons_succ, List.set_cons_zero])
    | (refine Lo.wpL_quiet rfl (by decide) (fun K hK => ?_); go_big_quiet_op; (refine hK _ ?_; clear hK K)))
  refine Lo.wpL_nil ?_
  refine Lo.after_nil ?_; intro nq
  go_wp2
  go_ret
  exact ⟨rfl, _, rfl⟩
theorem implEnd_any (e : EnvN) (n : NotN) (w : World) (h1 : okEnv e.a e.d e.r = true) (h2 : okNote n.st n.h n.p = true) :
    Calls Try.prog 98 #[e.val, n.val] w fun e' w' => e' = .returned (.int .i64 (n.st + n.h + e.r)) ∧ w.Since w.heap.size w' := by
  simp only [okEnv, okNote, inB, Bool.and_eq_true, decide_eq_true_eq] at h1 h2
  obtain ⟨a, d, s, r⟩ := e
  obtain ⟨st, hh, p, gg⟩ := n
  simp only [EnvN.val, NotN.val] at *
  go_enter Try.func98, Try.ntmps98
  go_wp2
  go_ret
  exact ⟨rfl, by (repeat (first | (with_reducible refine Fl.sinDrew ?_) | (with_reducible refine World.Since.drew ?_) | (with_reducible refine Fl.sinSet ?_ ?_; rotate_left) | (with_reducible refine Fl.sinAlloc ?_ ?_; rotate_left) | with_reducible exact World.Since.refl _ _ | with_reducible assumption | (with_reducible refine Fl.sinStep (by with_reducible assumption) ?_))); all_goals (first | omega | (simp; done) | (simp; omega) | (simp [go_sem]; done) | (simp [go_sem]; omega))⟩
def endR (e : EnvN) (n : NotN) (b : Bool) : Int := if b then n.st + n.h + e.r else 0
end Go.Proofs.Ytnhlnbnldpkmiaa
