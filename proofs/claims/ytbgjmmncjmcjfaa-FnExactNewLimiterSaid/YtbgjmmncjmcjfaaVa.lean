/- Voices: envelopes and notes by value: valid ones, and their ends. -/
import Derived.Test.YtbgjmmncjmcjfaaEh
import Derived.Test.YtbgjmmncjmcjfaaRz
set_option linter.unusedVariables false
set_option linter.unusedSimpArgs false
namespace Go.Proofs.Ytbgjmmncjmcjfaa
open Fl Go.RowKit
/-- words of an envelope, of a note, of an oscillator -/
structure EnvN where
  a : Int
  d : Int
  s : Nat
  r : Int
structure NotN where
  st : Int
  h : Int
  p : Int
  g : Nat
structure OscN where
  k : Int
  st : Nat
  ph : Nat
def EnvN.val (e : EnvN) : Value := .agg #[.int .i64 e.a, .int .i64 e.d, .float .f32 e.s, .int .i64 e.r]
def NotN.val (e : NotN) : Value := .agg #[.int .i64 e.st, .int .i64 e.h, .int .i64 e.p, .float .f32 e.g]
def OscN.val (e : OscN) : Value := .agg #[.int .i64 e.k, .float .f32 e.st, .float .f32 e.ph]
def okEnv (a d r : Int) : Bool := inB a 0 1000 && inB d 0 1000 && inB r 0 1000
def okNote (s h p : Int) : Bool := inB s 0 1000 && inB h 0 1000 && inB p 0 127
theorem allowX_any (a b x : Int) (w : World) :
    Calls Try.prog 68 #[.agg #[.int .i64 a, .int .i64 b], .int .i64 x] w fun e w' => e = .returned (.bool (inB x a b)) ∧ w.alloc (.cells #[.int .i64 a, .int .i64 b] 95) = w' := by
  by_cases h : a ≤ x
  all_goals
    go_enter Try.func68, Try.ntmps68
    go_wp2
    go_ret
    exact ⟨ret_bool (by simp [inB]; omega), rfl⟩
def lim (a b : Int) : Obj := .cells #[.int .i64 a, .int .i64 b] 95
theorem isCount_b (x : Int) (b : Bool) (w : World) (h : inB x 0 256 = b) : Calls Try.prog 105 #[.int .i64 x] w fun e w' => e = .returned (.bool b) ∧ w.alloc (lim 0 256) = w' := by
  subst h
  unfold lim
  go_enter Try.func105, Try.ntmps105
  go_wp2_with (go_at_call 68; refine (allowX_any _ _ _ _).mono ?_; rintro e w1 ⟨rfl, rfl⟩)
  go_ret
  exact ⟨rfl, rfl⟩
/-- an envelope, a note, an oscillator in a box -/
structure EnvAt (w : World) (g : Nat) (e : EnvN) : Prop where
  lt : g < w.heap.size
  a : w.cell? ⟨g, 0, none⟩ = some (.int .i64 e.a)
  d : w.cell? ⟨g, 1, none⟩ = some (.int .i64 e.d)
  s : w.cell? ⟨g, 2, none⟩ = some (.float .f32 e.s)
  r : w.cell? ⟨g, 3, none⟩ = some (.int .i64 e.r)
structure NotAt (w : World) (g : Nat) (e : NotN) : Prop where
  lt : g < w.heap.size
  st : w.cell? ⟨g, 0, none⟩ = some (.int .i64 e.st)
  h : w.cell? ⟨g, 1, none⟩ = some (.int .i64 e.h)
  p : w.cell? ⟨g, 2, none⟩ = some (.int .i64 e.p)
  g : w.cell? ⟨g, 3, none⟩ = some (.float .f32 e.g)
theorem EnvAt.since {w w' : World} {g B : Nat} {e : EnvN} (h : EnvAt w g e) (s : w.Since B w') (hg : g < B) : EnvAt w' g e :=
  ⟨Nat.lt_of_lt_of_le h.lt s.size, (s.cell (a := ⟨g, 0, none⟩) hg).trans h.a, (s.cell (a := ⟨g, 1, none⟩) hg).trans h.d, (s.cell (a := ⟨g, 2, none⟩) hg).trans h.s, (s.cell (a := ⟨g, 3, none⟩) hg).trans h.r⟩
theorem NotAt.since {w w' : World} {g B : Nat} {e : NotN} (h : NotAt w g e) (s : w.Since B w') (hg : g < B) : NotAt w' g e :=
  ⟨Nat.lt_of_lt_of_le h.lt s.size, (s.cell (a := ⟨g, 0, none⟩) hg).trans h.st, (s.cell (a := ⟨g, 1, none⟩) hg).trans h.h, (s.cell (a := ⟨g, 2, none⟩) hg).trans h.p, (s.cell (a := ⟨g, 3, none⟩) hg).trans h.g⟩
def endR (e : EnvN) (n : NotN) (b : Bool) : Int := if b then n.st + n.h + e.r else 0
end Go.Proofs.Ytbgjmmncjmcjfaa
