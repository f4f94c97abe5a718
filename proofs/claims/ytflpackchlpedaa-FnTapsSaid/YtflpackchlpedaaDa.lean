/- Delays: lengths, structs, and what a step of a line gives. -/
import Derived.Test.YtflpackchlpedaaLv
import Derived.Test.YtflpackchlpedaaGa
import Derived.Deep.DeepCutAuto
set_option linter.unusedVariables false
set_option linter.unusedSimpArgs false
namespace Go.Proofs.Ytflpackchlpedaa
open Fl Go.RowKit
def okLen (l : Int) : Bool := decide (1 ≤ l) && decide (l ≤ 64)
theorem implLen_any (l : Int) (w : World) : Calls Try.prog 45 #[.int .i64 l] w fun e w' => e = .returned (.bool (okLen l)) ∧ w = w' := by
  unfold okLen
  cases h1 : decide ((1 : Int) ≤ l) <;> cases h2 : decide (l ≤ 64)
  all_goals
    go_enter Try.func45, Try.ntmps45
    go_wp2
    go_ret
    exact ⟨rfl, rfl⟩
theorem specIn_any (l a b : Int) (w : World) : Calls Try.prog 70 #[.int .i64 l, .int .i64 a, .int .i64 b] w fun e w' => e = .returned (.bool (decide (a ≤ l) && decide (l ≤ b))) ∧ w = w' := by
  cases h1 : decide (a ≤ l) <;> cases h2 : decide (l ≤ b)
  all_goals
    go_enter Try.func70, Try.ntmps70
    go_wp2
    go_ret
    exact ⟨rfl, rfl⟩
theorem specLen_any (l : Int) (w : World) : Calls Try.prog 52 #[.int .i64 l] w fun e w' => e = .returned (.bool (okLen l)) ∧ w = w' := by
  go_enter Try.func52, Try.ntmps52
  go_wp2_with (go_at_call 70; refine (specIn_any l 1 64 _).mono ?_; rintro e w' ⟨rfl, rfl⟩)
  go_ret
  exact ⟨rfl, rfl⟩

/-- words of a delay, of a pass -/
structure DelN where
  l : Int
  fb : Nat
  dry : Nat
  wet : Nat
  fl : Bool
structure PasN where
  l : Int
  g : Nat
def DelN.val (d : DelN) : Value := .agg #[.int .i64 d.l, .float .f32 d.fb, .float .f32 d.dry, .float .f32 d.wet, .bool d.fl]
def PasN.val (p : PasN) : Value := .agg #[.int .i64 p.l, .float .f32 p.g]
structure DelOk (d : DelN) : Prop where
  fb : d.fb < 4294967296
  dry : d.dry < 4294967296
  wet : d.wet < 4294967296

/-! what a line becomes -/
/-- the numbers of a line of length n, and those that it has taken behind them -/
def strm (n : Nat) (l : Nat → O) (v : O → O → O) (x : Nat → O) : Nat → Nat → O
  | 0, j => l j
  | k + 1, j => if j = n + k then v (x k) (strm n l v x k k) else strm n l v x k j
theorem strm_new (n : Nat) (l : Nat → O) (v : O → O → O) (x : Nat → O) (k : Nat) : strm n l v x (k + 1) (n + k) = v (x k) (strm n l v x k k) := by simp [strm]
theorem strm_old (n : Nat) (l : Nat → O) (v : O → O → O) (x : Nat → O) (k j : Nat) (h : j ≠ n + k) : strm n l v x (k + 1) j = strm n l v x k j := by simp [strm, h]
def delV (fu : Bool) (fb x b : O) : O := flO fu (ad x (mu fb b))
def delY (dry wet x b : O) : O := ad (mu dry x) (mu wet b)
def pasV (g x b : O) : O := ad x (mu g b)
def pasY (g x b : O) : O := su b (mu g (pasV g x b))
end Go.Proofs.Ytflpackchlpedaa
