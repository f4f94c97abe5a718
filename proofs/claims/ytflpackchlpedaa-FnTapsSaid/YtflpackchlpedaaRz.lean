/- What the functions of a law give: lists, numbers, a yes or no. -/
import Derived.Test.YtflpackchlpedaaLv
set_option linter.unusedVariables false
set_option linter.unusedSimpArgs false
namespace Go.Proofs.Ytflpackchlpedaa
open Fl Go.RowKit
def PB (b : Bool) (w : World) (e : Ending) (w' : World) : Prop := e = .returned (.bool b) ∧ w.Since w.heap.size w'
def PVB (F : Option Nat) (b : Bool) (w : World) (e : Ending) (w' : World) : Prop := ∃ r, e = .returned (.tuple #[.float .f32 r, .bool b]) ∧ Hid (Fv .f32 r F) ∧ w.Since w.heap.size w'
def PIB (i : Int) (b : Bool) (w : World) (e : Ending) (w' : World) : Prop := e = .returned (.tuple #[.int .i64 i, .bool b]) ∧ w.Since w.heap.size w'
def PLB (n0 : Nat) (f0 : Nat → Option Nat) (b : Bool) (w : World) (e : Ending) (w' : World) : Prop :=
  ∃ (p : Ls) (c : Nat), e = .returned (.tuple #[.slice p.A p.n c, .bool b]) ∧ p.n = n0 ∧ Gs 33 w' w.heap.size p.A p.n p.xs ∧ Are p f0 ∧ w.Since w.heap.size w'
def PL (n0 : Nat) (f0 : Nat → Option Nat) (w : World) (e : Ending) (w' : World) : Prop :=
  ∃ (p : Ls) (c : Nat), e = .returned (.slice p.A p.n c) ∧ p.n = n0 ∧ Gs 33 w' w.heap.size p.A p.n p.xs ∧ Are p f0 ∧ w.Since w.heap.size w'
theorem PLB.none_ {w w' : World} (s : w.Since w.heap.size w') (f0 : Nat → Option Nat) : PLB 0 f0 false w (.returned (.tuple #[.slice none 0 0, .bool false])) w' :=
  ⟨⟨none, 0, []⟩, 0, rfl, rfl, Gs.nil_, (fun k hk => by simp at hk), s⟩
end Go.Proofs.Ytflpackchlpedaa
