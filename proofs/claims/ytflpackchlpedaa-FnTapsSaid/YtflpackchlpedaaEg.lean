/- Dynamics: fades. -/
import Derived.Test.YtflpackchlpedaaEe
import Derived.Test.YtflpackchlpedaaEf
set_option linter.unusedVariables false
set_option linter.unusedSimpArgs false
namespace Go.Proofs.Ytflpackchlpedaa
open Fl Go.RowKit
def fI (k : Int) : Nat := floatOfInt .f32 k
theorem fI_fv (k : Int) : Hid (Fv .f32 (floatOfInt .f32 k) (some (fI k))) := Lib.hid (fv_write .f32 (d := .number (decide (k < 0)) k.natAbs 0) rfl)
def fadeG (f t : O) (i n : Int) : O := ad f (mu (su t f) (qu (some (fI i)) (some (fI n))))
/-! the gate -/
def PLIB (n0 : Nat) (f0 : Nat → Option Nat) (i : Int) (b : Bool) (w : World) (e : Ending) (w' : World) : Prop :=
  ∃ (p : Ls) (c : Nat), e = .returned (.tuple #[.slice p.A p.n c, .int .i64 i, .bool b]) ∧ p.n = n0 ∧ Gs 33 w' w.heap.size p.A p.n p.xs ∧ Are p f0 ∧ w.Since w.heap.size w'
theorem PLIB.none_ {w w' : World} (s : w.Since w.heap.size w') (f0 : Nat → Option Nat) : PLIB 0 f0 0 false w (.returned (.tuple #[.slice none 0 0, .int .i64 0, .bool false])) w' :=
  ⟨⟨none, 0, []⟩, 0, rfl, rfl, Gs.nil_, (fun k hk => by simp at hk), s⟩
def gateH (X : Nat → O) (T : O) (hold held : Int) : Nat → Int
  | 0 => held
  | k + 1 => if geO (sizeO (X k)) T then hold else if 0 < gateH X T hold held k then gateH X T hold held k - 1 else gateH X T hold held k
def gateY (X : Nat → O) (T : O) (hold held : Int) (k : Nat) : O := if geO (sizeO (X k)) T then X k else if 0 < gateH X T hold held k then X k else some 0
theorem gateH_in {X : Nat → O} {T : O} {hold held : Int} (h1 : 0 ≤ held) (h2 : held ≤ hold) (k : Nat) : 0 ≤ gateH X T hold held k ∧ gateH X T hold held k ≤ hold := by
  induction k with
  | zero => exact ⟨h1, h2⟩
  | succ k ih => unfold gateH; split; omega; split <;> omega
def okHold (hold held : Int) : Bool := inB hold 0 10000 && inB held 0 hold
end Go.Proofs.Ytflpackchlpedaa
