/- Lists of Tap as a law holds them. -/
import Derived.Test.YtflpackchlpedaaMa
import Derived.Test.YtflpackchlpedaaMc
import Derived.Test.YtflpackchlpedaaSf
import Derived.Test.YtflpackchlpedaaEa
import Derived.StillTailTactics
set_option linter.unusedVariables false
set_option linter.unusedSimpArgs false
namespace Go.Proofs.Ytflpackchlpedaa
open Fl Go.RowKit
structure TapR where
  b : Int
  g : Nat
def TapR.cells (x : TapR) : List Value := [.int .i64 x.b, .float .f32 x.g]
def TapR.val (x : TapR) : Value := .agg #[.int .i64 x.b, .float .f32 x.g]
def TapR.zero : TapR := ⟨0, 0⟩
def TapR.ok (x : TapR) : Prop := x.g < 4294967296
/-- the same but for bits of not-a-numbers -/
def TapR.same (x y : TapR) : Prop := x.b = y.b ∧ ab .f32 x.g = ab .f32 y.g
theorem TapR.same_refl (x : TapR) : x.same x := ⟨rfl, rfl⟩
theorem Try.infoTap : (Try.prog.info? 55).map (fun i => (i.zero, i.size, decide (i.bytes ≤ 1024))) = some (some (.agg #[.int .i64 0, .float .f32 0]), 2, true) := by kernel_rfl
def TapR.wf (x : TapR) : Prop := x.ok ∧ (Lit.int .i64 x.b).wf = true
section
open Go.ChangeShapes Go.WideShapes Go.Deep
variable {H : Type} {enc : TypeId × Value → H} {P : Program} {w : World} {base : Nat}
theorem openTap_row {t : TypeId} {f0 f1 : Field} (hs : P.underlying t = some (.struct #[f0, f1])) (hone : oneCellFields P #[f0, f1] = true) (hC : P.cellsOf t = 2) (h0 : P.underlying f0.type = some (.int .i64)) (h1 : P.underlying f1.type = some (.float .f32))
    (fuel : Nat) (cs : List Value) (x : DataW H × List MemPlace) (h : DataW.trod enc P w base (fun _ => true) true fuel t cs = some x) : ∃ y : TapR, y.wf ∧ y.cells = cs := by
  obtain ⟨hl, hc⟩ := row_cells hs hone hC h
  obtain ⟨c0, y0, n0, e0, t0⟩ := hc 0 f0 rfl
  obtain ⟨x0, hx0, w0⟩ := trod_int h0 t0
  injection hx0 with hx0 _; subst hx0
  obtain ⟨c1, y1, n1, e1, t1⟩ := hc 1 f1 rfl
  obtain ⟨x1, hx1, w1⟩ := trod_fl h1 t1
  injection hx1 with hx1 _; subst hx1
  refine ⟨⟨x0, x1⟩, ⟨wf_f32 w1, w0⟩, ?_⟩
  unfold TapR.cells
  match cs, hl with
  | [d0, d1], _ =>
    have g0 : d0 = _ := Option.some.inj e0
    have g1 : d1 = _ := Option.some.inj e1
    rw [g0, g1]
end
/-- what a mark leaves -/
def TapR.mkd (k0 : Nat) (i : Nat) : TapR := ⟨((k0 + i * 2 + 0 : Nat) : Int), floatOfInt .f32 ((k0 + i * 2 + 1 : Nat) : Int)⟩
end Go.Proofs.Ytflpackchlpedaa
