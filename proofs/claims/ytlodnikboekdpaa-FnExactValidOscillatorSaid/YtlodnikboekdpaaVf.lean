/- Envelopes, notes, oscillators that came in by value. -/
import Derived.Test.YtlodnikboekdpaaFd
import Derived.Test.YtlodnikboekdpaaVa
set_option linter.unusedVariables false
set_option linter.unusedSimpArgs false
namespace Go.Proofs.Ytlodnikboekdpaa
namespace Fl
open Go.ChangeShapes Go.WideShapes Go.RowKit Go.Deep

section
variable {H : Type} {enc : TypeId × Value → H} {P : Program} {w : World} {base : Nat} {spare : Nat → Bool} {held : Bool}
theorem open_env {r : Reach} {b0 : Nat} {t : TypeId} {f0 f1 f2 f3 : Field} {v : Value} {d : DataW H} {p : List MemPlace} (hs : P.underlying t = some (.struct #[f0, f1, f2, f3])) (hone : oneCellFields P #[f0, f1, f2, f3] = true) (hC : P.cellsOf t = 4)
    (h0 : P.underlying f0.type = some (.int .i64)) (h1 : P.underlying f1.type = some (.int .i64)) (h2 : P.underlying f2.type = some (.float .f32)) (h3 : P.underlying f3.type = some (.int .i64))
    (hv : Value.okWide P w r b0 t v) (h : DataW.Trod enc P w base spare held t v d p) :
    ∃ m : EnvN, v = m.val ∧ m.s < 4294967296 ∧ (Lit.int .i64 m.a).wf = true ∧ (Lit.int .i64 m.d).wf = true ∧ (Lit.int .i64 m.r).wf = true := by
  obtain ⟨cs, rfl, hsz, hc⟩ := open_row hs hone hC hv h
  obtain ⟨c0, y0, n0, e0, t0⟩ := hc 0 f0 rfl
  obtain ⟨c1, y1, n1, e1, t1⟩ := hc 1 f1 rfl
  obtain ⟨c2, y2, n2, e2, t2⟩ := hc 2 f2 rfl
  obtain ⟨c3, y3, n3, e3, t3⟩ := hc 3 f3 rfl
  obtain ⟨x0, hx0, w0⟩ := trod_int h0 t0
  obtain ⟨x1, hx1, w1⟩ := trod_int h1 t1
  obtain ⟨x2, hx2, w2⟩ := trod_fl h2 t2
  obtain ⟨x3, hx3, w3⟩ := trod_int h3 t3
  injection hx0 with hx0 _; subst hx0
  injection hx1 with hx1 _; subst hx1
  injection hx2 with hx2 _; subst hx2
  injection hx3 with hx3 _; subst hx3
  refine ⟨⟨x0, x1, x2, x3⟩, ?_, wf_f32 w2, w0, w1, w3⟩
  unfold EnvN.val
  congr 1
  apply Array.ext_getElem?
  intro i
  match i with
  | 0 => exact e0
  | 1 => exact e1
  | 2 => exact e2
  | 3 => exact e3
  | i + 4 => rw [Array.getElem?_eq_none (by rw [hsz]; simp), Array.getElem?_eq_none (by simp)]
theorem open_not {r : Reach} {b0 : Nat} {t : TypeId} {f0 f1 f2 f3 : Field} {v : Value} {d : DataW H} {p : List MemPlace} (hs : P.underlying t = some (.struct #[f0, f1, f2, f3])) (hone : oneCellFields P #[f0, f1, f2, f3] = true) (hC : P.cellsOf t = 4)
    (h0 : P.underlying f0.type = some (.int .i64)) (h1 : P.underlying f1.type = some (.int .i64)) (h2 : P.underlying f2.type = some (.int .i64)) (h3 : P.underlying f3.type = some (.float .f32))
    (hv : Value.okWide P w r b0 t v) (h : DataW.Trod enc P w base spare held t v d p) :
    ∃ m : NotN, v = m.val ∧ m.g < 4294967296 ∧ (Lit.int .i64 m.st).wf = true ∧ (Lit.int .i64 m.h).wf = true ∧ (Lit.int .i64 m.p).wf = true := by
  obtain ⟨cs, rfl, hsz, hc⟩ := open_row hs hone hC hv h
  obtain ⟨c0, y0, n0, e0, t0⟩ := hc 0 f0 rfl
  obtain ⟨c1, y1, n1, e1, t1⟩ := hc 1 f1 rfl
  obtain ⟨c2, y2, n2, e2, t2⟩ := hc 2 f2 rfl
  obtain ⟨c3, y3, n3, e3, t3⟩ := hc 3 f3 rfl
  obtain ⟨x0, hx0, w0⟩ := trod_int h0 t0
  obtain ⟨x1, hx1, w1⟩ := trod_int h1 t1
  obtain ⟨x2, hx2, w2⟩ := trod_int h2 t2
  obtain ⟨x3, hx3, w3⟩ := trod_fl h3 t3
  injection hx0 with hx0 _; subst hx0
  injection hx1 with hx1 _; subst hx1
  injection hx2 with hx2 _; subst hx2
  injection hx3 with hx3 _; subst hx3
  refine ⟨⟨x0, x1, x2, x3⟩, ?_, wf_f32 w3, w0, w1, w2⟩
  unfold NotN.val
  congr 1
  apply Array.ext_getElem?
  intro i
  match i with
  | 0 => exact e0
  | 1 => exact e1
  | 2 => exact e2
  | 3 => exact e3
  | i + 4 => rw [Array.getElem?_eq_none (by rw [hsz]; simp), Array.getElem?_eq_none (by simp)]
theorem open_osc {r : Reach} {b0 : Nat} {t : TypeId} {f0 f1 f2 : Field} {v : Value} {d : DataW H} {p : List MemPlace} (hs : P.underlying t = some (.struct #[f0, f1, f2])) (hone : oneCellFields P #[f0, f1, f2] = true) (hC : P.cellsOf t = 3)
    (h0 : P.underlying f0.type = some (.int .i64)) (h1 : P.underlying f1.type = some (.float .f32)) (h2 : P.underlying f2.type = some (.float .f32))
    (hv : Value.okWide P w r b0 t v) (h : DataW.Trod enc P w base spare held t v d p) :
    ∃ m : OscN, v = m.val ∧ m.st < 4294967296 ∧ m.ph < 4294967296 ∧ (Lit.int .i64 m.k).wf = true := by
  obtain ⟨cs, rfl, hsz, hc⟩ := open_row hs hone hC hv h
  obtain ⟨c0, y0, n0, e0, t0⟩ := hc 0 f0 rfl
  obtain ⟨c1, y1, n1, e1, t1⟩ := hc 1 f1 rfl
  obtain ⟨c2, y2, n2, e2, t2⟩ := hc 2 f2 rfl
  obtain ⟨x0, hx0, w0⟩ := trod_int h0 t0
  obtain ⟨x1, hx1, w1⟩ := trod_fl h1 t1
  obtain ⟨x2, hx2, w2⟩ := trod_fl h2 t2
  injection hx0 with hx0 _; subst hx0
  injection hx1 with hx1 _; subst hx1
  injection hx2 with hx2 _; subst hx2
  refine ⟨⟨x0, x1, x2⟩, ?_, wf_f32 w1, wf_f32 w2, w0⟩
  unfold OscN.val
  congr 1
  apply Array.ext_getElem?
  intro i
  match i with
  | 0 => exact e0
  | 1 => exact e1
  | 2 => exact e2
  | i + 3 => rw [Array.getElem?_eq_none (by rw [hsz]; simp), Array.getElem?_eq_none (by simp)]
end
end Fl
end Go.Proofs.Ytlodnikboekdpaa
