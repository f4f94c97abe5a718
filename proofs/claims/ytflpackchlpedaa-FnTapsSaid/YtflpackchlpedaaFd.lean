/- Structs of one-cell fields that came in by value: delays, passes, taps. -/
import Derived.Test.YtflpackchlpedaaFq
import Derived.Test.YtflpackchlpedaaDa
set_option linter.unusedVariables false
set_option linter.unusedSimpArgs false
namespace Go.Proofs.Ytflpackchlpedaa
namespace Fl
open Go.ChangeShapes Go.WideShapes Go.RowKit Go.Deep

section
variable {H : Type} {enc : TypeId × Value → H} {P : Program} {w : World} {base : Nat} {spare : Nat → Bool} {held : Bool}
theorem trod_int {fuel : Nat} {t : TypeId} {k : IntKind} {cs : List Value} {x : DataW H × List MemPlace} (ht : P.underlying t = some (.int k))
    (h : DataW.trod enc P w base spare held fuel t cs = some x) : ∃ b, cs = [.int k b] ∧ (Lit.int k b).wf = true := by
  cases fuel with
  | zero => simp [DataW.trod] at h
  | succ n =>
    unfold DataW.trod at h
    rw [ht] at h
    split at h <;> simp_all
theorem trod_bool {fuel : Nat} {t : TypeId} {cs : List Value} {x : DataW H × List MemPlace} (ht : P.underlying t = some .bool)
    (h : DataW.trod enc P w base spare held fuel t cs = some x) : ∃ b, cs = [.bool b] := by
  cases fuel with
  | zero => simp [DataW.trod] at h
  | succ n =>
    unfold DataW.trod at h
    rw [ht] at h
    split at h <;> simp_all

theorem open_del {r : Reach} {b0 : Nat} {t : TypeId} {f0 f1 f2 f3 f4 : Field} {v : Value} {d : DataW H} {p : List MemPlace} (hs : P.underlying t = some (.struct #[f0, f1, f2, f3, f4])) (hone : oneCellFields P #[f0, f1, f2, f3, f4] = true) (hC : P.cellsOf t = 5)
    (h0 : P.underlying f0.type = some (.int .i64)) (h1 : P.underlying f1.type = some (.float .f32)) (h2 : P.underlying f2.type = some (.float .f32)) (h3 : P.underlying f3.type = some (.float .f32)) (h4 : P.underlying f4.type = some .bool)
    (hv : Value.okWide P w r b0 t v) (h : DataW.Trod enc P w base spare held t v d p) :
    ∃ m : DelN, v = m.val ∧ DelOk m ∧ (Lit.int .i64 m.l).wf = true := by
  obtain ⟨cs, rfl, hsz, hc⟩ := open_row hs hone hC hv h
  obtain ⟨c0, y0, n0, e0, t0⟩ := hc 0 f0 rfl
  obtain ⟨c1, y1, n1, e1, t1⟩ := hc 1 f1 rfl
  obtain ⟨c2, y2, n2, e2, t2⟩ := hc 2 f2 rfl
  obtain ⟨c3, y3, n3, e3, t3⟩ := hc 3 f3 rfl
  obtain ⟨c4, y4, n4, e4, t4⟩ := hc 4 f4 rfl
  obtain ⟨l, hl, wl⟩ := trod_int h0 t0
  obtain ⟨a, ha, wa⟩ := trod_fl h1 t1
  obtain ⟨b, hb, wb⟩ := trod_fl h2 t2
  obtain ⟨c, hcc, wc⟩ := trod_fl h3 t3
  obtain ⟨q, hq⟩ := trod_bool h4 t4
  injection hl with hl _; injection ha with ha _; injection hb with hb _; injection hcc with hcc _; injection hq with hq _
  subst hl; subst ha; subst hb; subst hcc; subst hq
  refine ⟨⟨l, a, b, c, q⟩, ?_, ⟨wf_f32 wa, wf_f32 wb, wf_f32 wc⟩, wl⟩
  unfold DelN.val
  congr 1
  apply Array.ext_getElem?
  intro i
  match i with
  | 0 => exact e0
  | 1 => exact e1
  | 2 => exact e2
  | 3 => exact e3
  | 4 => exact e4
  | i + 5 => rw [Array.getElem?_eq_none (by rw [hsz]; simp), Array.getElem?_eq_none (by simp)]
theorem open_pas {r : Reach} {b0 : Nat} {t : TypeId} {f0 f1 : Field} {v : Value} {d : DataW H} {p : List MemPlace} (hs : P.underlying t = some (.struct #[f0, f1])) (hone : oneCellFields P #[f0, f1] = true) (hC : P.cellsOf t = 2)
    (h0 : P.underlying f0.type = some (.int .i64)) (h1 : P.underlying f1.type = some (.float .f32))
    (hv : Value.okWide P w r b0 t v) (h : DataW.Trod enc P w base spare held t v d p) :
    ∃ m : PasN, v = m.val ∧ m.g < 4294967296 ∧ (Lit.int .i64 m.l).wf = true := by
  obtain ⟨cs, rfl, hsz, hc⟩ := open_row hs hone hC hv h
  obtain ⟨c0, y0, n0, e0, t0⟩ := hc 0 f0 rfl
  obtain ⟨c1, y1, n1, e1, t1⟩ := hc 1 f1 rfl
  obtain ⟨l, hl, wl⟩ := trod_int h0 t0
  obtain ⟨a, ha, wa⟩ := trod_fl h1 t1
  injection hl with hl _; injection ha with ha _
  subst hl; subst ha
  refine ⟨⟨l, a⟩, ?_, wf_f32 wa, wl⟩
  unfold PasN.val
  congr 1
  apply Array.ext_getElem?
  intro i
  match i with
  | 0 => exact e0
  | 1 => exact e1
  | i + 2 => rw [Array.getElem?_eq_none (by rw [hsz]; simp), Array.getElem?_eq_none (by simp)]
end
end Fl
end Go.Proofs.Ytflpackchlpedaa
