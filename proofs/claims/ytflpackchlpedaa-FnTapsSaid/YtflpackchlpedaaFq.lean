/- Structs of numbers that came in by value. -/
import Derived.Test.YtflpackchlpedaaFr
import Derived.Test.YtflpackchlpedaaGa
import Derived.Deep.Fields
set_option linter.unusedVariables false
set_option linter.unusedSimpArgs false
namespace Go.Proofs.Ytflpackchlpedaa
namespace Fl
open Go.ChangeShapes Go.WideShapes Go.RowKit Go.Deep

section
variable {H : Type} {enc : TypeId × Value → H} {P : Program} {w : World} {base : Nat} {spare : Nat → Bool} {held : Bool}

/-- a struct whose fields are one cell each: its cells, each with its field's reading -/
theorem open_row {r : Reach} {b0 : Nat} {t : TypeId} {fs : Array Field} {v : Value} {d : DataW H} {p : List MemPlace} (hs : P.underlying t = some (.struct fs)) (hone : oneCellFields P fs = true) (hC : P.cellsOf t = fs.size)
    (hv : Value.okWide P w r b0 t v) (h : DataW.Trod enc P w base spare held t v d p) :
    ∃ cs : Array Value, v = .agg cs ∧ cs.size = fs.size ∧ ∀ (i : Nat) (f : Field), fs[i]? = some f → ∃ (c : Value) (y : DataW H × List MemPlace) (n : Nat), cs[i]? = some c ∧ DataW.trod enc P w base spare held n f.type [c] = some y := by
  obtain ⟨cs, rfl, hsz⟩ := okWide_struct hs hv
  obtain ⟨fuel, hf⟩ := h
  obtain ⟨xs, n, _, hx, _, hlen, hg⟩ := DataW.trod_struct hs hf
  refine ⟨cs, rfl, hsz.trans hC, fun i f hi => ?_⟩
  obtain ⟨o, k⟩ := hone_of hone i f hi
  have hil : i < fs.size := (Array.getElem?_eq_some_iff.1 hi).1
  have hic : i < cs.size := by rw [hsz, hC]; exact hil
  have h1 := hg i f hi
  rw [o, k] at h1
  have hcell : ((Value.agg cs).cells.toList.drop i).take 1 = [cs[i]] := by
    simp only [Value.cells]
    rw [List.drop_eq_getElem_cons (by simpa using hic)]
    simp
  rw [hcell] at h1
  have hxi : i < xs.length := by rw [hlen]; exact hil
  refine ⟨cs[i], xs[i], n, Array.getElem?_eq_getElem hic, ?_⟩
  rw [h1, List.getElem?_eq_getElem hxi]

theorem open_floats {r : Reach} {b0 : Nat} {t : TypeId} {fs : Array Field} {v : Value} {d : DataW H} {p : List MemPlace} (hs : P.underlying t = some (.struct fs)) (hone : oneCellFields P fs = true) (hC : P.cellsOf t = fs.size)
    (hfl : ∀ f ∈ fs.toList, P.underlying f.type = some (.float .f32)) (hv : Value.okWide P w r b0 t v) (h : DataW.Trod enc P w base spare held t v d p) :
    ∃ bs : List Nat, bs.length = fs.size ∧ Small bs ∧ v = .agg (bs.map fun b => Value.float .f32 b).toArray := by
  obtain ⟨cs, rfl, hsz, hc⟩ := open_row hs hone hC hv h
  have hb : ∀ i, i < fs.size → ∃ b, cs[i]? = some (.float .f32 b) ∧ b < 4294967296 := fun i hi => by
    obtain ⟨c, y, n, h1, h2⟩ := hc i fs[i] (Array.getElem?_eq_getElem hi)
    obtain ⟨b, hb, hw⟩ := trod_fl (hfl fs[i] (by simp)) h2
    injection hb with hb _
    subst hb
    exact ⟨b, h1, wf_f32 hw⟩
  let g : Nat → Nat := fun i => if h : i < fs.size then Classical.choose (hb i h) else 0
  have hg : ∀ i (h : i < fs.size), cs[i]? = some (.float .f32 (g i)) ∧ g i < 4294967296 := fun i h => by
    have := Classical.choose_spec (hb i h)
    simp only [g, dif_pos h]
    exact this
  refine ⟨(List.range fs.size).map g, by simp, fun x hx => ?_, ?_⟩
  · obtain ⟨i, hi, rfl⟩ := List.mem_map.1 hx
    exact (hg i (List.mem_range.1 hi)).2
  · congr 1
    apply Array.ext_getElem?
    intro i
    by_cases hi : i < fs.size
    · rw [(hg i hi).1]
      simp [hi]
    · rw [Array.getElem?_eq_none (by omega), Array.getElem?_eq_none (by simp; omega)]

theorem open_mem {r : Reach} {b0 : Nat} {t : TypeId} {f0 f1 f2 f3 : Field} {v : Value} {d : DataW H} {p : List MemPlace} (hs : P.underlying t = some (.struct #[f0, f1, f2, f3])) (hone : oneCellFields P #[f0, f1, f2, f3] = true) (hC : P.cellsOf t = 4)
    (hfl : ∀ f ∈ [f0, f1, f2, f3], P.underlying f.type = some (.float .f32)) (hv : Value.okWide P w r b0 t v) (h : DataW.Trod enc P w base spare held t v d p) :
    ∃ m : MemN, v = m.val ∧ FvM m ⟨ab .f32 m.a, ab .f32 m.b, ab .f32 m.c, ab .f32 m.d⟩ := by
  obtain ⟨bs, hl, hsm, rfl⟩ := open_floats hs hone hC hfl hv h
  match bs, hl with
  | [a, b, c, d], _ =>
    exact ⟨⟨a, b, c, d⟩, rfl, ⟨fvs (hsm a (by simp)), fvs (hsm b (by simp)), fvs (hsm c (by simp)), fvs (hsm d (by simp))⟩⟩
theorem open_fil {r : Reach} {b0 : Nat} {t : TypeId} {f0 f1 f2 f3 f4 : Field} {v : Value} {d : DataW H} {p : List MemPlace} (hs : P.underlying t = some (.struct #[f0, f1, f2, f3, f4])) (hone : oneCellFields P #[f0, f1, f2, f3, f4] = true) (hC : P.cellsOf t = 5)
    (hfl : ∀ f ∈ [f0, f1, f2, f3, f4], P.underlying f.type = some (.float .f32)) (hv : Value.okWide P w r b0 t v) (h : DataW.Trod enc P w base spare held t v d p) :
    ∃ m : FilN, v = m.val ∧ FvF m ⟨ab .f32 m.b0, ab .f32 m.b1, ab .f32 m.b2, ab .f32 m.a1, ab .f32 m.a2⟩ := by
  obtain ⟨bs, hl, hsm, rfl⟩ := open_floats hs hone hC hfl hv h
  match bs, hl with
  | [a, b, c, d, e], _ =>
    exact ⟨⟨a, b, c, d, e⟩, rfl, ⟨fvs (hsm a (by simp)), fvs (hsm b (by simp)), fvs (hsm c (by simp)), fvs (hsm d (by simp)), fvs (hsm e (by simp))⟩⟩
end
end Fl
end Go.Proofs.Ytflpackchlpedaa
