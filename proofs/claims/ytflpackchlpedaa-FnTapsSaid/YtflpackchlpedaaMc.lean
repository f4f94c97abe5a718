/- Lists of structs that came in. -/
import Derived.Test.YtflpackchlpedaaMa
import Derived.Test.YtflpackchlpedaaFd
set_option linter.unusedVariables false
set_option linter.unusedSimpArgs false
namespace Go.Proofs.Ytflpackchlpedaa
namespace Fl
open Go.ChangeShapes Go.WideShapes Go.RowKit Go.Deep
section
variable {H : Type} {enc : TypeId × Value → H} {P : Program} {w : World} {base : Nat} {spare : Nat → Bool} {held : Bool}
/-- the cells of a struct whose fields are one cell each -/
theorem row_cells {fuel : Nat} {t : TypeId} {fs : Array Field} {cs : List Value} {x : DataW H × List MemPlace} (hs : P.underlying t = some (.struct fs)) (hone : oneCellFields P fs = true) (hC : P.cellsOf t = fs.size)
    (h : DataW.trod enc P w base spare held fuel t cs = some x) : cs.length = fs.size ∧ ∀ (i : Nat) (f : Field), fs[i]? = some f → ∃ (c : Value) (y : DataW H × List MemPlace) (n : Nat), cs[i]? = some c ∧ DataW.trod enc P w base spare held n f.type [c] = some y := by
  obtain ⟨xs, n, _, hx, hl, hlen, hg⟩ := DataW.trod_struct hs h
  refine ⟨hl.trans hC, fun i f hi => ?_⟩
  obtain ⟨o, k⟩ := hone_of hone i f hi
  have hil : i < fs.size := (Array.getElem?_eq_some_iff.1 hi).1
  have hic : i < cs.length := by rw [hl, hC]; exact hil
  have h1 := hg i f hi
  rw [o, k] at h1
  have hcell : (cs.drop i).take 1 = [cs[i]] := by
    rw [List.drop_eq_getElem_cons hic]
    rfl
  rw [hcell] at h1
  have hxi : i < xs.length := by rw [hlen]; exact hil
  refine ⟨cs[i], xs[i], n, List.getElem?_eq_getElem hic, ?_⟩
  rw [h1, List.getElem?_eq_getElem hxi]
theorem open_ss {α : Type} {cells : α → List Value} {s : Nat} {ok : α → Prop} (z : α) {W : World} {b0 : Nat} {r : Reach} {t e : TypeId} {v : Value} {d : DataW H} {ps : List MemPlace} (ht : P.underlying t = some (.slice e)) (hc : P.cellsOf e = s) (hs : 0 < s)
    (hrow : ∀ (fuel : Nat) (cs : List Value) (x : DataW H × List MemPlace), DataW.trod enc P W base (fun _ => true) true fuel e cs = some x → ∃ y : α, ok y ∧ cells y = cs)
    (hval : Value.okWide P W r b0 t v) (h : DataW.Trod enc P W base (fun _ => true) true t v d ps) :
    ∃ (A : Option Addr) (n c : Nat) (f : Nat → α), v = .slice A n c ∧ Rs cells s W W.heap.size A n f ∧ (∀ k, k < n → ok (f k)) ∧ n ≤ 9223372036854775807 := by
  obtain ⟨A, n, c, rfl⟩ := okWide_slice ht hval
  obtain ⟨fuel, hf⟩ := h
  rcases Go.Deep.open_slice ht hf with ⟨hcs, _⟩ | ⟨a, len, cap, m, k, D, Pl, hcs, _, hl, hm, hmm, _, hi⟩
  · simp only [Value.cells, Array.toList] at hcs
    injection hcs with hcs _
    injection hcs with h1 h2 h3
    subst h1; subst h2; subst h3
    exact ⟨none, 0, 0, fun _ => z, rfl, (fun h => by omega), (fun k h => by omega), by omega⟩
  · simp only [Value.cells, Array.toList] at hcs
    injection hcs with hcs _
    injection hcs with h1 h2 h3
    subst h1; subst h2; subst h3
    rw [if_pos rfl] at hmm
    subst hmm
    have hcell : ∀ i, i < m → ∃ y : α, ok y ∧ (cells y).length = s ∧ ∀ j, j < s → W.cell? ((a.add (i * s)).add j) = (cells y)[j]? := by
      intro i him
      obtain ⟨cs', hcs', htr⟩ := hi i him
      rw [hc] at hcs'
      obtain ⟨_, hlen, hat⟩ := World.cells?_some hcs'
      obtain ⟨y, hy, rfl⟩ := hrow _ _ _ htr
      exact ⟨y, hy, hlen, hat⟩
    let f : Nat → α := fun i => if h : i < m then Classical.choose (hcell i h) else z
    have hfs : ∀ i (h : i < m), ok (f i) ∧ (cells (f i)).length = s ∧ ∀ j, j < s → W.cell? ((a.add (i * s)).add j) = (cells (f i))[j]? := by
      intro i h
      have := Classical.choose_spec (hcell i h)
      simp only [f, dif_pos h]
      exact this
    refine ⟨some a, n, m, f, rfl, ?_, fun k hk => (hfs k (by omega)).1, by unfold maxLen at hm; omega⟩
    intro hn
    obtain ⟨g, off, spot⟩ := a
    obtain ⟨_, l0, h0⟩ := hfs 0 (by omega)
    have h00 := h0 0 hs
    rw [List.getElem?_eq_getElem (by omega)] at h00
    have hspot : spot = none := by simpa [Addr.add] using World.cell?_spot h00
    subst hspot
    refine ⟨g, off, rfl, ?_, fun k hk => ?_⟩
    · have h1 : (W.cell? ⟨g, off, none⟩).isSome := by
        have : W.cell? ⟨g, off, none⟩ = some ((cells (f 0))[0]'(by omega)) := by simpa [Addr.add] using h00
        rw [this]; rfl
      rcases Nat.lt_or_ge g W.heap.size with h2 | h2
      · exact h2
      · simp [World.cell?, Array.getElem?_eq_none h2] at h1
    · have hkn : k / s < n := (Nat.div_lt_iff_lt_mul hs).2 hk
      have hks := Nat.mod_lt k hs
      obtain ⟨_, l1, h1⟩ := hfs (k / s) (by omega)
      have h2 := h1 (k % s) hks
      rw [Go.WideShapes.add_plain, Go.WideShapes.add_plain, Nat.add_assoc, show k / s * s + k % s = k by rw [Nat.mul_comm]; exact Nat.div_add_mod k s] at h2
      rw [h2]
      unfold ceL
      rw [List.getD_eq_getElem?_getD, List.getElem?_eq_getElem (by omega)]
      rfl
end
end Fl
end Go.Proofs.Ytflpackchlpedaa
