/- A slice of integers that came in. -/
import Derived.Test.YtbhigpfpnbdilaaFr
import Derived.Test.YtbhigpfpnbdilaaIl
set_option linter.unusedVariables false
set_option linter.unusedSimpArgs false
namespace Go.Proofs.Ytbhigpfpnbdilaa
namespace Fl
open Go.ChangeShapes Go.WideShapes Go.RowKit Go.WideMaps Go.WideElems
section
variable {H : Type} {enc : TypeId × Value → H} {P : Program}
theorem trod_in {w : World} {base : Nat} {spare : Nat → Bool} {held : Bool} {fuel : Nat} {t : TypeId} {k : IntKind} {cs : List Value} {x : DataW H × List MemPlace} (ht : P.underlying t = some (.int k))
    (h : DataW.trod enc P w base spare held fuel t cs = some x) : ∃ b, cs = [.int k b] ∧ (Lit.int k b).wf = true := by
  cases fuel with
  | zero => simp [DataW.trod] at h
  | succ n =>
    unfold DataW.trod at h
    rw [ht] at h
    split at h <;> simp_all
theorem open_is {W : World} {base b0 : Nat} {r : Reach} {t e : TypeId} {v : Value} {d : DataW H} {ps : List MemPlace} (ht : P.underlying t = some (.slice e)) (he : P.underlying e = some (.int .i64)) (hc : P.cellsOf e = 1)
    (hval : Value.okWide P W r b0 t v) (h : DataW.Trod enc P W base (fun _ => true) true t v d ps) :
    ∃ (A : Option Addr) (n c : Nat) (xs : List Int), v = .slice A n c ∧ (Is W W.heap.size A n xs ∧ ∀ k, k < n → (Lit.int .i64 (wi xs k)).wf = true) ∧ n ≤ 9223372036854775807 := by
  obtain ⟨A, n, c, rfl⟩ := okWide_slice ht hval
  obtain ⟨fuel, hf⟩ := h
  rcases Go.Deep.open_slice ht hf with ⟨hcs, _⟩ | ⟨a, len, cap, m, k, D, Pl, hcs, _, hl, hm, hmm, _, hi⟩
  · simp only [Value.cells, Array.toList] at hcs
    injection hcs with hcs _
    injection hcs with h1 h2 h3
    subst h1; subst h2; subst h3
    exact ⟨none, 0, 0, [], rfl, ⟨⟨rfl, (fun h => by omega)⟩, (fun k h => by omega)⟩, by omega⟩
  · simp only [Value.cells, Array.toList] at hcs
    injection hcs with hcs _
    injection hcs with h1 h2 h3
    subst h1; subst h2; subst h3
    rw [if_pos rfl] at hmm
    subst hmm
    have hcell : ∀ i, i < m → ∃ b : Int, W.cell? (a.add i) = some (.int .i64 b) ∧ (Lit.int .i64 b).wf = true := by
      intro i him
      obtain ⟨cs', hcs', htr⟩ := hi i him
      rw [hc, Nat.mul_one] at hcs'
      obtain ⟨_, hlen, hat⟩ := World.cells?_some hcs'
      obtain ⟨b, hb, hw⟩ := trod_in he htr
      have h0 := hat 0 (by omega)
      rw [hb] at h0
      refine ⟨b, ?_, hw⟩
      have e : (a.add i).add 0 = a.add i := by simp [Addr.add]
      rw [e] at h0
      exact h0
    let f : Nat → Int := fun i => if h : i < m then Classical.choose (hcell i h) else 0
    have hfs : ∀ i (h : i < m), W.cell? (a.add i) = some (.int .i64 (f i)) ∧ (Lit.int .i64 (f i)).wf = true := by
      intro i h
      have := Classical.choose_spec (hcell i h)
      simp only [f, dif_pos h]
      exact this
    refine ⟨some a, n, m, (List.range n).map f, rfl, ⟨⟨by simp, ?_⟩, ?_⟩, by unfold maxLen at hm; omega⟩
    · intro hn
      obtain ⟨g, off, spot⟩ := a
      have h0 := (hfs 0 (by omega)).1
      have hspot : spot = none := by simpa [Addr.add] using World.cell?_spot h0
      subst hspot
      refine ⟨g, off, rfl, ?_, fun k hk => ?_⟩
      · have h1 : W.cell? ⟨g, off, none⟩ = some (.int .i64 (f 0)) := by simpa [Addr.add] using h0
        rcases Nat.lt_or_ge g W.heap.size with h2 | h2
        · exact h2
        · simp [World.cell?, Array.getElem?_eq_none h2] at h1
      · have h1 := (hfs k (by omega)).1
        rw [Go.WideShapes.add_plain] at h1
        rw [h1]
        unfold iv wi
        simp [hk]
    · intro k hk
      have h1 := (hfs k (by omega)).2
      unfold wi
      simpa [hk] using h1
end
end Fl
end Go.Proofs.Ytbhigpfpnbdilaa
