/- Lists of any one-cell kind that a law holds, apart from one another. -/
import Derived.Test.YtflpackchlpedaaLv
import Derived.Test.YtflpackchlpedaaIl
set_option linter.unusedVariables false
set_option linter.unusedSimpArgs false
namespace Go.Proofs.Ytflpackchlpedaa
namespace Fl
/-- a list: its elements' type, where it lies, how many cells, its cells -/
structure Lx where
  T : TypeId
  A : Option Addr
  n : Nat
  f : Nat → Value
  ok : Prop
/-- it lies in a block of the law's own, from lo on -/
def Gx (w : World) (lo : Nat) (p : Lx) : Prop := p.ok ∧ (0 < p.n → ∃ g cs, p.A = some ⟨g, 0, none⟩ ∧ lo ≤ g ∧ w.heap[g]? = some (.cells cs p.T (0, 0)) ∧ ∀ k, k < p.n → cs[k]? = some (p.f k))
theorem Gx.since {w w' : World} {lo : Nat} {p : Lx} (h : Gx w lo p) (hs : w.Since w.heap.size w') : Gx w' lo p := ⟨h.1, fun hn => by
  obtain ⟨g, cs, e, hg, hb, hc⟩ := h.2 hn
  exact ⟨g, cs, e, hg, (hs.block g (Array.getElem?_eq_some_iff.1 hb).1).trans hb, hc⟩⟩
theorem Gx.less {w : World} {lo l : Nat} {p : Lx} (h : Gx w lo p) (hl : l ≤ lo) : Gx w l p := ⟨h.1, fun hn => by
  obtain ⟨g, cs, e, hg, hb, hc⟩ := h.2 hn
  exact ⟨g, cs, e, by omega, hb, hc⟩⟩
theorem Gx.block {w : World} {lo : Nat} {p : Lx} (h : Gx w lo p) (hn : 0 < p.n) : ∃ g, p.A = some ⟨g, 0, none⟩ ∧ lo ≤ g ∧ g < w.heap.size := by
  obtain ⟨g, cs, e, hg, hb, _⟩ := h.2 hn
  exact ⟨g, e, hg, (Array.getElem?_eq_some_iff.1 hb).1⟩
/-- lists of floats, of integers -/
def fx (A : Option Addr) (n : Nat) (xs : List Nat) : Lx := ⟨33, A, n, fv xs, xs.length = n ∧ Small xs⟩
def ix64 (A : Option Addr) (n : Nat) (xs : List Int) : Lx := ⟨2, A, n, iv xs, xs.length = n⟩
theorem Gs.toX {w : World} {lo n : Nat} {A : Option Addr} {xs : List Nat} (h : Gs 33 w lo A n xs) : Gx w lo (fx A n xs) := ⟨⟨h.1, h.2.1⟩, h.2.2⟩
theorem Gx.toF {w : World} {lo n : Nat} {A : Option Addr} {xs : List Nat} (h : Gx w lo (fx A n xs)) : Gs 33 w lo A n xs := ⟨h.1.1, h.1.2, h.2⟩
theorem IGs.toX {w : World} {lo n : Nat} {A : Option Addr} {xs : List Int} (h : IGs 2 w lo A n xs) : Gx w lo (ix64 A n xs) := h
theorem Gx.toI {w : World} {lo n : Nat} {A : Option Addr} {xs : List Int} (h : Gx w lo (ix64 A n xs)) : IGs 2 w lo A n xs := h
/-- two lists with something in them lie in two blocks -/
def Dx (p q : Lx) : Prop := 0 < p.n → 0 < q.n → ∀ g o s o' s', p.A = some ⟨g, o, s⟩ → q.A = some ⟨g, o', s'⟩ → False
theorem Dx.symm {p q : Lx} (h : Dx p q) : Dx q p := fun a b g o s o' s' e e' => h b a g o' s' o s e' e
def Hx (B : Nat) (v : World) : List Lx → Prop
  | [] => True
  | p :: r => (Gx v B p ∧ ∀ q ∈ r, Dx p q) ∧ Hx B v r
section
variable {B : Nat} {v v' : World} {p q : Lx} {r : List Lx}
theorem Hx.at_ : ∀ {r : List Lx} (h : Hx B v r) {p : Lx}, p ∈ r → Gx v B p
  | _ :: _, h, _, .head _ => h.1.1
  | _ :: _, h, _, .tail _ hp => Hx.at_ h.2 hp
theorem Hx.since : ∀ {r : List Lx} (h : Hx B v r) (hs : v.Since v.heap.size v'), Hx B v' r
  | [], _, _ => trivial
  | _ :: _, h, hs => ⟨⟨h.1.1.since hs, h.1.2⟩, Hx.since h.2 hs⟩
theorem Hx.new (h : Hx B v r) (hs : v.Since v.heap.size v') (g : Gx v' v.heap.size p) (hB : B ≤ v.heap.size) : Hx B v' (p :: r) :=
  ⟨⟨g.less hB, fun q hq a b c o s o' s' e e' => by
    obtain ⟨g1, e1, h1, h2⟩ := g.block a
    obtain ⟨g2, e2, h3, h4⟩ := (h.at_ hq).block b
    rw [e1] at e; rw [e2] at e'
    injection e with e; injection e with e _ _
    injection e' with e'; injection e' with e' _ _
    omega⟩, h.since hs⟩
theorem Hx.new2 (h : Hx B v r) (hs : v.Since v.heap.size v') (g : Gx v' v.heap.size p) (k : Gx v' v.heap.size q) (hd : Dx p q) (hB : B ≤ v.heap.size) : Hx B v' (p :: q :: r) := by
  have h1 := h.new hs g hB
  have h2 := h.new hs k hB
  refine ⟨⟨h1.1.1, fun s hs => ?_⟩, h2⟩
  rcases List.mem_cons.1 hs with rfl | hs
  · exact hd
  · exact h1.1.2 s hs
/-- what a mark leaves: this list's cells, all else as it was -/
theorem Hx.mark_hd {p' : Lx} (h : Hx B v (p :: r)) (g : Gx v' B p') (hA : p'.A = p.A) (hN : p'.n = p.n) (ho : ∀ g, (0 < p.n → ∀ g', p.A = some ⟨g', 0, none⟩ → g ≠ g') → v'.heap[g]? = v.heap[g]?) : Hx B v' (p' :: r) := by
  refine ⟨⟨g, fun q hq a b g o s o' s' e e' => h.1.2 q hq (hN ▸ a) b g o s o' s' (hA ▸ e) e'⟩, ?_⟩
  have hd := h.1.2
  have ht := h.2
  clear h
  induction r with
  | nil => trivial
  | cons q r ih =>
    refine ⟨⟨?_, ht.1.2⟩, ih (fun q' hq' => hd q' (.tail _ hq')) ht.2⟩
    have hq := ht.1.1
    refine ⟨hq.1, fun hn => ?_⟩
    obtain ⟨b, cs, e, hb, hh, hc⟩ := hq.2 hn
    refine ⟨b, cs, e, hb, (ho b fun hp g' e' he => ?_).trans hh, hc⟩
    subst he
    exact hd q (.head _) hp hn b 0 none 0 none e' e
theorem Hx.swap (h : Hx B v (p :: q :: r)) : Hx B v (q :: p :: r) := by
  obtain ⟨⟨h1, h2⟩, ⟨h3, h4⟩, h5⟩ := h
  refine ⟨⟨h3, fun s hs => ?_⟩, ⟨h1, fun s hs => h2 s (.tail _ hs)⟩, h5⟩
  rcases List.mem_cons.1 hs with rfl | hs
  · exact (h2 q (.head _)).symm
  · exact h4 s hs
theorem Hx.front {l : List Lx} : ∀ (k : List Lx), Hx B v (k ++ p :: l) → Hx B v (p :: (k ++ l))
  | [], h => h
  | q :: k, h => by
    have h2 : Hx B v (p :: (k ++ l)) := Hx.front k h.2
    have h3 : Hx B v (q :: p :: (k ++ l)) := ⟨⟨h.1.1, fun s hs => h.1.2 s (by
      rcases List.mem_cons.1 hs with rfl | hs
      · simp
      · rcases List.mem_append.1 hs with h4 | h4
        · simp [h4]
        · simp [h4])⟩, h2⟩
    exact h3.swap
end
end Fl
open Fl Go.RowKit
end Go.Proofs.Ytflpackchlpedaa
