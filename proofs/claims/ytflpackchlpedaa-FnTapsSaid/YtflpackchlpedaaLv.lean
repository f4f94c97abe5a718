/- Lists that a law holds, apart from one another: looked at, marked, held. -/
import Derived.Test.YtflpackchlpedaaSg
import Derived.Test.YtflpackchlpedaaSb
set_option linter.unusedVariables false
set_option linter.unusedSimpArgs false
namespace Go.Proofs.Ytflpackchlpedaa
namespace Fl
/-- a list: where it lies, how long, its words -/
structure Ls where
  A : Option Addr
  n : Nat
  xs : List Nat
/-- two lists with something in them lie in two blocks -/
def Dj (p q : Ls) : Prop := 0 < p.n → 0 < q.n → ∀ g o s o' s', p.A = some ⟨g, o, s⟩ → q.A = some ⟨g, o', s'⟩ → False
theorem Dj.symm {p q : Ls} (h : Dj p q) : Dj q p := fun a b g o s o' s' e e' => h b a g o' s' o s e' e
/-- the lists of a law, from block B on -/
def Lv (T : TypeId) (B : Nat) (v : World) : List Ls → Prop
  | [] => True
  | p :: r => (Gs T v B p.A p.n p.xs ∧ ∀ q ∈ r, Dj p q) ∧ Lv T B v r
section
variable {T : TypeId} {B : Nat} {v v' : World} {p q : Ls} {r : List Ls}
theorem Lv.hd (h : Lv T B v (p :: r)) : Gs T v B p.A p.n p.xs := h.1.1
theorem Lv.tl (h : Lv T B v (p :: r)) : Lv T B v r := h.2
theorem Lv.at_ : ∀ {r : List Ls} (h : Lv T B v r) {p : Ls}, p ∈ r → Gs T v B p.A p.n p.xs
  | _ :: _, h, _, .head _ => h.1.1
  | _ :: _, h, _, .tail _ hp => Lv.at_ h.2 hp
theorem Lv.read (h : Lv T B v r) (hp : p ∈ r) : Fs v v.heap.size p.A p.n p.xs := (h.at_ hp).read
theorem Lv.since : ∀ {r : List Ls} (h : Lv T B v r) (hs : v.Since v.heap.size v'), Lv T B v' r
  | [], _, _ => trivial
  | _ :: _, h, hs => ⟨⟨h.1.1.since hs, h.1.2⟩, Lv.since h.2 hs⟩
theorem Gs.lt {n : Nat} {A : Option Addr} {xs : List Nat} (h : Gs T v B A n xs) (hn : 0 < n) {g o : Nat} {s : Option (List Nat)} : True := trivial
theorem Gs.block {n : Nat} {A : Option Addr} {xs : List Nat} (h : Gs T v B A n xs) (hn : 0 < n) : ∃ g, A = some ⟨g, 0, none⟩ ∧ B ≤ g ∧ g < v.heap.size := by
  obtain ⟨g, cs, e, hg, hb, _⟩ := h.2.2 hn
  exact ⟨g, e, hg, (Array.getElem?_eq_some_iff.1 hb).1⟩
/-- a list in a newer block is apart from all that there were -/
theorem Lv.new (h : Lv T B v r) (hs : v.Since v.heap.size v') {A : Option Addr} {n : Nat} {xs : List Nat} (g : Gs T v' v.heap.size A n xs) (hB : B ≤ v.heap.size) : Lv T B v' (⟨A, n, xs⟩ :: r) :=
  ⟨⟨g.less hB, fun q hq a b c o s o' s' e e' => by
    obtain ⟨g1, e1, h1, h2⟩ := g.block a
    obtain ⟨g2, e2, h3, h4⟩ := (h.at_ hq).block b
    simp only at e e1
    rw [e1] at e; rw [e2] at e'
    injection e with e; injection e with e _ _
    injection e' with e'; injection e' with e' _ _
    omega⟩, h.since hs⟩
theorem Lv.new2 (h : Lv T B v r) (hs : v.Since v.heap.size v') {A C : Option Addr} {n m : Nat} {xs ys : List Nat} (g : Gs T v' v.heap.size A n xs) (k : Gs T v' v.heap.size C m ys) (hd : Dj ⟨A, n, xs⟩ ⟨C, m, ys⟩) (hB : B ≤ v.heap.size) :
    Lv T B v' (⟨A, n, xs⟩ :: ⟨C, m, ys⟩ :: r) := by
  have h1 := h.new hs g hB
  have h2 := h.new hs k hB
  refine ⟨⟨h1.1.1, fun q hq => ?_⟩, h2⟩
  rcases List.mem_cons.1 hq with rfl | hq
  · exact hd
  · exact h1.1.2 q hq
/-- what a mark leaves: this list's words, all else as it was -/
theorem Lv.mark_hd {xs' : List Nat} (h : Lv T B v (p :: r)) (g : Gs T v' B p.A p.n xs') (ho : ∀ g, (0 < p.n → ∀ g', p.A = some ⟨g', 0, none⟩ → g ≠ g') → v'.heap[g]? = v.heap[g]?) : Lv T B v' (⟨p.A, p.n, xs'⟩ :: r) := by
  refine ⟨⟨g, fun q hq => h.1.2 q hq⟩, ?_⟩
  have hd := h.1.2
  have ht := h.2
  clear h
  induction r with
  | nil => trivial
  | cons q r ih =>
    refine ⟨⟨?_, ht.1.2⟩, ih (fun q' hq' => hd q' (.tail _ hq')) ht.2⟩
    have hq := ht.1.1
    refine ⟨hq.1, hq.2.1, fun hn => ?_⟩
    obtain ⟨b, cs, e, hb, hh, hc⟩ := hq.2.2 hn
    refine ⟨b, cs, e, hb, (ho b fun hp g' e' he => ?_).trans hh, hc⟩
    subst he
    exact hd q (.head _) hp hn b 0 none 0 none e' e
theorem Dj.cong {xs' : List Nat} (h : Dj q p) : Dj q ⟨p.A, p.n, xs'⟩ := h
/-- the list at some place of the others is brought to the front -/
theorem Lv.swap (h : Lv T B v (p :: q :: r)) : Lv T B v (q :: p :: r) := by
  obtain ⟨⟨h1, h2⟩, ⟨h3, h4⟩, h5⟩ := h
  refine ⟨⟨h3, fun s hs => ?_⟩, ⟨h1, fun s hs => h2 s (.tail _ hs)⟩, h5⟩
  rcases List.mem_cons.1 hs with rfl | hs
  · exact (h2 q (.head _)).symm
  · exact h4 s hs
theorem Lv.front {l : List Ls} : ∀ (k : List Ls), Lv T B v (k ++ p :: l) → Lv T B v (p :: (k ++ l))
  | [], h => h
  | q :: k, h => by
    have h2 : Lv T B v (p :: (k ++ l)) := Lv.front k h.2
    have h3 : Lv T B v (q :: p :: (k ++ l)) := ⟨⟨h.1.1, fun s hs => h.1.2 s (by
      rcases List.mem_cons.1 hs with rfl | hs
      · simp
      · rcases List.mem_append.1 hs with h4 | h4
        · simp [h4]
        · simp [h4])⟩, h2⟩
    exact h3.swap
theorem Lv.drop1 (h : Lv T B v (p :: r)) : Lv T B v r := h.2
end
/-- a list that a call from w to w' has made -/
def Made (T : TypeId) (w w' : World) (p : Ls) : Prop := Gs T w' w.heap.size p.A p.n p.xs
/-- the words of a list stand for these -/
def Are (p : Ls) (f : Nat → Option Nat) : Prop := ∀ k, k < p.n → ab .f32 (wd p.xs k) = f k
theorem since_up {W v v' : World} (h : W.Since W.heap.size v) (k : v.Since v.heap.size v') : W.Since W.heap.size v' := since_step h k
theorem since_mark {W v v' : World} (h : W.Since W.heap.size v) (k : v.Since W.heap.size v') : W.Since W.heap.size v' := h.trans k
/-- nothing but draws -/
def Qt (w w' : World) : Prop := w.Since w.heap.size w'
end Fl
open Fl Go.RowKit
end Go.Proofs.Ytflpackchlpedaa
