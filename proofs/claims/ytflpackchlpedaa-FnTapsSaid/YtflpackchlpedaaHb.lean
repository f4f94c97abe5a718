/- Boxes of a law; two lists given back. -/
import Derived.Test.YtflpackchlpedaaHa
set_option linter.unusedVariables false
set_option linter.unusedSimpArgs false
namespace Go.Proofs.Ytflpackchlpedaa
open Fl Go.RowKit
/-- a struct in a box of its own -/
def bxv (T : TypeId) (g : Nat) (vs : List Value) : En := ⟨fun w => w.heap[g]? = some (.cells vs.toArray T (0, 0)), fun b => b = g⟩
def bxf (T : TypeId) (g : Nat) (xs : List Nat) : En := bxv T g (xs.map fun x => Value.float .f32 x)
theorem Fl.Ge.boxv {w : World} {T : TypeId} {lo g : Nat} {vs : List Value} (h : Ge lo w (bxv T g vs)) (i : Nat) (v : Value) (hi : vs[i]? = some v) : w.cell? ⟨g, i, none⟩ = some v := by
  have h1 : w.heap[g]? = some (.cells vs.toArray T (0, 0)) := h.1
  simp only [World.cell?, h1]
  simpa using hi
theorem Fl.Ge.box {w : World} {T : TypeId} {lo g : Nat} {xs : List Nat} (h : Ge lo w (bxf T g xs)) (i : Nat) (hi : i < xs.length) : w.cell? ⟨g, i, none⟩ = some (.float .f32 (wd xs i)) :=
  Ge.boxv h i _ (by rw [List.getElem?_map, List.getElem?_eq_getElem hi]; simp [wd, List.getD_eq_getElem?_getD, List.getElem?_eq_getElem hi])
theorem boxv_ge (v : World) (T : TypeId) (vs : List Value) : Ge v.heap.size (v.alloc (.cells vs.toArray T)) (bxv T v.heap.size vs) :=
  ⟨Go.Deep.blk_alloc_new _ _, fun w w' h hp => (h _ rfl).trans hp, fun g hg => by
    have hg' : g = v.heap.size := hg
    subst hg'
    exact ⟨Nat.le_refl _, by simp⟩⟩
theorem boxw (v : World) (T : TypeId) (vs : List Value) : ∃ V, V = v.alloc (.cells vs.toArray T) ∧ v.Since v.heap.size V ∧ Ge v.heap.size V (bxv T v.heap.size vs) :=
  ⟨_, rfl, (World.Since.refl _ _).alloc (Nat.le_refl _) _, boxv_ge v T vs⟩
theorem boxe (v : World) (T : TypeId) (xs : List Nat) : ∃ V, V = v.alloc (.cells (xs.map fun x => Value.float .f32 x).toArray T) ∧ v.Since v.heap.size V ∧ Ge v.heap.size V (bxf T v.heap.size xs) :=
  boxw v T _
def PEB (n0 : Nat) (f0 : Nat → O) (b : Bool) (w : World) (e : Ending) (w' : World) : Prop :=
  ∃ (p : Ls) (c : Nat), e = .returned (.tuple #[.slice p.A p.n c, .bool b]) ∧ p.n = n0 ∧ Ge w.heap.size w' (fe p.A p.n p.xs) ∧ Are p f0 ∧ w.Since w.heap.size w'
theorem PEB.none_ {w w' : World} (s : w.Since w.heap.size w') (f0 : Nat → O) : PEB 0 f0 false w (.returned (.tuple #[.slice none 0 0, .bool false])) w' :=
  ⟨⟨none, 0, []⟩, 0, rfl, rfl, Gs.nil_.toE, (fun k hk => by simp at hk), s⟩
theorem PLB.toE {n0 : Nat} {f0 : Nat → O} {b : Bool} {w w' : World} {e : Ending} (h : PLB n0 f0 b w e w') : PEB n0 f0 b w e w' := by
  obtain ⟨p, c, h1, h2, h3, h4, h5⟩ := h
  exact ⟨p, c, h1, h2, h3.toE, h4, h5⟩
/-- two lists and a yes or no -/
def PEEB (n0 : Nat) (f0 : Nat → O) (n1 : Nat) (f1 : Nat → O) (b : Bool) (w : World) (e : Ending) (w' : World) : Prop :=
  ∃ (p q : Ls) (c d : Nat), e = .returned (.tuple #[.slice p.A p.n c, .slice q.A q.n d, .bool b]) ∧ p.n = n0 ∧ q.n = n1 ∧ Ge w.heap.size w' (fe p.A p.n p.xs) ∧ Ge w.heap.size w' (fe q.A q.n q.xs) ∧ Are p f0 ∧ Are q f1 ∧ De (fe p.A p.n p.xs) (fe q.A q.n q.xs) ∧ w.Since w.heap.size w'
theorem PEEB.none_ {w w' : World} (s : w.Since w.heap.size w') (f0 f1 : Nat → O) : PEEB 0 f0 0 f1 false w (.returned (.tuple #[.slice none 0 0, .slice none 0 0, .bool false])) w' :=
  ⟨⟨none, 0, []⟩, ⟨none, 0, []⟩, 0, 0, rfl, rfl, rfl, Gs.nil_.toE, Gs.nil_.toE, (fun k hk => by simp at hk), (fun k hk => by simp at hk), (fun g h _ => by simp [fe, ce] at h), s⟩
end Go.Proofs.Ytflpackchlpedaa
