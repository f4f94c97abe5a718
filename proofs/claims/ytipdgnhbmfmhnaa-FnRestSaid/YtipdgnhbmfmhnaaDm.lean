/- Delays: the model's run. -/
import Derived.Test.YtipdgnhbmfmhnaaDl
set_option linter.unusedVariables false
set_option linter.unusedSimpArgs false
namespace Go.Proofs.Ytipdgnhbmfmhnaa
open Fl Go.RowKit
/-- two lists and a yes -/
def PLLB (n0 : Nat) (f0 : Nat → Option Nat) (n1 : Nat) (f1 : Nat → Option Nat) (b : Bool) (w : World) (e : Ending) (w' : World) : Prop :=
  ∃ (p q : Ls) (c d : Nat), e = .returned (.tuple #[.slice p.A p.n c, .slice q.A q.n d, .bool b]) ∧ p.n = n0 ∧ q.n = n1 ∧ Gs 24 w' w.heap.size p.A p.n p.xs ∧ Gs 24 w' w.heap.size q.A q.n q.xs ∧ Are p f0 ∧ Are q f1 ∧ Dj p q ∧ w.Since w.heap.size w'
theorem PLLB.none_ {w w' : World} (s : w.Since w.heap.size w') (f0 f1 : Nat → Option Nat) : PLLB 0 f0 0 f1 false w (.returned (.tuple #[.slice none 0 0, .slice none 0 0, .bool false])) w' :=
  ⟨⟨none, 0, []⟩, ⟨none, 0, []⟩, 0, 0, rfl, rfl, rfl, Gs.nil_, Gs.nil_, (fun k hk => by simp at hk), (fun k hk => by simp at hk), (fun h => by simp at h), s⟩
def Sd (fu : Bool) (D : Del) (n : Nat) (xs ys : List Nat) : Nat → O := Ln.st (n - 1) (fun j => ab .f32 (wd xs j)) (DelV fu D) (fun j => ab .f32 (wd ys j))
theorem Sd_old {fu : Bool} {D : Del} {n : Nat} {xs ys : List Nat} {j : Nat} (h : j < n) : Sd fu D n xs ys j = ab .f32 (wd xs j) := Ln.st_old (by omega)
theorem Sd_new {fu : Bool} {D : Del} {n : Nat} {xs ys : List Nat} (hn : 0 < n) (k : Nat) : Sd fu D n xs ys (k + n) = DelV fu D (ab .f32 (wd ys k)) (Sd fu D n xs ys k) := by
  have := Ln.st_new (n := n - 1) (l := fun j => ab .f32 (wd xs j)) (v := DelV fu D) (x := fun j => ab .f32 (wd ys j)) k
  rw [show n - 1 + 1 + k = k + n by omega] at this
  exact this
theorem took_step {n k : Nat} {S : Nat → O} {V : O} (hV : S (k + n) = V) : ∀ i, i < n → took n (fun i => S (k + i)) V i = S (k + 1 + i) := fun i hi => by
  unfold took
  by_cases e : i + 1 < n
  · rw [if_pos e]
    show S (k + (i + 1)) = _
    rw [show k + (i + 1) = k + 1 + i by omega]
  · rw [if_neg e, ← hV, show k + 1 + i = k + n by omega]
theorem Gs.under {T : TypeId} {w w' : World} {lo n g B : Nat} {xs : List Nat} (h : Gs T w lo (some ⟨g, 0, none⟩) n xs) (s : w.Since B w') (hg : g < B) : Gs T w' lo (some ⟨g, 0, none⟩) n xs :=
  ⟨h.1, h.2.1, fun hn => by
    obtain ⟨b, cs, e, hb, hh, hc⟩ := h.2.2 hn
    injection e with e; injection e with e1 _ _; subst e1
    exact ⟨g, cs, rfl, hb, (s.block g hg).trans hh, hc⟩⟩
theorem since_mono_trans {B g C : Nat} {w a b c : World} (h : w.Since B a) (o : On g a b) (k : b.Since C c) (h1 : B ≤ g) (h2 : B ≤ C) : w.Since B c := (h.trans (o.since h1)).trans (since_mono k h2)
end Go.Proofs.Ytipdgnhbmfmhnaa
