/- Lists of int64 as a law holds them: copied, compared, marked. -/
import Derived.Test.YtflpackchlpedaaSg
import Derived.Test.YtflpackchlpedaaLq
set_option linter.unusedVariables false
set_option linter.unusedSimpArgs false
namespace Go.Proofs.Ytflpackchlpedaa
namespace Fl
def wi (xs : List Int) (j : Nat) : Int := xs.getD j 0
def iv (xs : List Int) (j : Nat) : Value := .int .i64 (wi xs j)
def mki (k n : Nat) : List Int := (List.range n).map fun j => ((k + j : Nat) : Int)
theorem mki_wi {k n j : Nat} (h : j < n) : wi (mki k n) j = ((k + j : Nat) : Int) := by unfold wi mki; simp [h]
theorem mki_len (k n : Nat) : (mki k n).length = n := by unfold mki; simp
def Is (w : World) (B : Nat) (A : Option Addr) (n : Nat) (xs : List Int) : Prop :=
  xs.length = n ∧ (0 < n → ∃ g off, A = some ⟨g, off, none⟩ ∧ g < B ∧ ∀ k, k < n → w.cell? ⟨g, off + k, none⟩ = some (iv xs k))

theorem Is.keep {w w' : World} {B : Nat} {A : Option Addr} {n : Nat} {xs : List Int} (h : Is w B A n xs) (hk : ∀ g o, g < B → w'.cell? ⟨g, o, none⟩ = w.cell? ⟨g, o, none⟩) : Is w' B A n xs :=
  ⟨h.1, fun hn => by
    obtain ⟨g, off, e, hg, hc⟩ := h.2 hn
    exact ⟨g, off, e, hg, fun k hk' => (hk g _ hg).trans (hc k hk')⟩⟩
theorem Is.more {w : World} {B B' : Nat} {A : Option Addr} {n : Nat} {xs : List Int} (h : Is w B A n xs) (hB : B ≤ B') : Is w B' A n xs :=
  ⟨h.1, fun hn => by
    obtain ⟨g, off, e, hg, hc⟩ := h.2 hn
    exact ⟨g, off, e, by omega, hc⟩⟩
theorem Is.since {w w' : World} {B : Nat} {A : Option Addr} {n : Nat} {xs : List Int} (h : Is w B A n xs) (hs : w.Since B w') : Is w' B A n xs :=
  h.keep fun g o hg => hs.cell (a := ⟨g, o, none⟩) hg
theorem Is.drewN {w : World} {B : Nat} {A : Option Addr} {n : Nat} {xs : List Int} (h : Is w B A n xs) (k : Nat) : Is (w.drewN k) B A n xs := h
theorem Is.now {w w1 : World} {A : Option Addr} {n : Nat} {xs : List Int} (h : Is w w.heap.size A n xs) (s : w.Since w.heap.size w1) : Is w1 w1.heap.size A n xs := (h.since s).more s.size
theorem Is.of_row {w : World} {g : Nat} {t : TypeId} {n : Nat} {xs : List Int} {B : Nat} (h : w.rowIs g t n (iv xs)) (hl : xs.length = n) (hg : g < B) : Is w B (some ⟨g, 0, none⟩) n xs :=
  ⟨hl, fun _ => ⟨g, 0, rfl, hg, fun k hk => by rw [Nat.zero_add]; exact h.cell hk⟩⟩

def IGs (T : TypeId) (w : World) (lo : Nat) (A : Option Addr) (n : Nat) (xs : List Int) : Prop :=
  xs.length = n ∧ (0 < n → ∃ g cs, A = some ⟨g, 0, none⟩ ∧ lo ≤ g ∧ w.heap[g]? = some (.cells cs T (0, 0)) ∧ ∀ k, k < n → cs[k]? = some (iv xs k))
section
variable {T : TypeId} {w w' : World} {lo n : Nat} {A : Option Addr} {xs : List Int}
theorem IGs.read (h : IGs T w lo A n xs) : Is w w.heap.size A n xs :=
  ⟨h.1, fun hn => by
    obtain ⟨g, cs, e, hg, hb, hc⟩ := h.2 hn
    refine ⟨g, 0, e, (Array.getElem?_eq_some_iff.1 hb).1, fun k hk => ?_⟩
    simp only [World.cell?, hb, Nat.zero_add]
    simpa using hc k hk⟩
theorem IGs.since (h : IGs T w lo A n xs) (hs : w.Since w.heap.size w') : IGs T w' lo A n xs :=
  ⟨h.1, fun hn => by
    obtain ⟨g, cs, e, hg, hb, hc⟩ := h.2 hn
    exact ⟨g, cs, e, hg, (hs.block g (Array.getElem?_eq_some_iff.1 hb).1).trans hb, hc⟩⟩
theorem IGs.drewN (h : IGs T w lo A n xs) (k : Nat) : IGs T (w.drewN k) lo A n xs := h
theorem IGs.less (h : IGs T w lo A n xs) {l : Nat} (hl : l ≤ lo) : IGs T w l A n xs :=
  ⟨h.1, fun hn => by
    obtain ⟨g, cs, e, hg, hb, hc⟩ := h.2 hn
    exact ⟨g, cs, e, by omega, hb, hc⟩⟩
theorem IGs.of_row {g : Nat} (h : w.rowIs g T n (iv xs)) (hl : xs.length = n) (hg : lo ≤ g) : IGs T w lo (some ⟨g, 0, none⟩) n xs :=
  ⟨hl, fun _ => by
    obtain ⟨cs, hb, _, hc⟩ := h
    exact ⟨g, cs, rfl, hg, hb, hc⟩⟩
theorem IGs.nil_ : IGs T w lo none 0 [] := ⟨rfl, (fun h => by omega)⟩
end
end Fl
open Fl Go.RowKit
theorem Try.infoI : (Try.prog.info? 2).map (fun i => (i.zero, i.size, i.bytes)) = some (some (.int .i64 0), 1, 8) := by kernel_rfl

def ipart (xs : List Int) (k j : Nat) : Value := if j < k then iv xs j else .int .i64 0

def imarked (k : Nat) (xs : List Int) (i j : Nat) : Value := if j < i then .int .i64 ((k + j : Nat) : Int) else iv xs j

end Go.Proofs.Ytflpackchlpedaa
