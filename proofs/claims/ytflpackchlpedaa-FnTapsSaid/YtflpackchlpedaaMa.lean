/- Lists of structs, whatever their cells: read, in a block of a law's own, written row by row. -/
import Derived.Test.YtflpackchlpedaaHa
import Derived.Test.YtflpackchlpedaaLw
set_option linter.unusedVariables false
set_option linter.unusedSimpArgs false
namespace Go.Proofs.Ytflpackchlpedaa
namespace Fl
section
variable {α : Type} {cells : α → List Value} {s : Nat}
/-- cell j of a list whose elements are e 0, e 1 .., of s cells each -/
def ceL (cells : α → List Value) (s : Nat) (e : Nat → α) (j : Nat) : Value := (cells (e (j / s))).getD (j % s) undef
theorem ceL_at (e : Nat → α) {k f : Nat} (hf : f < s) : ceL cells s e (k * s + f) = (cells (e k)).getD f undef := by
  unfold ceL
  have h1 : (k * s + f) / s = k := by rw [Nat.mul_comm, Nat.mul_add_div (by omega), Nat.div_eq_of_lt hf, Nat.add_zero]
  have h2 : (k * s + f) % s = f := by rw [Nat.mul_comm, Nat.mul_add_mod, Nat.mod_eq_of_lt hf]
  rw [h1, h2]
def upd (e : Nat → α) (k : Nat) (y : α) (i : Nat) : α := if i = k then y else e i
theorem ceL_upd (e : Nat → α) (k : Nat) (y : α) (hs : 0 < s) (j : Nat) : ceL cells s (upd e k y) j = if k * s ≤ j ∧ j < k * s + s then (cells y).getD (j - k * s) undef else ceL cells s e j := by
  unfold ceL upd
  have hd := Nat.div_add_mod j s
  have hm := Nat.mod_lt j hs
  by_cases h : j / s = k
  · rw [if_pos h]
    rw [h, Nat.mul_comm] at hd
    rw [if_pos ⟨by omega, by omega⟩]
    congr 1
    omega
  · rw [if_neg h, if_neg ?_]
    rintro ⟨h1, h2⟩
    exact h ((Nat.div_eq_iff hs).2 ⟨by omega, by omega⟩)
/-- a list of structs that can be read -/
def Rs (cells : α → List Value) (s : Nat) (w : World) (B : Nat) (A : Option Addr) (n : Nat) (e : Nat → α) : Prop :=
  0 < n → ∃ g off, A = some ⟨g, off, none⟩ ∧ g < B ∧ ∀ k, k < n * s → w.cell? ⟨g, off + k, none⟩ = some (ceL cells s e k)
theorem Rs.keep {w w' : World} {B n : Nat} {A : Option Addr} {e : Nat → α} (h : Rs cells s w B A n e) (hk : ∀ g o, g < B → w'.cell? ⟨g, o, none⟩ = w.cell? ⟨g, o, none⟩) : Rs cells s w' B A n e := fun hn => by
  obtain ⟨g, off, ea, hg, hc⟩ := h hn
  exact ⟨g, off, ea, hg, fun k hk' => (hk g _ hg).trans (hc k hk')⟩
theorem Rs.more {w : World} {B B' n : Nat} {A : Option Addr} {e : Nat → α} (h : Rs cells s w B A n e) (hB : B ≤ B') : Rs cells s w B' A n e := fun hn => by
  obtain ⟨g, off, ea, hg, hc⟩ := h hn
  exact ⟨g, off, ea, by omega, hc⟩
theorem Rs.since {w w' : World} {B n : Nat} {A : Option Addr} {e : Nat → α} (h : Rs cells s w B A n e) (hs : w.Since B w') : Rs cells s w' B A n e :=
  h.keep fun g o hg => hs.cell (a := ⟨g, o, none⟩) hg
theorem Rs.now {w w1 : World} {A : Option Addr} {n : Nat} {e : Nat → α} (h : Rs cells s w w.heap.size A n e) (k : w.Since w.heap.size w1) : Rs cells s w1 w1.heap.size A n e := (h.since k).more k.size
theorem row_lt {n k f : Nat} (hk : k < n) (hf : f < s) : k * s + f < n * s := by
  have := Nat.mul_le_mul_right s (show k + 1 ≤ n from hk)
  rw [Nat.succ_mul] at this
  omega
/-- field f of element k -/
theorem Rs.at_ {w : World} {B n : Nat} {A : Option Addr} {e : Nat → α} (h : Rs cells s w B A n e) {k : Nat} (hk : k < n) : ∃ g off, A = some ⟨g, off, none⟩ ∧ g < B ∧ ∀ f, f < s → w.cell? ⟨g, off + k * s + f, none⟩ = some ((cells (e k)).getD f undef) := by
  obtain ⟨g, off, ea, hg, hc⟩ := h (by omega)
  exact ⟨g, off, ea, hg, fun f hf => by rw [Nat.add_assoc, hc _ (row_lt hk hf), ceL_at e hf]⟩
theorem Rs.range {w : World} {B n : Nat} {A : Option Addr} {e : Nat → α} (h : Rs cells s w B A n e) {k : Nat} (hk : k < n) (hl : (cells (e k)).length = s) : ∃ g off, A = some ⟨g, off, none⟩ ∧ g < B ∧ w.rangeAt g (off + k * s) (cells (e k)) := by
  obtain ⟨g, off, ea, hg, hc⟩ := h.at_ hk
  refine ⟨g, off, ea, hg, fun j v hj => ?_⟩
  have hjl := (List.getElem?_eq_some_iff.1 hj).1
  rw [hc j (by omega)]
  simp [List.getD_eq_getElem?_getD, hj]
/-- such a list as an entry -/
def se (cells : α → List Value) (s : Nat) (T : TypeId) (A : Option Addr) (n : Nat) (e : Nat → α) : En := ce T A (n * s) (ceL cells s e) True
theorem Ge.readS {w : World} {lo n : Nat} {T : TypeId} {A : Option Addr} {e : Nat → α} (hs : 0 < s) (h : Ge lo w (se cells s T A n e)) : Rs cells s w w.heap.size A n e := fun hn => by
  obtain ⟨g, off, cs, ea, hg, hl, hb, hc⟩ := h.ce (Nat.mul_pos hn hs)
  refine ⟨g, off, ea, hl, fun k hk => ?_⟩
  simp only [World.cell?, hb]
  simpa using hc k hk
/-- cells of a block of one's own -/
def GF (w : World) (g : Nat) (T : TypeId) (m : Nat) (f : Nat → Value) : Prop := ∃ cs, w.heap[g]? = some (.cells cs T (0, 0)) ∧ ∀ j, j < m → cs[j]? = some (f j)
theorem GF.cell {w : World} {g m : Nat} {T : TypeId} {f : Nat → Value} (h : GF w g T m f) {j : Nat} (hj : j < m) : w.cell? ⟨g, j, none⟩ = some (f j) := by
  obtain ⟨cs, hb, hc⟩ := h
  simp only [World.cell?, hb]
  simpa using hc j hj
theorem GF.free {w : World} {g m : Nat} {T : TypeId} {f : Nat → Value} (h : GF w g T m f) (j : Nat) : w.frozen? ⟨g, j, none⟩ = false := by
  obtain ⟨cs, hb, hc⟩ := h
  simp [World.frozen?, hb]
theorem GF.set {w : World} {g m : Nat} {T : TypeId} {f : Nat → Value} (h : GF w g T m f) (k : Nat) (v : Value) : GF (w.setCell ⟨g, k, none⟩ v) g T m (fun j => if j = k then v else f j) := by
  obtain ⟨cs, hb, hc⟩ := h
  refine ⟨cs.setIfInBounds k v, by simp [World.setCell, Array.getElem?_modify, hb], fun j hj => ?_⟩
  have hsz : j < cs.size := (Array.getElem?_eq_some_iff.1 (hc j hj)).1
  rw [Array.getElem?_setIfInBounds]
  show _ = some (if j = k then v else f j)
  by_cases e : k = j
  · subst e; rw [if_pos rfl, if_pos rfl, if_pos hsz]
  · rw [if_neg e, if_neg (fun h => e h.symm)]; exact hc j hj
theorem GF.congr {w : World} {g m : Nat} {T : TypeId} {f f' : Nat → Value} (h : GF w g T m f) (e : ∀ j, j < m → f j = f' j) : GF w g T m f' := by
  obtain ⟨cs, hb, hc⟩ := h
  exact ⟨cs, hb, fun j hj => (hc j hj).trans (congrArg some (e j hj))⟩
theorem GF.of {w w' : World} {g m : Nat} {T : TypeId} {f : Nat → Value} (h : GF w g T m f) (e : w'.heap[g]? = w.heap[g]?) : GF w' g T m f := by
  obtain ⟨cs, hb, hc⟩ := h
  exact ⟨cs, e.trans hb, hc⟩
theorem GF.lt {w : World} {g m : Nat} {T : TypeId} {f : Nat → Value} (h : GF w g T m f) : g < w.heap.size := by
  obtain ⟨cs, hb, hc⟩ := h
  exact (Array.getElem?_eq_some_iff.1 hb).1
theorem GF.entry {w : World} {g n lo : Nat} {T : TypeId} {e : Nat → α} (h : GF w g T (n * s) (ceL cells s e)) (hl : lo ≤ g) : Ge lo w (se cells s T (some ⟨g, 0, none⟩) n e) := by
  obtain ⟨cs, hb, hc⟩ := h
  exact ce_ge trivial fun hn => ⟨g, 0, cs, rfl, hl, hb, fun k hk => by rw [Nat.zero_add]; exact hc k hk⟩
theorem GF.made (w : World) (T : TypeId) (zs : Array Value) (z : α) (n : Nat) (hz : (cells z).toArray = zs) (hs : zs.size = s) (hp : 0 < s) : GF (w.alloc (.cells (madeCells zs (n * s)) T)) w.heap.size T (n * s) (ceL cells s fun _ => z) := by
  refine ⟨_, Go.Deep.blk_alloc_new _ _, fun j hj => ?_⟩
  unfold madeCells ceL
  subst hz
  have hm : j % s < (cells z).length := by rw [← List.size_toArray, hs]; exact Nat.mod_lt _ hp
  simp [hj]
  simp only [List.size_toArray] at hs
  rw [hs]
  simp [List.getD_eq_getElem?_getD, List.getElem?_eq_getElem hm]
end
end Fl
end Go.Proofs.Ytflpackchlpedaa
