/- Joined: Ma Mc Oa Ra Rm Mm Mn Mo Mp Rv Ms Mt Mu Cl Mv Mz Rn Ro Rp Rq Rs -/
import Derived.Test.YtcpcfgdncinpgaaHa
import Derived.Test.YtcpcfgdncinpgaaLw
import Derived.Test.YtcpcfgdncinpgaaFd
import Derived.Test.YtcpcfgdncinpgaaHb
import Derived.Test.YtcpcfgdncinpgaaSf
import Derived.Test.YtcpcfgdncinpgaaEa
import Derived.StillTailTactics
import Derived.Test.YtcpcfgdncinpgaaEe
import Derived.Test.YtcpcfgdncinpgaaEg
import Derived.Test.YtcpcfgdncinpgaaEo
import Derived.Test.YtcpcfgdncinpgaaEl
import Derived.Test.YtcpcfgdncinpgaaLf
import Derived.Test.YtcpcfgdncinpgaaEc
import Derived.Test.YtcpcfgdncinpgaaTa
import Derived.Lib.SliceRun
import Derived.Maps.AppendAt
/- Lists of structs, whatever their cells: read, in a block of a law's own, written row by row. -/
set_option linter.unusedVariables false
set_option linter.unusedSimpArgs false
namespace Go.Proofs.Ytcpcfgdncinpgaa
namespace Fl
section
variable {α : Type} {cells : α → List Value} {s : Nat}
/-- cell j of a list whose elements are e 0, e 1 .., of s cells each -/
def ceL (cells : α → List Value) (s : Nat) (e : Nat → α) (j : Nat) : Value := (cells (e (j / s))).getD (j % s) undef
theorem ceL_at (e : Nat → α) {k f : Nat} (hf : f < s) : ceL cells s e (k * s + f) = (cells (e k)).getD f undef := by
  unfold ceL
  have h1 : (k * s + f) / s = k := by rw [Nat.mul_comm, Nat.mul_add_div (by omega), Nat.div_eq_of_lt hf, Nat.add_zero]
  have h2 : (k * s + f) % s = f := by rw [Nat.mul_comm, Nat.mul_add_mod, Nat.mod_eq_of_lt hf]
  rw [h1, h2]
def upd (e : Nat → α) (k : Nat) (y : α) (i : Nat) : α := if i = k then y else e i
theorem ceL_upd (e : Nat → α) (k : Nat) (y : α) (hs : 0 < s) (j : Nat) : ceL cells s (upd e k y) j = if k * s ≤ j ∧ j < k * s + s then (cells y).getD (j - k * s) undef else ceL cells s e j := by
  unfold ceL upd
  have hd := Nat.div_add_mod j s
  have hm := Nat.mod_lt j hs
  by_cases h : j / s = k
  · rw [if_pos h]
    rw [h, Nat.mul_comm] at hd
    rw [if_pos ⟨by omega, by omega⟩]
    congr 1
    omega
  · rw [if_neg h, if_neg ?_]
    rintro ⟨h1, h2⟩
    exact h ((Nat.div_eq_iff hs).2 ⟨by omega, by omega⟩)
/-- a list of structs that can be read -/
def Rs (cells : α → List Value) (s : Nat) (w : World) (B : Nat) (A : Option Addr) (n : Nat) (e : Nat → α) : Prop :=
  0 < n → ∃ g off, A = some ⟨g, off, none⟩ ∧ g < B ∧ ∀ k, k < n * s → w.cell? ⟨g, off + k, none⟩ = some (ceL cells s e k)
theorem Rs.keep {w w' : World} {B n : Nat} {A : Option Addr} {e : Nat → α} (h : Rs cells s w B A n e) (hk : ∀ g o, g < B → w'.cell? ⟨g, o, none⟩ = w.cell? ⟨g, o, none⟩) : Rs cells s w' B A n e := fun hn => by
  obtain ⟨g, off, ea, hg, hc⟩ := h hn
  exact ⟨g, off, ea, hg, fun k hk' => (hk g _ hg).trans (hc k hk')⟩
theorem Rs.more {w : World} {B B' n : Nat} {A : Option Addr} {e : Nat → α} (h : Rs cells s w B A n e) (hB : B ≤ B') : Rs cells s w B' A n e := fun hn => by
  obtain ⟨g, off, ea, hg, hc⟩ := h hn
  exact ⟨g, off, ea, by omega, hc⟩
theorem Rs.since {w w' : World} {B n : Nat} {A : Option Addr} {e : Nat → α} (h : Rs cells s w B A n e) (hs : w.Since B w') : Rs cells s w' B A n e :=
  h.keep fun g o hg => hs.cell (a := ⟨g, o, none⟩) hg
theorem Rs.now {w w1 : World} {A : Option Addr} {n : Nat} {e : Nat → α} (h : Rs cells s w w.heap.size A n e) (k : w.Since w.heap.size w1) : Rs cells s w1 w1.heap.size A n e := (h.since k).more k.size
theorem row_lt {n k f : Nat} (hk : k < n) (hf : f < s) : k * s + f < n * s := by
  have := Nat.mul_le_mul_right s (show k + 1 ≤ n from hk)
  rw [Nat.succ_mul] at this
  omega
/-- field f of element k -/
theorem Rs.at_ {w : World} {B n : Nat} {A : Option Addr} {e : Nat → α} (h : Rs cells s w B A n e) {k : Nat} (hk : k < n) : ∃ g off, A = some ⟨g, off, none⟩ ∧ g < B ∧ ∀ f, f < s → w.cell? ⟨g, off + k * s + f, none⟩ = some ((cells (e k)).getD f undef) := by
  obtain ⟨g, off, ea, hg, hc⟩ := h (by omega)
  exact ⟨g, off, ea, hg, fun f hf => by rw [Nat.add_assoc, hc _ (row_lt hk hf), ceL_at e hf]⟩
theorem Rs.range {w : World} {B n : Nat} {A : Option Addr} {e : Nat → α} (h : Rs cells s w B A n e) {k : Nat} (hk : k < n) (hl : (cells (e k)).length = s) : ∃ g off, A = some ⟨g, off, none⟩ ∧ g < B ∧ w.rangeAt g (off + k * s) (cells (e k)) := by
  obtain ⟨g, off, ea, hg, hc⟩ := h.at_ hk
  refine ⟨g, off, ea, hg, fun j v hj => ?_⟩
  have hjl := (List.getElem?_eq_some_iff.1 hj).1
  rw [hc j (by omega)]
  simp [List.getD_eq_getElem?_getD, hj]
/-- such a list as an entry -/
def se (cells : α → List Value) (s : Nat) (T : TypeId) (A : Option Addr) (n : Nat) (e : Nat → α) : En := ce T A (n * s) (ceL cells s e) True
theorem Ge.readS {w : World} {lo n : Nat} {T : TypeId} {A : Option Addr} {e : Nat → α} (hs : 0 < s) (h : Ge lo w (se cells s T A n e)) : Rs cells s w w.heap.size A n e := fun hn => by
  obtain ⟨g, off, cs, ea, hg, hl, hb, hc⟩ := h.ce (Nat.mul_pos hn hs)
  refine ⟨g, off, ea, hl, fun k hk => ?_⟩
  simp only [World.cell?, hb]
  simpa using hc k hk
/-- cells of a block of one's own -/
def GF (w : World) (g : Nat) (T : TypeId) (m : Nat) (f : Nat → Value) : Prop := ∃ cs, w.heap[g]? = some (.cells cs T (0, 0)) ∧ ∀ j, j < m → cs[j]? = some (f j)
theorem GF.cell {w : World} {g m : Nat} {T : TypeId} {f : Nat → Value} (h : GF w g T m f) {j : Nat} (hj : j < m) : w.cell? ⟨g, j, none⟩ = some (f j) := by
  obtain ⟨cs, hb, hc⟩ := h
  simp only [World.cell?, hb]
  simpa using hc j hj
theorem GF.free {w : World} {g m : Nat} {T : TypeId} {f : Nat → Value} (h : GF w g T m f) (j : Nat) : w.frozen? ⟨g, j, none⟩ = false := by
  obtain ⟨cs, hb, hc⟩ := h
  simp [World.frozen?, hb]
theorem GF.set {w : World} {g m : Nat} {T : TypeId} {f : Nat → Value} (h : GF w g T m f) (k : Nat) (v : Value) : GF (w.setCell ⟨g, k, none⟩ v) g T m (fun j => if j = k then v else f j) := by
  obtain ⟨cs, hb, hc⟩ := h
  refine ⟨cs.setIfInBounds k v, by simp [World.setCell, Array.getElem?_modify, hb], fun j hj => ?_⟩
  have hsz : j < cs.size := (Array.getElem?_eq_some_iff.1 (hc j hj)).1
  rw [Array.getElem?_setIfInBounds]
  show _ = some (if j = k then v else f j)
  by_cases e : k = j
  · subst e; rw [if_pos rfl, if_pos rfl, if_pos hsz]
  · rw [if_neg e, if_neg (fun h => e h.symm)]; exact hc j hj
theorem GF.congr {w : World} {g m : Nat} {T : TypeId} {f f' : Nat → Value} (h : GF w g T m f) (e : ∀ j, j < m → f j = f' j) : GF w g T m f' := by
  obtain ⟨cs, hb, hc⟩ := h
  exact ⟨cs, hb, fun j hj => (hc j hj).trans (congrArg some (e j hj))⟩
theorem GF.of {w w' : World} {g m : Nat} {T : TypeId} {f : Nat → Value} (h : GF w g T m f) (e : w'.heap[g]? = w.heap[g]?) : GF w' g T m f := by
  obtain ⟨cs, hb, hc⟩ := h
  exact ⟨cs, e.trans hb, hc⟩
theorem GF.lt {w : World} {g m : Nat} {T : TypeId} {f : Nat → Value} (h : GF w g T m f) : g < w.heap.size := by
  obtain ⟨cs, hb, hc⟩ := h
  exact (Array.getElem?_eq_some_iff.1 hb).1
theorem GF.entry {w : World} {g n lo : Nat} {T : TypeId} {e : Nat → α} (h : GF w g T (n * s) (ceL cells s e)) (hl : lo ≤ g) : Ge lo w (se cells s T (some ⟨g, 0, none⟩) n e) := by
  obtain ⟨cs, hb, hc⟩ := h
  exact ce_ge trivial fun hn => ⟨g, 0, cs, rfl, hl, hb, fun k hk => by rw [Nat.zero_add]; exact hc k hk⟩
theorem GF.made (w : World) (T : TypeId) (zs : Array Value) (z : α) (n : Nat) (hz : (cells z).toArray = zs) (hs : zs.size = s) (hp : 0 < s) : GF (w.alloc (.cells (madeCells zs (n * s)) T)) w.heap.size T (n * s) (ceL cells s fun _ => z) := by
  refine ⟨_, Go.Deep.blk_alloc_new _ _, fun j hj => ?_⟩
  unfold madeCells ceL
  subst hz
  have hm : j % s < (cells z).length := by rw [← List.size_toArray, hs]; exact Nat.mod_lt _ hp
  simp [hj]
  simp only [List.size_toArray] at hs
  rw [hs]
  simp [List.getD_eq_getElem?_getD, List.getElem?_eq_getElem hm]
end
end Fl
end Go.Proofs.Ytcpcfgdncinpgaa

/- Lists of structs that came in. -/
set_option linter.unusedVariables false
set_option linter.unusedSimpArgs false
namespace Go.Proofs.Ytcpcfgdncinpgaa
namespace Fl
open Go.ChangeShapes Go.WideShapes Go.RowKit Go.Deep
section
variable {H : Type} {enc : TypeId × Value → H} {P : Program} {w : World} {base : Nat} {spare : Nat → Bool} {held : Bool}
/-- the cells of a struct whose fields are one cell each -/
theorem row_cells {fuel : Nat} {t : TypeId} {fs : Array Field} {cs : List Value} {x : DataW H × List MemPlace} (hs : P.underlying t = some (.struct fs)) (hone : oneCellFields P fs = true) (hC : P.cellsOf t = fs.size)
    (h : DataW.trod enc P w base spare held fuel t cs = some x) : cs.length = fs.size ∧ ∀ (i : Nat) (f : Field), fs[i]? = some f → ∃ (c : Value) (y : DataW H × List MemPlace) (n : Nat), cs[i]? = some c ∧ DataW.trod enc P w base spare held n f.type [c] = some y := by
  obtain ⟨xs, n, _, hx, hl, hlen, hg⟩ := DataW.trod_struct hs h
  refine ⟨hl.trans hC, fun i f hi => ?_⟩
  obtain ⟨o, k⟩ := hone_of hone i f hi
  have hil : i < fs.size := (Array.getElem?_eq_some_iff.1 hi).1
  have hic : i < cs.length := by rw [hl, hC]; exact hil
  have h1 := hg i f hi
  rw [o, k] at h1
  have hcell : (cs.drop i).take 1 = [cs[i]] := by
    rw [List.drop_eq_getElem_cons hic]
    rfl
  rw [hcell] at h1
  have hxi : i < xs.length := by rw [hlen]; exact hil
  refine ⟨cs[i], xs[i], n, List.getElem?_eq_getElem hic, ?_⟩
  rw [h1, List.getElem?_eq_getElem hxi]
theorem open_ss {α : Type} {cells : α → List Value} {s : Nat} {ok : α → Prop} (z : α) {W : World} {b0 : Nat} {r : Reach} {t e : TypeId} {v : Value} {d : DataW H} {ps : List MemPlace} (ht : P.underlying t = some (.slice e)) (hc : P.cellsOf e = s) (hs : 0 < s)
    (hrow : ∀ (fuel : Nat) (cs : List Value) (x : DataW H × List MemPlace), DataW.trod enc P W base (fun _ => true) true fuel e cs = some x → ∃ y : α, ok y ∧ cells y = cs)
    (hval : Value.okWide P W r b0 t v) (h : DataW.Trod enc P W base (fun _ => true) true t v d ps) :
    ∃ (A : Option Addr) (n c : Nat) (f : Nat → α), v = .slice A n c ∧ Rs cells s W W.heap.size A n f ∧ (∀ k, k < n → ok (f k)) ∧ n ≤ 9223372036854775807 := by
  obtain ⟨A, n, c, rfl⟩ := okWide_slice ht hval
  obtain ⟨fuel, hf⟩ := h
  rcases Go.Deep.open_slice ht hf with ⟨hcs, _⟩ | ⟨a, len, cap, m, k, D, Pl, hcs, _, hl, hm, hmm, _, hi⟩
  · simp only [Value.cells, Array.toList] at hcs
    injection hcs with hcs _
    injection hcs with h1 h2 h3
    subst h1; subst h2; subst h3
    exact ⟨none, 0, 0, fun _ => z, rfl, (fun h => by omega), (fun k h => by omega), by omega⟩
  · simp only [Value.cells, Array.toList] at hcs
    injection hcs with hcs _
    injection hcs with h1 h2 h3
    subst h1; subst h2; subst h3
    rw [if_pos rfl] at hmm
    subst hmm
    have hcell : ∀ i, i < m → ∃ y : α, ok y ∧ (cells y).length = s ∧ ∀ j, j < s → W.cell? ((a.add (i * s)).add j) = (cells y)[j]? := by
      intro i him
      obtain ⟨cs', hcs', htr⟩ := hi i him
      rw [hc] at hcs'
      obtain ⟨_, hlen, hat⟩ := World.cells?_some hcs'
      obtain ⟨y, hy, rfl⟩ := hrow _ _ _ htr
      exact ⟨y, hy, hlen, hat⟩
    let f : Nat → α := fun i => if h : i < m then Classical.choose (hcell i h) else z
    have hfs : ∀ i (h : i < m), ok (f i) ∧ (cells (f i)).length = s ∧ ∀ j, j < s → W.cell? ((a.add (i * s)).add j) = (cells (f i))[j]? := by
      intro i h
      have := Classical.choose_spec (hcell i h)
      simp only [f, dif_pos h]
      exact this
    refine ⟨some a, n, m, f, rfl, ?_, fun k hk => (hfs k (by omega)).1, by unfold maxLen at hm; omega⟩
    intro hn
    obtain ⟨g, off, spot⟩ := a
    obtain ⟨_, l0, h0⟩ := hfs 0 (by omega)
    have h00 := h0 0 hs
    rw [List.getElem?_eq_getElem (by omega)] at h00
    have hspot : spot = none := by simpa [Addr.add] using World.cell?_spot h00
    subst hspot
    refine ⟨g, off, rfl, ?_, fun k hk => ?_⟩
    · have h1 : (W.cell? ⟨g, off, none⟩).isSome := by
        have : W.cell? ⟨g, off, none⟩ = some ((cells (f 0))[0]'(by omega)) := by simpa [Addr.add] using h00
        rw [this]; rfl
      rcases Nat.lt_or_ge g W.heap.size with h2 | h2
      · exact h2
      · simp [World.cell?, Array.getElem?_eq_none h2] at h1
    · have hkn : k / s < n := (Nat.div_lt_iff_lt_mul hs).2 hk
      have hks := Nat.mod_lt k hs
      obtain ⟨_, l1, h1⟩ := hfs (k / s) (by omega)
      have h2 := h1 (k % s) hks
      rw [Go.WideShapes.add_plain, Go.WideShapes.add_plain, Nat.add_assoc, show k / s * s + k % s = k by rw [Nat.mul_comm]; exact Nat.div_add_mod k s] at h2
      rw [h2]
      unfold ceL
      rw [List.getD_eq_getElem?_getD, List.getElem?_eq_getElem (by omega)]
      rfl
end
end Fl
end Go.Proofs.Ytcpcfgdncinpgaa

/- Lists of structs that hold lists: as entries of a law, and as they come in. -/
set_option linter.unusedVariables false
set_option linter.unusedSimpArgs false
namespace Go.Proofs.Ytcpcfgdncinpgaa
namespace Fl
section
variable {α : Type} {cells : α → List Value} {s : Nat} {T : TypeId} {inner : α → En} {B n : Nat} {A : Option Addr} {e : Nat → α} {w w' : World}
/-- what an entry says is kept where its blocks are -/
def Fr_ (p : En) : Prop := ∀ w w' : World, (∀ g, p.S g → w'.heap[g]? = w.heap[g]?) → p.P w → p.P w'
/-- no list of an element lies with another one, or with the elements -/
def Alone (T : TypeId) (cells : α → List Value) (s : Nat) (inner : α → En) (A : Option Addr) (n : Nat) (e : Nat → α) : Prop :=
  (∀ k, k < n → De (se cells s T A n e) (inner (e k))) ∧ ∀ j k, j < n → k < n → j ≠ k → De (inner (e j)) (inner (e k))
def ne (cells : α → List Value) (s : Nat) (T : TypeId) (inner : α → En) (A : Option Addr) (n : Nat) (e : Nat → α) : En :=
  ⟨fun w => (se cells s T A n e).P w ∧ (∀ k, k < n → (inner (e k)).P w) ∧ Alone T cells s inner A n e, fun g => (se cells s T A n e).S g ∨ ∃ k, k < n ∧ (inner (e k)).S g⟩
theorem ne_ge (ho : Ge B w (se cells s T A n e)) (hi : ∀ k, k < n → Ge B w (inner (e k))) (ha : Alone T cells s inner A n e) : Ge B w (ne cells s T inner A n e) :=
  ⟨⟨ho.1, fun k hk => (hi k hk).1, ha⟩, fun w w' h hp => ⟨ho.2.1 w w' (fun g hg => h g (.inl hg)) hp.1, fun k hk => (hi k hk).2.1 w w' (fun g hg => h g (.inr ⟨k, hk, hg⟩)) (hp.2.1 k hk), hp.2.2⟩, fun g hg => by
    rcases hg with hg | ⟨k, hk, hg⟩
    · exact ho.2.2 g hg
    · exact (hi k hk).2.2 g hg⟩
theorem Ge.outer (h : Ge B w (ne cells s T inner A n e)) : Ge B w (se cells s T A n e) := ⟨h.1.1, ce_frame, fun g hg => h.2.2 g (.inl hg)⟩
theorem Ge.each (h : Ge B w (ne cells s T inner A n e)) (hf : ∀ x, Fr_ (inner x)) (k : Nat) (hk : k < n) : Ge B w (inner (e k)) := ⟨h.1.2.1 k hk, hf _, fun g hg => h.2.2 g (.inr ⟨k, hk, hg⟩)⟩
theorem Ge.alone (h : Ge B w (ne cells s T inner A n e)) : Alone T cells s inner A n e := h.1.2.2
end
open Go.ChangeShapes Go.WideShapes Go.RowKit Go.Deep
section
variable {H : Type} {enc : TypeId × Value → H} {P : Program} {w : World} {base : Nat}
/-- a list of floats in a field -/
theorem trod_fs {fuel : Nat} {t e : TypeId} {v : Value} {x : DataW H × List MemPlace} {W : World} (ht : P.underlying t = some (.slice e)) (he : P.underlying e = some (.float .f32)) (hc : P.cellsOf e = 1)
    (hf : DataW.trod enc P W base (fun _ => true) true fuel t [v] = some x) :
    ∃ (A : Option Addr) (n c : Nat) (xs : List Nat), v = .slice A n c ∧ Fs W W.heap.size A n xs ∧ n ≤ 9223372036854775807 := by
  rcases Go.Deep.open_slice ht hf with ⟨hcs, _⟩ | ⟨a, len, cap, m, k, D, Pl, hcs, _, hl, hm, hmm, _, hi⟩
  · injection hcs with hcs _
    exact ⟨none, 0, 0, [], hcs, ⟨rfl, (fun x hx => by cases hx), (fun h => by omega)⟩, by omega⟩
  · injection hcs with hcs _
    rw [if_pos rfl] at hmm
    have hlm : len ≤ m := by omega
    have hcell : ∀ i, i < m → ∃ b, W.cell? (a.add i) = some (.float .f32 b) ∧ b < 4294967296 := by
      intro i him
      obtain ⟨cs', hcs', htr⟩ := hi i him
      rw [hc, Nat.mul_one] at hcs'
      obtain ⟨_, hlen, hat⟩ := World.cells?_some hcs'
      obtain ⟨b, hb, hw⟩ := trod_fl he htr
      have h0 := hat 0 (by omega)
      rw [hb] at h0
      refine ⟨b, ?_, wf_f32 hw⟩
      have e : (a.add i).add 0 = a.add i := by simp [Addr.add]
      rw [e] at h0
      exact h0
    let f : Nat → Nat := fun i => if h : i < m then Classical.choose (hcell i h) else 0
    have hfs : ∀ i (h : i < m), W.cell? (a.add i) = some (.float .f32 (f i)) ∧ f i < 4294967296 := by
      intro i h
      have := Classical.choose_spec (hcell i h)
      simp only [f, dif_pos h]
      exact this
    refine ⟨some a, len, cap, (List.range len).map f, hcs, ⟨by simp, ?_, ?_⟩, by unfold maxLen at hm; omega⟩
    · intro x hx
      obtain ⟨i, hi1, rfl⟩ := List.mem_map.1 hx
      exact (hfs i (by have := List.mem_range.1 hi1; omega)).2
    · intro hn
      obtain ⟨g, off, spot⟩ := a
      have h0 := (hfs 0 (by omega)).1
      have hspot : spot = none := by simpa [Addr.add] using World.cell?_spot h0
      subst hspot
      refine ⟨g, off, rfl, ?_, fun k hk => ?_⟩
      · have h1 : W.cell? ⟨g, off, none⟩ = some (.float .f32 (f 0)) := by simpa [Addr.add] using h0
        rcases Nat.lt_or_ge g W.heap.size with h2 | h2
        · exact h2
        · simp [World.cell?, Array.getElem?_eq_none h2] at h1
      · have h1 := (hfs k (by omega)).1
        rw [Go.WideShapes.add_plain] at h1
        rw [h1]
        unfold fv wd
        simp [hk]
/-- a list of structs, and what reading an element tells beside its cells -/
theorem open_ns {α : Type} {cells : α → List Value} {s : Nat} {ok : World → α → Prop} (z : α) {W : World} {b0 : Nat} {r : Reach} {t e : TypeId} {v : Value} {d : DataW H} {ps : List MemPlace} (ht : P.underlying t = some (.slice e)) (hc : P.cellsOf e = s) (hs : 0 < s)
    (hrow : ∀ (fuel : Nat) (cs : List Value) (x : DataW H × List MemPlace), DataW.trod enc P W base (fun _ => true) true fuel e cs = some x → ∃ y : α, ok W y ∧ cells y = cs)
    (hval : Value.okWide P W r b0 t v) (h : DataW.Trod enc P W base (fun _ => true) true t v d ps) :
    ∃ (A : Option Addr) (n c : Nat) (f : Nat → α), v = .slice A n c ∧ Rs cells s W W.heap.size A n f ∧ (∀ k, k < n → ok W (f k)) ∧ n ≤ 9223372036854775807 :=
  open_ss (ok := ok W) z ht hc hs hrow hval h
end
end Fl
open Fl Go.RowKit
/-- a mark of a list changes nothing else -/
theorem mark_only (A : Option Addr) (n : Nat) (xs : List Nat) (c k0 : Nat) (K : Int) (v : World) (B : Nat) (h : Ge B v (fe A n xs)) (hB : B ≤ v.heap.size) (hn : n ≤ 1048576) (hk0 : k0 ≤ 1073741824) (hK : K = (k0 : Nat)) :
    Calls Try.prog 23 #[.slice A n c, .int .i64 K] v fun e v' => e = .returned (.int .i64 ((k0 + n : Nat) : Int)) ∧ Ge B v' (fe A n (mk k0 n)) ∧ (∀ b, b < v.heap.size → ¬ (fe A n xs).S b → v'.heap[b]? = v.heap[b]?) ∧ v.Since B v' := by
  have he0 : Ge 0 v ⟨fun w' => ∀ b, b < v.heap.size → ¬ (fe A n xs).S b → w'.heap[b]? = v.heap[b]?, fun b => b < v.heap.size ∧ ¬ (fe A n xs).S b⟩ := ⟨fun b _ _ => rfl, fun w w' h hp b hb hs => (h b ⟨hb, hs⟩).trans (hp b hb hs), fun g hg => ⟨Nat.zero_le _, hg.1⟩⟩
  have H : He 0 v [fe A n xs, ⟨fun w' => ∀ b, b < v.heap.size → ¬ (fe A n xs).S b → w'.heap[b]? = v.heap[b]?, fun b => b < v.heap.size ∧ ¬ (fe A n xs).S b⟩] := ⟨⟨h.less (Nat.zero_le _), fun q hq b h1 h2 => by
    obtain rfl := List.mem_singleton.1 hq
    exact h2.2 h1⟩, ⟨he0, fun q hq => by cases hq⟩, trivial⟩
  refine (markFE_any A n xs c k0 K v 0 _ H hn hk0 hK).mono fun e v' ⟨h1, h2, h3⟩ => ?_
  have h4 := h2.2.1.1.1
  refine ⟨h1, ⟨h2.1.1.1, h2.1.1.2.1, fun g hg => ⟨(h.2.2 g hg).1, (h2.1.1.2.2 g hg).2⟩⟩, h4, h3.os, h3.tape, h3.output, h3.size, fun k hk => ?_⟩
  exact h4 k (by omega) fun h6 => by have := (h.2.2 k h6).1; omega
end Go.Proofs.Ytcpcfgdncinpgaa

/- Lists of Effect as a law holds them. -/
set_option linter.unusedVariables false
set_option linter.unusedSimpArgs false
namespace Go.Proofs.Ytcpcfgdncinpgaa
open Fl Go.RowKit
structure EffectR where
  k : Int
  l : Int
  sA : Option Addr
  sn : Nat
  sc : Nat
  sx : List Nat
def EffectR.cells (x : EffectR) : List Value := [.int .i64 x.k, .int .i64 x.l, .slice x.sA x.sn x.sc]
def EffectR.val (x : EffectR) : Value := .agg #[.int .i64 x.k, .int .i64 x.l, .slice x.sA x.sn x.sc]
def EffectR.zero : EffectR := ⟨0, 0, none, 0, 0, []⟩
def EffectR.ok (x : EffectR) : Prop := True
/-- the same but for where its list lies -/
def EffectR.like (x y : EffectR) : Prop := x.sn = y.sn ∧ x.sx = y.sx ∧ x.k = y.k ∧ x.l = y.l
theorem EffectR.like_refl (x : EffectR) : x.like x := ⟨rfl, rfl, rfl, rfl⟩
/-- its list, as an entry -/
def EffectR.inn (x : EffectR) : En := fe x.sA x.sn x.sx
theorem EffectR.inn_fr (x : EffectR) : Fr_ x.inn := ce_frame
/-- such a list that can be read -/
def EffectR.Ts (w : World) (B : Nat) (A : Option Addr) (n : Nat) (e : Nat → EffectR) : Prop := Rs EffectR.cells 3 w B A n e ∧ ∀ k, k < n → Fs w B (e k).sA (e k).sn (e k).sx
theorem EffectR.Ts.now {w w1 : World} {A : Option Addr} {n : Nat} {e : Nat → EffectR} (h : EffectR.Ts w w.heap.size A n e) (k : w.Since w.heap.size w1) : EffectR.Ts w1 w1.heap.size A n e := ⟨h.1.now k, fun i hi => (h.2 i hi).now k⟩
theorem EffectR.Ts.since {w w1 : World} {B : Nat} {A : Option Addr} {n : Nat} {e : Nat → EffectR} (h : EffectR.Ts w B A n e) (k : w.Since B w1) : EffectR.Ts w1 B A n e := ⟨h.1.since k, fun i hi => (h.2 i hi).since k⟩
theorem EffectR.Ts.more {w : World} {B B' : Nat} {A : Option Addr} {n : Nat} {e : Nat → EffectR} (h : EffectR.Ts w B A n e) (k : B ≤ B') : EffectR.Ts w B' A n e := ⟨h.1.more k, fun i hi => (h.2 i hi).more k⟩
theorem gflEffect {w : World} {T : TypeId} {l : List Value} {g : Nat} (h : w.heap[g]? = some (.cells l.toArray T (0, 0))) : GF w g T l.length (fun j => l.getD j undef) := ⟨_, h, fun j hj => by rw [List.getElem?_toArray]; simp [List.getD_eq_getElem?_getD, List.getElem?_eq_getElem hj]⟩
def EffectR.tot (x : Nat → EffectR) : Nat → Nat
  | 0 => 0
  | k + 1 => EffectR.tot x k + (x k).sn
theorem EffectR.tot_le (x : Nat → EffectR) {k n : Nat} (h : k ≤ n) : EffectR.tot x k ≤ EffectR.tot x n := by
  induction n with
  | zero => rw [Nat.le_zero.1 h]; exact Nat.le_refl _
  | succ n ih =>
    by_cases e : k = n + 1
    · rw [e]; exact Nat.le_refl _
    · have := ih (by omega)
      show _ ≤ EffectR.tot x n + (x n).sn
      omega
theorem Fl.He.otherEffect {B : Nat} {v v' : World} {p : En} {r : List En} (h : He B v (p :: r)) (ho : ∀ g, g < v.heap.size → ¬ p.S g → v'.heap[g]? = v.heap[g]?) (hz : v.heap.size ≤ v'.heap.size) : He B v' r := by
  have hd := h.1.2
  have ht := h.2
  clear h
  induction r with
  | nil => trivial
  | cons q r ih =>
    refine ⟨⟨?_, ht.1.2⟩, ih (fun q' hq' => hd q' (.tail _ hq')) ht.2⟩
    exact ht.1.1.keep (fun b hb => ho b (ht.1.1.2.2 b hb).2 fun hp => hd q (.head _) b hp hb) hz
theorem EffectR.like_ok {x y : EffectR} (h : x.like y) (hy : y.ok) : x.ok := trivial
theorem EffectR.like_tr {x y z : EffectR} (h : x.like z) (k : y.like z) : x.like y := by
  obtain ⟨x_k, x_l, x_sA, x_sn, x_sc, x_sx⟩ := x
  obtain ⟨y_k, y_l, y_sA, y_sn, y_sc, y_sx⟩ := y
  obtain ⟨w_k, w_l, w_sA, w_sn, w_sc, w_sx⟩ := z
  simp only [EffectR.like] at *
  obtain ⟨rfl, rfl, rfl, rfl⟩ := h
  obtain ⟨rfl, rfl, rfl, rfl⟩ := k
  exact ⟨rfl, rfl, rfl, rfl⟩
theorem EffectR.tot_like {e x : Nat → EffectR} {n : Nat} (h : ∀ k, k < n → (e k).like (x k)) : EffectR.tot e n = EffectR.tot x n := by
  induction n with
  | zero => rfl
  | succ n ih =>
    show EffectR.tot e n + (e n).sn = EffectR.tot x n + (x n).sn
    rw [ih fun k hk => h k (by omega), (h n (by omega)).1]
def EffectR.wf (W : World) (x : EffectR) : Prop := x.ok ∧ Fs W W.heap.size x.sA x.sn x.sx ∧ x.sn ≤ 9223372036854775807 ∧ (Lit.int .i64 x.k).wf = true ∧ (Lit.int .i64 x.l).wf = true
section
open Go.ChangeShapes Go.WideShapes Go.Deep
variable {H : Type} {enc : TypeId × Value → H} {P : Program} {w : World} {base : Nat}
theorem openEffect_row {t te : TypeId} {f0 f1 f2 : Field} (hs : P.underlying t = some (.struct #[f0, f1, f2])) (hone : oneCellFields P #[f0, f1, f2] = true) (hC : P.cellsOf t = 3) (hte : P.underlying te = some (.float .f32)) (hce : P.cellsOf te = 1) (h0 : P.underlying f0.type = some (.int .i64)) (h1 : P.underlying f1.type = some (.int .i64)) (h2 : P.underlying f2.type = some (.slice te))
    (fuel : Nat) (cs : List Value) (x : DataW H × List MemPlace) (h : DataW.trod enc P w base (fun _ => true) true fuel t cs = some x) : ∃ y : EffectR, y.wf w ∧ y.cells = cs := by
  obtain ⟨hl, hc⟩ := row_cells hs hone hC h
  obtain ⟨c0, y0, n0, e0, t0⟩ := hc 0 f0 rfl
  obtain ⟨x0, hx0, w0⟩ := trod_int h0 t0
  injection hx0 with hx0 _; subst hx0
  obtain ⟨c1, y1, n1, e1, t1⟩ := hc 1 f1 rfl
  obtain ⟨x1, hx1, w1⟩ := trod_int h1 t1
  injection hx1 with hx1 _; subst hx1
  obtain ⟨c2, y2, n2, e2, t2⟩ := hc 2 f2 rfl
  obtain ⟨xA, xn, xc, xx, hx2, w2, wn2⟩ := trod_fs h2 hte hce t2
  subst hx2
  refine ⟨⟨x0, x1, xA, xn, xc, xx⟩, ⟨trivial, w2, wn2, w0, w1⟩, ?_⟩
  unfold EffectR.cells
  match cs, hl with
  | [d0, d1, d2], _ =>
    have g0 : d0 = _ := Option.some.inj e0
    have g1 : d1 = _ := Option.some.inj e1
    have g2 : d2 = _ := Option.some.inj e2
    rw [g0, g1, g2]
end
end Go.Proofs.Ytcpcfgdncinpgaa

/- Lists of lists of integers as a law holds them (results). -/
set_option linter.unusedVariables false
set_option linter.unusedSimpArgs false
namespace Go.Proofs.Ytcpcfgdncinpgaa
open Fl Go.RowKit
theorem mark_onlyI (A : Option Addr) (n : Nat) (xs : List Int) (c k0 : Nat) (K : Int) (v : World) (B : Nat) (h : Ge B v (ie A n xs)) (hB : B ≤ v.heap.size) (hn : n ≤ 1048576) (hk0 : k0 ≤ 1073741824) (hK : K = (k0 : Nat)) :
    Calls Try.prog 44 #[.slice A n c, .int .i64 K] v fun e v' => e = .returned (.int .i64 ((k0 + n : Nat) : Int)) ∧ Ge B v' (ie A n (mki k0 n)) ∧ (∀ b, b < v.heap.size → ¬ (ie A n xs).S b → v'.heap[b]? = v.heap[b]?) ∧ v.Since B v' := by
  have he0 : Ge 0 v ⟨fun w' => ∀ b, b < v.heap.size → ¬ (ie A n xs).S b → w'.heap[b]? = v.heap[b]?, fun b => b < v.heap.size ∧ ¬ (ie A n xs).S b⟩ := ⟨fun b _ _ => rfl, fun w w' h hp b hb hs => (h b ⟨hb, hs⟩).trans (hp b hb hs), fun g hg => ⟨Nat.zero_le _, hg.1⟩⟩
  have H : He 0 v [ie A n xs, ⟨fun w' => ∀ b, b < v.heap.size → ¬ (ie A n xs).S b → w'.heap[b]? = v.heap[b]?, fun b => b < v.heap.size ∧ ¬ (ie A n xs).S b⟩] := ⟨⟨h.less (Nat.zero_le _), fun q hq b h1 h2 => by
    obtain rfl := List.mem_singleton.1 hq
    exact h2.2 h1⟩, ⟨he0, fun q hq => by cases hq⟩, trivial⟩
  refine (markIE_any A n xs c k0 K v 0 _ H hn hk0 hK).mono fun e v' ⟨h1, h2, h3⟩ => ?_
  have h4 := h2.2.1.1.1
  refine ⟨h1, ⟨h2.1.1.1, h2.1.1.2.1, fun g hg => ⟨(h.2.2 g hg).1, (h2.1.1.2.2 g hg).2⟩⟩, h4, h3.os, h3.tape, h3.output, h3.size, fun k hk => ?_⟩
  exact h4 k (by omega) fun h6 => by have := (h.2.2 k h6).1; omega
structure IlsR where
  sA : Option Addr
  sn : Nat
  sc : Nat
  sx : List Int
def IlsR.cells (x : IlsR) : List Value := [.slice x.sA x.sn x.sc]
def IlsR.val (x : IlsR) : Value := .slice x.sA x.sn x.sc
def IlsR.zero : IlsR := ⟨none, 0, 0, []⟩
def IlsR.ok (_ : IlsR) : Prop := True
/-- the same but for where its list lies -/
def IlsR.like (x y : IlsR) : Prop := x.sn = y.sn ∧ x.sx = y.sx
theorem IlsR.like_refl (x : IlsR) : x.like x := ⟨rfl, rfl⟩
/-- its list, as an entry -/
def IlsR.inn (x : IlsR) : En := ie x.sA x.sn x.sx
theorem IlsR.inn_fr (x : IlsR) : Fr_ x.inn := ce_frame
theorem IlsR.ceL1 (e : Nat → IlsR) (j : Nat) : ceL IlsR.cells 1 e j = (e j).val := by
  unfold ceL IlsR.cells
  rw [Nat.div_one, Nat.mod_one]; rfl
/-- such a list that can be read -/
def IlsR.Ts (w : World) (B : Nat) (A : Option Addr) (n : Nat) (e : Nat → IlsR) : Prop := Rs IlsR.cells 1 w B A n e ∧ ∀ k, k < n → Is w B (e k).sA (e k).sn (e k).sx
theorem IlsR.Ts.now {w w1 : World} {A : Option Addr} {n : Nat} {e : Nat → IlsR} (h : IlsR.Ts w w.heap.size A n e) (k : w.Since w.heap.size w1) : IlsR.Ts w1 w1.heap.size A n e := ⟨h.1.now k, fun i hi => (h.2 i hi).now k⟩
theorem IlsR.Ts.since {w w1 : World} {B : Nat} {A : Option Addr} {n : Nat} {e : Nat → IlsR} (h : IlsR.Ts w B A n e) (k : w.Since B w1) : IlsR.Ts w1 B A n e := ⟨h.1.since k, fun i hi => (h.2 i hi).since k⟩
theorem IlsR.Ts.more {w : World} {B B' : Nat} {A : Option Addr} {n : Nat} {e : Nat → IlsR} (h : IlsR.Ts w B A n e) (k : B ≤ B') : IlsR.Ts w B' A n e := ⟨h.1.more k, fun i hi => (h.2 i hi).more k⟩
abbrev IlsR.ent (A : Option Addr) (n : Nat) (e : Nat → IlsR) : En := ne IlsR.cells 1 49 IlsR.inn A n e
theorem IlsR.read {w : World} {lo n : Nat} {A : Option Addr} {e : Nat → IlsR} (h : Ge lo w (IlsR.ent A n e)) : IlsR.Ts w w.heap.size A n e := ⟨h.outer.readS (by decide), fun k hk => (h.each IlsR.inn_fr k hk).readI⟩
/-- row k -/
theorem IlsR.Ts.row {w : World} {B : Nat} {A : Option Addr} {n : Nat} {e : Nat → IlsR} (h : Rs IlsR.cells 1 w B A n e) {k : Nat} (hk : k < n) : ∃ g off, A = some ⟨g, off, none⟩ ∧ g < B ∧ w.cell? ⟨g, off + k, none⟩ = some (.slice (e k).sA (e k).sn (e k).sc) := by
  obtain ⟨g, off, ea, hg, hc⟩ := h.at_ hk
  refine ⟨g, off, ea, hg, ?_⟩
  have := hc 0 (by decide)
  rw [Nat.mul_one, Nat.add_zero] at this
  exact this
theorem IlsR.entry {w : World} {g n lo : Nat} {e : Nat → IlsR} (h : GF w g 49 n (fun j => (e j).val)) (hl : lo ≤ g) : Ge lo w (se IlsR.cells 1 49 (some ⟨g, 0, none⟩) n e) := by
  refine GF.entry ?_ hl
  rw [Nat.mul_one]
  exact h.congr fun j _ => (IlsR.ceL1 e j).symm
def IlsR.tot (x : Nat → IlsR) : Nat → Nat
  | 0 => 0
  | k + 1 => IlsR.tot x k + (x k).sn
theorem IlsR.tot_le (x : Nat → IlsR) {k n : Nat} (h : k ≤ n) : IlsR.tot x k ≤ IlsR.tot x n := by
  induction n with
  | zero => rw [Nat.le_zero.1 h]; exact Nat.le_refl _
  | succ n ih =>
    by_cases e : k = n + 1
    · rw [e]; exact Nat.le_refl _
    · have := ih (by omega)
      show _ ≤ IlsR.tot x n + (x n).sn
      omega
theorem IlsR.like_tr {x y z : IlsR} (h : x.like z) (k : y.like z) : x.like y := ⟨h.1.trans k.1.symm, h.2.trans k.2.symm⟩
theorem IlsR.like_ok {x y : IlsR} (h : x.like y) (hy : y.ok) : x.ok := trivial
theorem IlsR.tot_like {e x : Nat → IlsR} {n : Nat} (h : ∀ k, k < n → (e k).like (x k)) : IlsR.tot e n = IlsR.tot x n := by
  induction n with
  | zero => rfl
  | succ n ih =>
    show IlsR.tot e n + (e n).sn = IlsR.tot x n + (x n).sn
    rw [ih fun k hk => h k (by omega), (h n (by omega)).1]
/-- the same floats in the same rows -/
def IlsR.ares (n : Nat) (x : Nat → IlsR) (ln : Nat → Nat) (f : Nat → List Int) : Prop := ∀ k, k < n → (x k).sn = ln k ∧ (x k).sx = f k
set_option maxHeartbeats 4000000 in
set_option maxRecDepth 100000 in
theorem eqIls_any (A C : Option Addr) (n c d : Nat) (e f : Nat → IlsR) (ln : Nat → Nat) (fo : Nat → List Int) (w : World) (ha : IlsR.Ts w w.heap.size A n e) (hc : IlsR.Ts w w.heap.size C n f) (hn : n ≤ 1048576) (hns : ∀ k, k < n → ln k ≤ 1048576) (he : IlsR.ares n e ln fo) (hf : IlsR.ares n f ln fo) :
    Calls Try.prog 22 #[.slice A n c, .slice C n d] w fun r w' => r = .returned (.bool true) ∧ w.Since w.heap.size w' := by
  have HA := Lib.hid ha; have HC := Lib.hid hc; have HE := Lib.hid he; have HF := Lib.hid hf; have HNS := Lib.hid hns
  clear ha hc he hf hns
  go_enter Try.func22, Try.ntmps22
  go_wp2
  go_loopw [5] (fun i wr => ∃ k : Nat, k ≤ n ∧ i = .int .i64 (k : Nat) ∧ w.Since w.heap.size wr) (fun i _ => n - (intOf i).toNat)
  case atStart => exact ⟨0, Nat.zero_le _, rfl, World.Since.refl _ _⟩
  case round =>
    obtain ⟨k, hk, rfl, hs⟩ := hrel
    have HS := Lib.hid hs
    clear hs
    by_cases hlt : k < n
    · obtain ⟨g, off, rfl, hgl, hc1⟩ := IlsR.Ts.row HA.out.1 hlt
      obtain ⟨g2, off2, rfl, hgl2, hc2⟩ := IlsR.Ts.row HC.out.1 hlt
      have c1 := (HS.out.cell (a := ⟨g, off + k, none⟩) hgl).trans hc1
      have c2 := (HS.out.cell (a := ⟨g2, off2 + k, none⟩) hgl2).trans hc2
      have e1 := (HE.out k hlt).1
      have e2 := (HF.out k hlt).1
      have HEQ := Lib.hid (fun N => eqI_any (e k).sA (f k).sA (ln k) (e k).sc (f k).sc (e k).sx (wr.drewN N) wr.heap.size (by have := (HA.out.2 k hlt).now HS.out; rw [e1] at this; exact this) (by have := (HC.out.2 k hlt).now HS.out; rw [e2, (HF.out k hlt).2, ← (HE.out k hlt).2] at this; exact this) (HNS.out k hlt))
      rw [e1] at c1; rw [e2] at c2
      clear hc1 hc2 e1 e2
      go_wp2_with fail
      go_quiet (first | (go_at_call 43; refine Calls.quiet_of (HEQ.out _)))
      go_wp2
      go_roundw
      case rel => exact ⟨k + 1, by omega, by go_num, by have hs0 := HS.out; (repeat (first | (with_reducible refine Fl.sinDrew ?_) | (with_reducible refine World.Since.drew ?_) | (with_reducible refine Fl.sinSet ?_ ?_; rotate_left) | (with_reducible refine Fl.sinAlloc ?_ ?_; rotate_left) | with_reducible exact World.Since.refl _ _ | with_reducible assumption | (with_reducible refine Fl.sinStep (by with_reducible assumption) ?_))); all_goals (first | omega | (simp; done) | (simp; omega) | (simp [go_sem]; done) | (simp [go_sem]; omega))⟩
      case measure => simp [intOf]; omega
    · go_wp2
      go_ret
      exact ⟨rfl, HS.out⟩
def sumI (l : Nat → Nat) : Nat → Nat
  | 0 => 0
  | k + 1 => sumI l k + l k
theorem IlsR.tot_ares : ∀ {n : Nat} {x : Nat → IlsR} {ln : Nat → Nat} {f : Nat → List Int}, IlsR.ares n x ln f → IlsR.tot x n = sumI ln n
  | 0, _, _, _, _ => rfl
  | n + 1, x, ln, f, h => by
    show IlsR.tot x n + (x n).sn = sumI ln n + ln n
    rw [IlsR.tot_ares (n := n) (fun k hk => h k (by omega)), (h n (by omega)).1]
theorem growI_of {v v' : World} {B : Nat} {S : Nat → Prop} (h : v.Since B v') (_ : ∀ b, b < v.heap.size → ¬ S b → v'.heap[b]? = v.heap[b]?) (_ : B ≤ v.heap.size) : v.heap.size ≤ v'.heap.size := h.size
def SameIl (a b : World) : Prop := a = b
/-- rows that have been marked -/
def mkIls (x : Nat → IlsR) (k0 k : Nat) : IlsR := ⟨(x k).sA, (x k).sn, (x k).sc, mki (k0 + IlsR.tot x k) (x k).sn⟩
theorem Fl.He.mark_hd3 {B : Nat} {v v' : World} {p p' : En} {r : List En} (h : He B v (p :: r)) (g : Ge B v' p') (hS : p'.S = p.S) (ho : ∀ g, g < v.heap.size → ¬ p.S g → v'.heap[g]? = v.heap[g]?) (hz : v.heap.size ≤ v'.heap.size) : He B v' (p' :: r) :=
  ⟨⟨g, fun q hq b h1 h2 => h.1.2 q hq b (hS ▸ h1) h2⟩, h.otherEffect ho hz⟩
set_option maxHeartbeats 8000000 in
set_option maxRecDepth 100000 in
theorem markIls_any (A : Option Addr) (n : Nat) (x : Nat → IlsR) (c k0 : Nat) (K : Int) (v : World) (B : Nat) (r : List En) (h : He B v (IlsR.ent A n x :: r)) (hB : B ≤ v.heap.size) (hn : n ≤ 1048576) (hns : ∀ k, k < n → (x k).sn ≤ 1048576) (ht : IlsR.tot x n ≤ 1048576) (hk0 : k0 ≤ 536870912) (hK : K = (k0 : Nat)) :
    Calls Try.prog 24 #[.slice A n c, .int .i64 K] v fun r1 v' => r1 = .returned (.int .i64 ((k0 + IlsR.tot x n : Nat) : Int)) ∧ He B v' (IlsR.ent A n (mkIls x k0) :: r) ∧ v.Since B v' := by
  subst hK
  have HH := Lib.hid h
  have HNS := Lib.hid hns
  have HT := Lib.hid (IlsR.read h.1.1).1
  have HAL := Lib.hid h.1.1.alone
  have HO0 := Lib.hid h.1.1.outer
  have HIN0 : Hid (∀ j, j < n → Ge B v (x j).inn) := Lib.hid (fun j hj => h.1.1.each IlsR.inn_fr j hj)
  clear h hns
  go_enter Try.func24, Try.ntmps24
  go_wp2
  go_loopw [1, 5] (fun kv i wr => ∃ (k : Nat), k ≤ n ∧ i = .int .i64 (k : Nat) ∧ kv = .int .i64 ((k0 + IlsR.tot x k : Nat) : Int) ∧ (∀ j, k ≤ j → j < n → Ge B wr (x j).inn) ∧ (∀ j, j < k → Ge B wr (mkIls x k0 j).inn) ∧ (∀ b, b < v.heap.size → (∀ j, j < n → ¬ (x j).inn.S b) → wr.heap[b]? = v.heap[b]?) ∧ v.heap.size ≤ wr.heap.size ∧ v.Since B wr) (fun _ i _ => n - (intOf i).toNat)
  case atStart => exact ⟨0, Nat.zero_le _, rfl, by simp [IlsR.tot], fun j _ hj => HIN0.out j hj, fun j hj => by omega, fun _ _ _ => rfl, Nat.le_refl _, World.Since.refl _ _⟩
  case round =>
    obtain ⟨k, hk, rfl, rfl, hin, hmd, hoth, hsz, hs⟩ := hrel
    have HIN := Lib.hid hin; have HMD := Lib.hid hmd; have HO := Lib.hid hoth; have HZ := Lib.hid hsz; have HS := Lib.hid hs
    clear hin hmd hoth hsz hs HIN0
    by_cases hlt : k < n
    · have hts : IlsR.tot x k + (x k).sn ≤ IlsR.tot x n := IlsR.tot_le x (k := k + 1) hlt
      have HTK : Hid (IlsR.tot x (k + 1) = IlsR.tot x k + (x k).sn) := Lib.hid rfl
      have hn3 := HNS.out k hlt
      obtain ⟨g, off, rfl, hgl, hc⟩ := IlsR.Ts.row HT.out hlt
      have HSG : Hid ((se IlsR.cells 1 49 (some ⟨g, off, none⟩) n x).S g) := Lib.hid ⟨by omega, off, rfl⟩
      have hgin : Hid (∀ j, j < n → ¬ (x j).inn.S g) := Lib.hid (fun j hj h7 => HAL.out.1 j hj g HSG.out h7)
      have hcell : wr.cell? ⟨g, off + k, none⟩ = some (.slice (x k).sA (x k).sn (x k).sc) := (cell_of_block (HO.out g hgl hgin.out) _).trans hc
      have hBw : B ≤ wr.heap.size := Nat.le_trans hB HZ.out
      have HM : Hid (∀ K, K = ((k0 + IlsR.tot x k : Nat) : Int) → Calls Try.prog 44 #[.slice (x k).sA (x k).sn (x k).sc, .int .i64 K] wr fun r1 v' => r1 = .returned (.int .i64 ((k0 + IlsR.tot x k + (x k).sn : Nat) : Int)) ∧ Ge B v' (ie (x k).sA (x k).sn (mki (k0 + IlsR.tot x k) (x k).sn)) ∧ (∀ b, b < wr.heap.size → ¬ (x k).inn.S b → v'.heap[b]? = wr.heap[b]?) ∧ wr.Since B v') := Lib.hid (fun K hK => mark_onlyI (x k).sA (x k).sn (x k).sx (x k).sc _ K wr B (HIN.out k (Nat.le_refl _) hlt) hBw hn3 (by omega) hK)
      clear hc
      go_wp2_with fail
      refine (HM.out _ (by first | rfl | push_cast; omega)).mono ?_
      rintro e1 w2 ⟨rfl, hg2, ho2, hs2⟩
      have HG2 := Lib.hid hg2; have HO2 := Lib.hid ho2; have HS2 := Lib.hid hs2
      clear hg2 ho2 hs2 hcell
      go_wp2
      go_roundw
      case rel =>
        have hz2 := HZ.out
        refine ⟨k + 1, by omega, by go_num, ?_, fun j hj hj2 => ?_, fun j hj => ?_, fun b hb hnb => ?_, ?_, ?_⟩
        · rw [HTK.out]; go_num
        · have hap : ∀ b, (x j).inn.S b → ¬ (x k).inn.S b := fun b hb h8 => HAL.out.2 j k hj2 hlt (by omega) b hb h8
          have h9 := HIN.out j (by omega) hj2
          exact h9.keep (fun b hb => HO2.out b (h9.2.2 b hb).2 (hap b hb)) (growI_of HS2.out HO2.out hBw)
        · by_cases h : j = k
          · subst h; exact HG2.out
          · have hjn : j < n := by omega
            have hap : ∀ b, (mkIls x k0 j).inn.S b → ¬ (x k).inn.S b := fun b hb h8 => HAL.out.2 j k hjn hlt h b hb h8
            have h9 := HMD.out j (by omega)
            exact h9.keep (fun b hb => HO2.out b (h9.2.2 b hb).2 (hap b hb)) (growI_of HS2.out HO2.out hBw)
        · exact (HO2.out b (by omega) (hnb k hlt)).trans (HO.out b hb hnb)
        · exact Nat.le_trans HZ.out (growI_of HS2.out HO2.out hBw)
        · exact HS.out.trans HS2.out
      case measure => simp [intOf]; omega
    · obtain rfl : k = n := by omega
      go_wp2
      go_ret
      refine ⟨rfl, HH.out.mark_hd3 (ne_ge ?_ (fun j hj => HMD.out j hj) HAL.out) rfl (fun b hb hnb => HO.out b hb fun j hj h8 => hnb (.inr ⟨j, hj, h8⟩)) HZ.out, HS.out⟩
      exact HO0.out.keep (fun b hb => HO.out b (HO0.out.2.2 b hb).2 fun j hj h8 => HAL.out.1 j hj b hb h8) HZ.out
set_option maxHeartbeats 4000000 in
set_option maxRecDepth 100000 in
theorem heldIls_any (A : Option Addr) (n : Nat) (x : Nat → IlsR) (c k0 : Nat) (K : Int) (v : World) (lo : Nat) (h : Ge lo v (IlsR.ent A n (mkIls x k0))) (hn : n ≤ 1048576) (hns : ∀ k, k < n → (x k).sn ≤ 1048576) (ht : IlsR.tot x n ≤ 1048576) (hk0 : k0 ≤ 536870912) (hK : K = (k0 : Nat)) :
    Calls Try.prog 25 #[.slice A n c, .int .i64 K] v fun r1 v' => r1 = .returned (.int .i64 ((k0 + IlsR.tot x n : Nat) : Int)) ∧ v = v' := by
  subst hK
  have HNS := Lib.hid hns
  have HT := Lib.hid (IlsR.read h).1
  have HIN : Hid (∀ j, j < n → Ge lo v (mkIls x k0 j).inn) := Lib.hid (fun j hj => h.each IlsR.inn_fr j hj)
  clear h hns
  go_enter Try.func25, Try.ntmps25
  go_wp2
  go_loopw [1, 5] (fun kv i wr => ∃ (k : Nat), k ≤ n ∧ i = .int .i64 (k : Nat) ∧ kv = .int .i64 ((k0 + IlsR.tot x k : Nat) : Int) ∧ SameIl wr v) (fun _ i _ => n - (intOf i).toNat)
  case atStart => exact ⟨0, Nat.zero_le _, rfl, by simp [IlsR.tot], rfl⟩
  case round =>
    obtain ⟨k, hk, rfl, rfl, hs⟩ := hrel
    obtain rfl : wr = v := hs
    by_cases hlt : k < n
    · have hts : IlsR.tot x k + (x k).sn ≤ IlsR.tot x n := IlsR.tot_le x (k := k + 1) hlt
      have HTK : Hid (IlsR.tot x (k + 1) = IlsR.tot x k + (x k).sn) := Lib.hid rfl
      obtain ⟨g, off, rfl, hgl, hc⟩ := IlsR.Ts.row HT.out hlt
      simp only [mkIls] at hc
      have HM : Hid (∀ K, K = ((k0 + IlsR.tot x k : Nat) : Int) → Calls Try.prog 45 #[.slice (x k).sA (x k).sn (x k).sc, .int .i64 K] wr fun r1 v' => r1 = .returned (.int .i64 ((k0 + IlsR.tot x k + (x k).sn : Nat) : Int)) ∧ wr = v') := Lib.hid (fun K hK => heldIE_any (x k).sA (x k).sn (x k).sc _ K wr lo (HIN.out k hlt) (HNS.out k hlt) (by omega) hK)
      go_wp2_with fail
      refine (HM.out _ (by first | rfl | push_cast; omega)).mono ?_
      rintro e1 w2 ⟨rfl, rfl⟩
      have hnn : ¬ ((k0 + IlsR.tot x k + (x k).sn : Nat) : Int) < 0 := by omega
      clear hc
      go_wp2
      go_roundw
      case rel => exact ⟨k + 1, by omega, by go_num, by rw [HTK.out]; go_num, rfl⟩
      case measure => simp [intOf]; omega
    · obtain rfl : k = n := by omega
      go_wp2
      go_ret
      exact ⟨rfl, rfl⟩
/-- a list of lists and a yes or no -/
def PKB (n0 : Nat) (ln : Nat → Nat) (f0 : Nat → List Int) (b : Bool) (w : World) (e : Ending) (w' : World) : Prop :=
  ∃ (A : Option Addr) (c : Nat) (x : Nat → IlsR), e = .returned (.tuple #[.slice A n0 c, .bool b]) ∧ Ge w.heap.size w' (IlsR.ent A n0 x) ∧ IlsR.ares n0 x ln f0 ∧ w.Since w.heap.size w'
theorem PKB.none_ {w w' : World} (s : w.Since w.heap.size w') (ln : Nat → Nat) (f0 : Nat → List Int) : PKB 0 ln f0 false w (.returned (.tuple #[.slice none 0 0, .bool false])) w' :=
  ⟨none, 0, fun _ => IlsR.zero, rfl, ne_ge (ce_ge trivial fun h => by omega) (fun k hk => by omega) ⟨fun k hk => by omega, fun j k hj => by omega⟩, fun k hk => by omega, s⟩
end Go.Proofs.Ytcpcfgdncinpgaa

/- Meters: held peaks, both sides. -/
set_option linter.unusedVariables false
set_option linter.unusedSimpArgs false
namespace Go.Proofs.Ytcpcfgdncinpgaa
open Fl Go.RowKit
/-- a size, where a not-a-number counts as nothing -/
def zsO (x : O) : O := if x.isNone then some 0 else sizeO x
def holdH (X : Nat → O) (F : O) (H : O) : Nat → O
  | 0 => H
  | k + 1 => if gtO (zsO (X k)) (mu (holdH X F H k) F) then zsO (X k) else mu (holdH X F H k) F
theorem sizeO_none {x : O} : (sizeO x).isNone = x.isNone := by unfold sizeO; cases x <;> rfl
theorem zs_fv {b : Nat} {X : O} (h : Hid (Fv .f32 b X)) : Hid (Fv .f32 (if X.isNone then 0 else sizeS b) (zsO X)) := by
  unfold zsO
  cases e : X.isNone
  · exact sizeS_fv h
  · exact fv0
theorem self_size {b : Nat} (h : Hid (Fv .f32 b (ab .f32 b))) : FloatKind.f32.format.order (sizeS b) (sizeS b) = if (ab .f32 b).isNone then none else some .eq := by
  rw [order_self, (sizeS_fv h).out.2]; cases ab .f32 b <;> rfl
set_option maxHeartbeats 4000000 in
set_option maxRecDepth 100000 in
theorem specHold_ok (A : Option Addr) (n c : Nat) (xs : List Nat) (q f : Nat) (Q F : O) (w : World) (hA : Fs w w.heap.size A n xs) (hn : n ≤ 256) (hq : Hid (Fv .f32 q Q)) (hf : Hid (Fv .f32 f F)) :
    Calls Try.prog 46 #[.slice A n c, .float .f32 q, .float .f32 f] w (PLB n (fun k => holdH (fun k => ab .f32 (wd xs k)) F Q (k + 1)) true w) := by
  have hfew : decide ((n : Int) ≤ 256) = true := decide_eq_true (by omega)
  have HA := Lib.hid hA
  clear hA
  go_enter Try.func46, Try.ntmps46
  go_wp2_with (first | (go_at_call 50; refine (specFew_any _ _ _ _ _ hfew).mono ?_; rintro e w' ⟨rfl, rfl⟩))
  go_loopw [1, 8, 9] (fun hv v i wr => ∃ k h : Nat, k ≤ n ∧ i = .int .i64 k ∧ hv = .float .f32 h ∧ Hid (Fv .f32 h (holdH (fun k => ab .f32 (wd xs k)) F Q k)) ∧ Rw w.heap.size wr v k (fun k => holdH (fun k => ab .f32 (wd xs k)) F Q (k + 1)) ∧ w.Since w.heap.size wr) (fun _ _ i _ => n - (intOf i).toNat)
  case atStart => exact ⟨0, q, Nat.zero_le _, rfl, rfl, hq, Rw.start w _ (Nat.le_refl _) _, (World.Since.refl _ _).alloc (Nat.le_refl _) _⟩
  case round =>
    obtain ⟨k, h, hk, rfl, rfl, hh, hr, hs⟩ := hrel
    have HR := Lib.hid hr; have HS := Lib.hid hs
    clear hr hs
    by_cases hlt : k < n
    · obtain ⟨g, off, rfl, hg, hc⟩ := HA.out.2.2 (by omega)
      have hcell : wr.cell? ⟨g, off + k, none⟩ = some (.float .f32 (wd xs k)) := (HS.out.cell (a := ⟨g, off + k, none⟩) hg).trans (hc k hlt)
      have hx : Hid (Fv .f32 (wd xs k) (ab .f32 (wd xs k))) := Lib.hid ⟨HA.out.2.1.at_ k, rfl⟩
      have hsz := HS.out.size
      have eH : Hid (holdH (fun k => ab .f32 (wd xs k)) F Q (k + 1) = if gtO (zsO (ab .f32 (wd xs k))) (mu (holdH (fun k => ab .f32 (wd xs k)) F Q k) F) then zsO (ab .f32 (wd xs k)) else mu (holdH (fun k => ab .f32 (wd xs k)) F Q k) F) := Lib.hid rfl
      have hz := zs_fv hx
      have h0 := self_size hx
      clear hc
      go_wp2_with (first | (with_reducible_and_instances refine Lo.wpList_fo _ rfl _ _ _ _ _ rfl _ _ _ _ _ rfl rfl rfl (by assumption) (by assumption) ?_; intro rr nn hrr) | fail)
      have g1 := gt_fv hz hrr
      refine (specSize_any _ _ hx.out.1).mono ?_
      rintro e w' ⟨rfl, rfl⟩
      cases en : (ab .f32 (wd xs k)).isNone
      all_goals
        rw [en] at g1 hz h0
        simp only [if_true, if_false, Bool.false_eq_true] at g1 hz h0
        have eH1 := eH.out
        cases e1 : gtO (zsO (ab .f32 (wd xs k))) (mu (holdH (fun k => ab .f32 (wd xs k)) F Q k) F)
        all_goals
          rw [e1] at g1 eH1
          simp only [if_true, if_false, Bool.false_eq_true] at eH1
          first
            | (have hy : Hid (Fv .f32 rr (holdH (fun k => ab .f32 (wd xs k)) F Q (k + 1))) := by rw [eH1]; exact hrr
               have EH := Lib.hid eH1; clear eH eH1
               go_wp2_with (first | (at_builtin; refine wpList_app1 rfl (.tmp 36) (.tmp 38) rfl w.heap.size _ k _ rfl _ _ rfl (by simp [go_sem]) (by omega) (by simp; omega) hy ((HR.out.drewN _).alloc _) ?_; intro v' w3 hR3 hS3)))
            | (have hy := hz; rw [← eH1] at hy
               have EH := Lib.hid eH1; clear eH eH1
               go_wp2_with (first | (at_builtin; refine wpList_app1 rfl (.tmp 36) (.tmp 38) rfl w.heap.size _ k _ rfl _ _ rfl (by simp [go_sem]) (by omega) (by simp; omega) hy ((HR.out.drewN _).alloc _) ?_; intro v' w3 hR3 hS3)))
          go_roundw
          case rel => exact ⟨k + 1, _, by omega, by go_num, rfl, hy, hR3.out, HS.out.trans (((since_drewN (World.Since.refl _ _) _).alloc hsz _).trans hS3.out)⟩
          case measure => simp [intOf]; omega
    · obtain rfl : k = n := by omega
      obtain ⟨p, cp, rfl, rfl, hg, ha⟩ := HR.out.done
      have HG := Lib.hid hg; have HAA := Lib.hid ha; clear hg ha
      go_wp2
      go_ret2
      exact ⟨p, cp, rfl, rfl, HG.out, HAA.out, HS.out⟩
theorem specHold_no (A : Option Addr) (n c q f : Nat) (w : World) (hn : ¬ n ≤ 256) (G : Nat → O) : Calls Try.prog 46 #[.slice A n c, .float .f32 q, .float .f32 f] w (PLB 0 G false w) := by
  have hfew : decide ((n : Int) ≤ 256) = false := decide_eq_false (by omega)
  go_enter Try.func46, Try.ntmps46
  go_wp2_with (first | (go_at_call 50; refine (specFew_any _ _ _ _ _ hfew).mono ?_; rintro e w' ⟨rfl, rfl⟩))
  go_ret2
  exact PLB.none_ (by (repeat (first | (with_reducible refine Fl.sinDrew ?_) | (with_reducible refine World.Since.drew ?_) | (with_reducible refine Fl.sinSet ?_ ?_; rotate_left) | (with_reducible refine Fl.sinAlloc ?_ ?_; rotate_left) | with_reducible exact World.Since.refl _ _ | with_reducible assumption | (with_reducible refine Fl.sinStep (by with_reducible assumption) ?_))); all_goals (first | omega | (simp; done) | (simp; omega) | (simp [go_sem]; done) | (simp [go_sem]; omega))) _
theorem implHold_no (A : Option Addr) (n c q f : Nat) (w : World) (hn : ¬ n ≤ 256) (G : Nat → O) : Calls Try.prog 47 #[.slice A n c, .float .f32 q, .float .f32 f] w (PLB 0 G false w) := by
  have hfew : decide ((n : Int) ≤ 256) = false := decide_eq_false (by omega)
  go_enter Try.func47, Try.ntmps47
  go_wp2_with (first | (go_at_call 53; refine (implSamples_b _ _ _ _ _ hfew).mono ?_; rintro e w' ⟨rfl, rfl⟩))
  go_ret2
  exact PLB.none_ (by (repeat (first | (with_reducible refine Fl.sinDrew ?_) | (with_reducible refine World.Since.drew ?_) | (with_reducible refine Fl.sinSet ?_ ?_; rotate_left) | (with_reducible refine Fl.sinAlloc ?_ ?_; rotate_left) | with_reducible exact World.Since.refl _ _ | with_reducible assumption | (with_reducible refine Fl.sinStep (by with_reducible assumption) ?_))); all_goals (first | omega | (simp; done) | (simp; omega) | (simp [go_sem]; done) | (simp [go_sem]; omega))) _
theorem cell_own {W : World} {a : Addr} {u v : Value} (h : W.cell? a = some u) : (W.setCell a v).cell? a = some v := by simp [go_sem, h]
/-- a box of one cell -/
def B1 (W : World) (g : Nat) (v : Value) (T : TypeId) : Prop := W.heap[g]? = some (.cells #[v] T (0, 0))
theorem B1.at_ {W : World} {g : Nat} {v : Value} {T : TypeId} (h : B1 W g v T) : W.cell? ⟨g, 0, none⟩ = some v := by unfold B1 at h; simp [World.cell?, h]
theorem B1.free {W : World} {g o : Nat} {v : Value} {T : TypeId} (h : B1 W g v T) : W.frozen? ⟨g, o, none⟩ = false := by unfold B1 at h; simp [World.frozen?, h]
theorem B1.lt {W : World} {g : Nat} {v : Value} {T : TypeId} (h : B1 W g v T) : g < W.heap.size := (Array.getElem?_eq_some_iff.1 h).1
theorem B1.set {W : World} {g : Nat} {u v : Value} {T : TypeId} (h : B1 W g u T) : B1 (W.setCell ⟨g, 0, none⟩ v) g v T := by unfold B1 at h ⊢; simp [World.setCell, Array.getElem?_modify, h]
theorem B1.of {W V : World} {g : Nat} {u : Value} {T : TypeId} (h : B1 W g u T) (e : V.heap[g]? = W.heap[g]?) : B1 V g u T := e.trans h
theorem B1.drewN {W : World} {g : Nat} {u : Value} {T : TypeId} (h : B1 W g u T) (n : Nat) : B1 (W.drewN n) g u T := h
theorem B1.new (W : World) (v : Value) (T : TypeId) : B1 (W.alloc (.cells #[v] T)) W.heap.size v T := Go.Deep.blk_alloc_new _ _
set_option maxHeartbeats 4000000 in
set_option maxRecDepth 100000 in
theorem holdClos_any (x h f gb fb : Nat) (X H F Z : O) (hZ : Hid (Z = if gtO (zsO X) (mu H F) then zsO X else mu H F)) (W : World) (hx : Hid (Fv .f32 x X)) (hh : Hid (Fv .f32 h H)) (hf : Hid (Fv .f32 f F)) (hb : Hid (B1 W gb (.float .f32 h) 23)) (hd : W.cell? ⟨fb, 0, none⟩ = some (.float .f32 f)) (hne : gb ≠ fb) :
    Calls Try.prog 94 #[.float .f32 x, .pointer (some ⟨gb, 0, none⟩), .pointer (some ⟨fb, 0, none⟩)] W fun e W' => ∃ r, e = .returned (.float .f32 r) ∧ Hid (Fv .f32 r Z) ∧ B1 W' gb (.float .f32 r) 23 ∧ On gb W W' := by
  have hc := hb.out.at_; have hz : W.frozen? ⟨gb, 0, none⟩ = false := hb.out.free
  have hs := sizeN_fv hx
  have hxl := hx.out.1
  go_enter Try.func94, Try.ntmps94
  go_wp2_with (first | (with_reducible_and_instances refine Lo.wpList_fo _ rfl _ _ _ _ _ rfl _ _ _ _ _ rfl rfl rfl (by assumption) (by assumption) ?_; intro rr nn hrr) | fail)
  refine (implSize_any _ _ hxl).mono ?_
  rintro e w' ⟨rfl, rfl⟩
  have hn : nanB (sizeN x) = X.isNone := by rw [nanB_ab, hs.out.2, sizeO_none]
  have hsl := hs.out.1
  have hz2 : Hid (Fv .f32 (if X.isNone then 0 else sizeN x) (zsO X)) := by
    unfold zsO
    cases e : X.isNone
    · exact hs
    · exact fv0
  have g1 := gt_fv hz2 hrr
  cases en : X.isNone
  all_goals
    rw [en] at g1 hz2 hn
    simp only [if_true, if_false, Bool.false_eq_true] at g1 hz2
    cases e1 : gtO (zsO X) (mu H F)
    all_goals
      rw [e1] at g1
      have hZ2 := hZ.out
      rw [e1] at hZ2
      simp only [if_true, if_false, Bool.false_eq_true] at hZ2
      subst hZ2
      go_wp2_with (first | (go_at_call 96; refine (patternOf_any _ _).mono ?_; rintro e w' ⟨rfl, rfl⟩) | (go_at_call 97; refine (isNaN_any _ _ hsl).mono ?_; rintro e w' ⟨rfl, rfl⟩; rw [hn]))
      go_ret
      first
        | exact ⟨_, rfl, hz2, ((hb.out.set).drewN _).set, (((On.refl _ _).set _ _).drewN _).set _ _⟩
        | exact ⟨_, rfl, hrr, (hb.out.drewN _).set, (((On.refl _ _).drewN _).set _ _)⟩
set_option maxHeartbeats 4000000 in
set_option maxRecDepth 100000 in
theorem implHold_ok (A : Option Addr) (n c : Nat) (xs : List Nat) (q f : Nat) (Q F : O) (w : World) (hA : Fs w w.heap.size A n xs) (hn : n ≤ 256) (hq : Hid (Fv .f32 q Q)) (hf : Hid (Fv .f32 f F)) :
    Calls Try.prog 47 #[.slice A n c, .float .f32 q, .float .f32 f] w (PLB n (fun k => holdH (fun k => ab .f32 (wd xs k)) F Q (k + 1)) true w) := by
  have hfew : decide ((n : Int) ≤ 256) = true := decide_eq_true (by omega)
  have HA := Lib.hid hA
  clear hA
  obtain ⟨W1, hW1⟩ : ∃ W, W = (w.alloc (.cells #[.float .f32 q] 23)).alloc (.cells #[.float .f32 f] 23) := ⟨_, rfl⟩
  have S1 : Hid (w.Since w.heap.size W1) := Lib.hid (by rw [hW1]; exact ((World.Since.refl _ _).alloc (Nat.le_refl _) _).alloc (by simp) _)
  have z1 : Hid (W1.heap.size = w.heap.size + 2) := Lib.hid (by rw [hW1]; simp)
  have C1 : Hid (B1 W1 w.heap.size (.float .f32 q) 23 ∧ B1 W1 (w.heap.size + 1) (.float .f32 f) 23) := Lib.hid (by rw [hW1]; exact ⟨(B1.new w _ _).of (blk_keep _ (by simp)), by have := B1.new (w.alloc (.cells #[.float .f32 q] 23)) (.float .f32 f) 23; simpa using this⟩)
  go_enter Try.func47, Try.ntmps47
  go_wp2_with (first | (go_at_call 53; refine (implSamples_b _ _ _ _ _ hfew).mono ?_; rintro e w' ⟨rfl, rfl⟩) | fail)
  rw [← hW1]
  have hz1 := z1.out
  refine (results_any A n c xs 94 #[.pointer (some ⟨w.heap.size, 0, none⟩), .pointer (some ⟨w.heap.size + 1, 0, none⟩)] w.heap.size (fun k W => (∃ h, B1 W w.heap.size (.float .f32 h) 23 ∧ Hid (Fv .f32 h (holdH (fun k => ab .f32 (wd xs k)) F Q k))) ∧ B1 W (w.heap.size + 1) (.float .f32 f) 23) (fun k => holdH (fun k => ab .f32 (wd xs k)) F Q (k + 1)) W1 (HA.out.since S1.out) (by omega) hn (fun _ _ => rfl) ?hI ?hst ⟨⟨q, C1.out.1, hq⟩, C1.out.2⟩).mono ?_
  case hI => exact fun k W W' ⟨⟨h, h1, h1'⟩, h6⟩ h2 h3 h4 => ⟨⟨h, h1.of (h4 _ (by omega)), h1'⟩, h6.of (h4 _ (by omega))⟩
  case hst =>
    rintro k q W hk rfl ⟨⟨h, h1, h1'⟩, h6⟩ hs
    exact (holdClos_any _ h f w.heap.size (w.heap.size + 1) _ _ _ _ (Lib.hid rfl) W (Lib.hid ⟨HA.out.2.1.at_ k, rfl⟩) h1' hf (Lib.hid h1) h6.at_ (by omega)).mono fun e W' ⟨r, e1, e2, e3, e4⟩ => ⟨r, e1, e2, ⟨⟨r, e3, e2⟩, h6.of (e4.2 _ h6.lt (by omega))⟩, e4⟩
  rintro e w2 ⟨ys, rfl, hg, ha, _, ho⟩
  rw [hz1] at hg
  have HG := Lib.hid hg; have HAA := Lib.hid ha; have HO := Lib.hid ho; clear hg ha ho
  go_wp2
  go_ret2
  exact ⟨⟨some ⟨w.heap.size + 2, 0, none⟩, n, ys⟩, n, rfl, rfl, HG.out.less (by omega), HAA.out, S1.out.trans (HO.out.since (Nat.le_refl _))⟩
end Go.Proofs.Ytcpcfgdncinpgaa

/- Meters: the power of differences, both sides. -/
set_option linter.unusedVariables false
set_option linter.unusedSimpArgs false
namespace Go.Proofs.Ytcpcfgdncinpgaa
open Fl Go.RowKit
/-- the dot of values with themselves -/
def dotY (X : Nat → O) : Nat → O
  | 0 => some 0
  | k + 1 => ad (dotY X k) (mu (X k) (X k))
theorem dotO_dotY {xs : List Nat} {X : Nat → O} : ∀ {n : Nat}, (∀ k, k < n → ab .f32 (wd xs k) = X k) → dotO xs xs n = dotY X n
  | 0, _ => rfl
  | n + 1, h => by
    show opO .add .f32 (dotO xs xs n) (opO .mul .f32 (ab .f32 (wd xs n)) (ab .f32 (wd xs n))) = ad (dotY X n) (mu (X n) (X n))
    rw [dotO_dotY (n := n) fun k hk => h k (by omega), h n (by omega)]
def difY (X : Nat → O) (lag k : Nat) : O := su (X k) (X (k + lag))
def lagY (X : Nat → O) (lag count : Nat) : O := dotY (difY X lag) count
set_option maxHeartbeats 4000000 in
set_option maxRecDepth 100000 in
theorem specLag_any (A : Option Addr) (n c : Nat) (xs : List Nat) (lag count : Nat) (w : World) (hA : Fs w w.heap.size A n xs) (hn : n ≤ 256) (hl : count + lag ≤ n) :
    Calls Try.prog 66 #[.slice A n c, .int .i64 lag, .int .i64 count] w fun e w' => ∃ r, e = .returned (.float .f32 r) ∧ Hid (Fv .f32 r (lagY (fun k => ab .f32 (wd xs k)) lag count)) ∧ w.Since w.heap.size w' := by
  have HA := Lib.hid hA
  clear hA
  go_enter Try.func66, Try.ntmps66
  go_wp2
  go_loopw [7, 8] (fun v i wr => ∃ k : Nat, k ≤ count ∧ i = .int .i64 k ∧ Rw w.heap.size wr v k (difY (fun k => ab .f32 (wd xs k)) lag) ∧ w.Since w.heap.size wr) (fun _ i _ => count - (intOf i).toNat)
  case atStart => exact ⟨0, Nat.zero_le _, rfl, Rw.start w _ (Nat.le_refl _) _, (World.Since.refl _ _).alloc (Nat.le_refl _) _⟩
  case round =>
    obtain ⟨k, hk, rfl, hr, hs⟩ := hrel
    have HR := Lib.hid hr; have HS := Lib.hid hs
    clear hr hs
    by_cases hlt : k < count
    · obtain ⟨g, off, rfl, hg, hc⟩ := HA.out.2.2 (by omega)
      have d1 : wr.cell? ⟨g, off + k, none⟩ = some (.float .f32 (wd xs k)) := (HS.out.cell (a := ⟨g, off + k, none⟩) hg).trans (hc k (by omega))
      have d2 : wr.cell? ⟨g, off + (k + lag), none⟩ = some (.float .f32 (wd xs (k + lag))) := (HS.out.cell (a := ⟨g, off + (k + lag), none⟩) hg).trans (hc (k + lag) (by omega))
      have x1 : Hid (Fv .f32 (wd xs k) (ab .f32 (wd xs k))) := Lib.hid ⟨HA.out.2.1.at_ k, rfl⟩
      have x2 : Hid (Fv .f32 (wd xs (k + lag)) (ab .f32 (wd xs (k + lag)))) := Lib.hid ⟨HA.out.2.1.at_ (k + lag), rfl⟩
      have hsz := HS.out.size
      clear hc
      go_wp2_with fail
      refine Lo.wp_looseF_tail [26] 12 _ rfl rfl (by kernel_rfl) (by kernel_rfl) (fun _ _ _ h => h) ?_
      simp only [Nat.reduceSub, List.take_succ_cons, List.take_zero, List.drop_succ_cons, List.drop_zero, Act.eval, Act.put, List.setIfInBounds_toArray, List.set_cons_succ, List.set_cons_zero, Array.getD_eq_getD_getElem?, List.getElem?_toArray, List.getElem?_cons_succ, List.getElem?_cons_zero, Option.getD_some]
      repeat (first
        | (refine Lo.wpL_move rfl _ (.inl rfl) (by decide) ?_; simp only [Act.put, List.setIfInBounds_toArray, List.set_cons_succ, List.set_cons_zero])
        | (refine Lo.wpL_move rfl _ (.inr rfl) (by decide) ?_; simp only [Act.put, List.setIfInBounds_toArray, List.set_cons_succ, List.set_cons_zero])
        | (refine Lo.wpL_fop rfl _ _ _ _ rfl rfl (by decide) _ _ _ _ _ rfl rfl (by assumption) (by assumption) ?_; intro rr hrr; simp only [Act.put, List.setIfInBounds_toArray, List.set_cons_succ, List.set_cons_zero])
        | (refine Lo.wpL_wide rfl _ _ _ rfl (by decide) _ _ rfl (by kernel_rfl) (by kernel_rfl) (by assumption) ?_; intro rr hrr; simp only [Act.put, List.setIfInBounds_toArray, List.set_cons_succ, List.set_cons_zero])
        | (refine Lo.wpL_quiet rfl (by decide) (fun K hK => ?_); go_big_quiet_op; (refine hK _ ?_; clear hK K)))
      refine Lo.wpL_nil ?_
      refine Lo.after_fl rfl (by assumption) ?_; intro q26 h26; simp only [Act.put, List.setIfInBounds_toArray, List.set_cons_succ, List.set_cons_zero]
      refine Lo.after_nil ?_; intro nq
      have hy : Hid (Fv .f32 q26 (difY (fun k => ab .f32 (wd xs k)) lag k)) := h26
      go_wp2_with (first | (at_builtin; refine wpList_app1 rfl (.tmp 15) (.tmp 27) rfl w.heap.size _ k _ rfl _ _ rfl (by simp [go_sem]) (by omega) (by simp; omega) hy ((HR.out.drewN _).alloc _) ?_; intro v' w3 hR3 hS3))
      go_roundw
      case rel => exact ⟨k + 1, by omega, by go_num, hR3.out, HS.out.trans (((since_drewN (World.Since.refl _ _) _).alloc hsz _).trans hS3.out)⟩
      case measure => simp [intOf]; omega
    · obtain rfl : k = count := by omega
      obtain ⟨⟨pA, pn, px⟩, cp, rfl, hp, hg, ha⟩ := HR.out.done
      simp only at hp hg; subst hp
      have HG := Lib.hid hg.read; have HAA := Lib.hid ha; clear hg ha
      go_wp2_with fail
      refine (specDot0_any pA pA pn cp cp px px _ _ HG.out HG.out (by omega)).mono ?_
      rintro e w' ⟨r, m, rfl, hv, rfl⟩
      rw [dotO_dotY HAA.out] at hv
      have HV := Lib.hid hv; clear hv
      go_wp2
      go_ret
      exact ⟨r, rfl, HV, since_drewN HS.out m⟩
theorem lag_in {count lag : Int} {n : Nat} (h1 : inB count 1 n = true) (h2 : inB lag 0 (n - count) = true) : ∃ c l : Nat, count = c ∧ lag = l ∧ 1 ≤ c ∧ c + l ≤ n := by
  simp only [inB, Bool.and_eq_true, decide_eq_true_eq] at h1 h2
  exact ⟨count.toNat, lag.toNat, by omega, by omega, by omega, by omega⟩
def okLag (n : Nat) (lag count : Int) : Bool := decide (n ≤ 256) && inB count 1 n && inB lag 0 (n - count)
set_option maxHeartbeats 4000000 in
set_option maxRecDepth 100000 in
theorem specLagP_any (A : Option Addr) (n c : Nat) (xs : List Nat) (lag count : Int) (w : World) (hA : Fs w w.heap.size A n xs) (hn : n ≤ 1048576) (Z : O)
    (hZ : Hid (Z = if okLag n lag count then lagY (fun k => ab .f32 (wd xs k)) lag.toNat count.toNat else some 0)) :
    Calls Try.prog 28 #[.slice A n c, .int .i64 lag, .int .i64 count] w (PVB Z (okLag n lag count) w) := by
  have HA := Lib.hid hA
  clear hA
  cases h0 : decide (n ≤ 256)
  · have hfew : decide ((n : Int) ≤ 256) = false := decide_eq_false (by have := of_decide_eq_false h0; omega)
    have e1 : okLag n lag count = false := by unfold okLag; rw [h0]; rfl
    rw [e1] at hZ ⊢
    obtain rfl := hZ.out
    clear hZ
    go_enter Try.func28, Try.ntmps28
    go_wp2_with (first | (go_at_call 50; refine (specFew_any _ _ _ _ _ hfew).mono ?_; rintro e w' ⟨rfl, rfl⟩))
    go_ret2
    exact ⟨0, rfl, fv0, World.Since.refl _ _⟩
  · have hfew : decide ((n : Int) ≤ 256) = true := decide_eq_true (by have := of_decide_eq_true h0; omega)
    cases h1 : inB count 1 n
    · have e1 : okLag n lag count = false := by unfold okLag; rw [h0, h1]; rfl
      rw [e1] at hZ ⊢
      obtain rfl := hZ.out
      clear hZ
      go_enter Try.func28, Try.ntmps28
      go_wp2_with (first | (go_at_call 50; refine (specFew_any _ _ _ _ _ hfew).mono ?_; rintro e w' ⟨rfl, rfl⟩) | (go_at_call 58; with_reducible refine (specHold_b count 1 n false _ h1).mono ?_; rintro e w' ⟨rfl, rfl⟩))
      go_ret2
      exact ⟨0, rfl, fv0, World.Since.refl _ _⟩
    · have hb : 1 ≤ count ∧ count ≤ n := by simpa [inB] using h1
      have hb1 := hb.1; have hb2 := hb.2
      have hn2 := of_decide_eq_true h0
      cases h2 : inB lag 0 (n - count)
      · have e1 : okLag n lag count = false := by unfold okLag; rw [h0, h1, h2]; rfl
        rw [e1] at hZ ⊢
        obtain rfl := hZ.out
        clear hZ
        go_enter Try.func28, Try.ntmps28
        go_wp2_with (first | (go_at_call 50; refine (specFew_any _ _ _ _ _ hfew).mono ?_; rintro e w' ⟨rfl, rfl⟩) | (go_at_call 58; with_reducible refine (specHold_b count 1 n true _ h1).mono ?_; rintro e w' ⟨rfl, rfl⟩) | (go_at_call 58; with_reducible refine (specHold_b lag 0 (n - count) false _ h2).mono ?_; rintro e w' ⟨rfl, rfl⟩))
        go_ret2
        exact ⟨0, rfl, fv0, World.Since.refl _ _⟩
      · have e1 : okLag n lag count = true := by unfold okLag; rw [h0, h1, h2]; rfl
        rw [e1] at hZ ⊢
        obtain ⟨cN, lN, rfl, rfl, hc1, hcl⟩ := lag_in h1 h2
        obtain rfl := hZ.out
        clear hZ
        simp only [if_true, Int.toNat_natCast]
        have HL := Lib.hid fun v s => specLag_any A n c xs lN cN v s hn2 hcl
        go_enter Try.func28, Try.ntmps28
        go_wp2_with (first | (go_at_call 50; refine (specFew_any _ _ _ _ _ hfew).mono ?_; rintro e w' ⟨rfl, rfl⟩) | (go_at_call 58; with_reducible refine (specHold_b cN 1 n true _ h1).mono ?_; rintro e w' ⟨rfl, rfl⟩) | (go_at_call 58; with_reducible refine (specHold_b lN 0 (n - cN) true _ h2).mono ?_; rintro e w' ⟨rfl, rfl⟩) | fail)
        refine (HL.out _ HA.out).mono ?_
        rintro e w' ⟨r, rfl, hv, hs⟩
        have HS := Lib.hid hs; clear hs
        go_wp2
        go_ret2
        exact ⟨r, rfl, hv, HS.out⟩
end Go.Proofs.Ytcpcfgdncinpgaa

/- Meters: the power of differences, the program. -/
set_option linter.unusedVariables false
set_option linter.unusedSimpArgs false
namespace Go.Proofs.Ytcpcfgdncinpgaa
open Fl Go.RowKit
theorem implPower_any (A : Option Addr) (n c : Nat) (xs : List Nat) (w : World) (B : Nat) (h : Fs w B A n xs) (hn : n ≤ 256) :
    Calls Try.prog 72 #[.slice A n c] w (RetF .f32 (dotO xs xs n) w) := by
  have HD := Lib.hid (fun v (s : Fs v B A n xs) => implDot_any A n c xs A n c xs v B s s (by omega) (by omega))
  rw [if_pos ⟨hn, rfl⟩, decide_eq_true (show n ≤ 256 ∧ n = n from ⟨hn, rfl⟩)] at HD
  have H := Lib.hid h
  clear h
  go_enter Try.func72, Try.ntmps72
  go_wp2_with fail
  refine (HD.out _ H.out).mono ?_
  rintro e w' ⟨r1, m1, rfl, hv, rfl⟩
  have V1 : Hid (Fv .f32 r1 (dotO xs xs n)) := Lib.hid hv
  clear hv
  go_wp2
  go_ret
  exact ⟨r1, m1, rfl, V1.out, rfl⟩
set_option maxHeartbeats 4000000 in
set_option maxRecDepth 100000 in
theorem implLag_any (A : Option Addr) (n c : Nat) (xs : List Nat) (lag count : Nat) (w : World) (hA : Fs w w.heap.size A n xs) (hn : n ≤ 256) (hl : count + lag ≤ n) :
    Calls Try.prog 68 #[.slice A n c, .int .i64 lag, .int .i64 count] w fun e w' => ∃ r, e = .returned (.float .f32 r) ∧ Hid (Fv .f32 r (lagY (fun k => ab .f32 (wd xs k)) lag count)) ∧ w.Since w.heap.size w' := by
  have HA := Lib.hid hA
  have hmk := fun W => run_make_row' (P := Try.prog) 22 23 (.float .f32 0) 4 Try.underlying22 Try.infoF rfl .i64 .i64 count (by omega) (by omega) W
  clear hA
  go_enter Try.func68, Try.ntmps68
  go_wp2
  go_loopw [13] (fun i wr => ∃ (k : Nat) (r : Nat → Nat), k ≤ count ∧ i = .int .i64 k ∧ GCells wr w.heap.size count (partial_ k r) ∧ (∀ j, j < k → Hid (Fv .f32 (r j) (difY (fun k => ab .f32 (wd xs k)) lag j))) ∧ w.Since w.heap.size wr) (fun i _ => count - (intOf i).toNat)
  case atStart =>
    have hr := (World.rowIs_made w (.float .f32 0) count 23)
    obtain ⟨cs, hb, _, hc⟩ := hr
    exact ⟨0, fun _ => 0, Nat.zero_le _, rfl, ⟨cs, hb, fun j hj => hc j hj⟩, fun j hj => by omega, (World.Since.refl _ _).alloc (Nat.le_refl _) _⟩
  case round =>
    obtain ⟨k, r, hk, rfl, hcs, hr, hs⟩ := hrel
    have HC := Lib.hid hcs; have HR := Lib.hid hr; have HS := Lib.hid hs
    clear hcs hr hs
    by_cases hlt : k < count
    · obtain ⟨g, off, rfl, hg, hc⟩ := HA.out.2.2 (by omega)
      have d1 : wr.cell? ⟨g, off + k, none⟩ = some (.float .f32 (wd xs k)) := (HS.out.cell (a := ⟨g, off + k, none⟩) hg).trans (hc k (by omega))
      have d2 : wr.cell? ⟨g, off + (k + lag), none⟩ = some (.float .f32 (wd xs (k + lag))) := (HS.out.cell (a := ⟨g, off + (k + lag), none⟩) hg).trans (hc (k + lag) (by omega))
      have x1 : Hid (Fv .f32 (wd xs k) (ab .f32 (wd xs k))) := Lib.hid ⟨HA.out.2.1.at_ k, rfl⟩
      have x2 : Hid (Fv .f32 (wd xs (k + lag)) (ab .f32 (wd xs (k + lag)))) := Lib.hid ⟨HA.out.2.1.at_ (k + lag), rfl⟩
      have hc2 : wr.cell? ⟨w.heap.size, k, none⟩ = some (partial_ k r k) := HC.out.cell hlt
      have hf2 : wr.frozen? ⟨w.heap.size, k, none⟩ = false := HC.out.free _
      clear hc
      go_wp2_with fail
      refine Lo.wp_loose_tail [28] 14 (by kernel_rfl) (by kernel_rfl) ?_
      simp only [List.take_succ_cons, List.take_zero, List.drop_succ_cons, List.drop_zero]
      repeat (first
        | (refine Lo.wpL_move rfl _ (.inl rfl) (by decide) ?_; simp only [Act.put, List.setIfInBounds_toArray, List.set_cons_succ, List.set_cons_zero])
        | (refine Lo.wpL_move rfl _ (.inr rfl) (by decide) ?_; simp only [Act.put, List.setIfInBounds_toArray, List.set_cons_succ, List.set_cons_zero])
        | (refine Lo.wpL_fop rfl _ _ _ _ rfl rfl (by decide) _ _ _ _ _ rfl rfl (by assumption) (by assumption) ?_; intro rr hrr; simp only [Act.put, List.setIfInBounds_toArray, List.set_cons_succ, List.set_cons_zero])
        | (refine Lo.wpL_wide rfl _ _ _ rfl (by decide) _ _ rfl (by kernel_rfl) (by kernel_rfl) (by assumption) ?_; intro rr hrr; simp only [Act.put, List.setIfInBounds_toArray, List.set_cons_succ, List.set_cons_zero])
        | (refine Lo.wpL_quiet rfl (by decide) (fun K hK => ?_); go_big_quiet_op; (refine hK _ ?_; clear hK K)))
      refine Lo.wpL_nil ?_
      refine Lo.after_fl rfl (by assumption) ?_; intro q28 h28; simp only [Act.put, List.setIfInBounds_toArray, List.set_cons_succ, List.set_cons_zero]
      refine Lo.after_nil ?_; intro nq
      have hy : Hid (Fv .f32 q28 (difY (fun k => ab .f32 (wd xs k)) lag k)) := h28
      go_wp2
      go_roundw
      case rel =>
        refine ⟨k + 1, fun j => if j = k then q28 else r j, by omega, by go_num, ((HC.out.drewN _).set k _).congr (fun j hj => ?_), fun j hj => ?_, (since_drewN HS.out _).setCell (Nat.le_refl _) _⟩
        · unfold partial_
          dsimp only
          by_cases e : j = k
          · rw [if_pos e, if_pos (by omega), if_pos e]
          · rw [if_neg e, if_neg e]
            by_cases e2 : j < k
            · rw [if_pos e2, if_pos (by omega)]
            · rw [if_neg e2, if_neg (by omega)]
        · show Hid (Fv .f32 (if j = k then q28 else r j) _)
          by_cases e : j = k
          · subst e; rw [if_pos rfl]; exact hy
          · rw [if_neg e]; exact HR.out j (by omega)
      case measure => simp [intOf]; omega
    · obtain rfl : k = count := by omega
      have hG : Fs wr wr.heap.size (some ⟨w.heap.size, 0, none⟩) k (lst k r) := by
        refine ⟨lst_len _ _, fun y hy => ?_, fun _ => ?_⟩
        · obtain ⟨i, hi, rfl⟩ := List.mem_map.1 hy
          exact (HR.out i (List.mem_range.1 hi)).out.1
        · refine ⟨_, 0, rfl, HC.out.lt, fun j hj => ?_⟩
          rw [Nat.zero_add, HC.out.cell hj]; unfold partial_ fv; rw [if_pos hj, lst_wd hj]
      have HG := Lib.hid hG; clear hG
      go_wp2_with fail
      refine (implPower_any _ k _ (lst k r) _ _ HG.out (by omega)).mono ?_
      rintro e w' ⟨r1, m, rfl, hv, rfl⟩
      rw [dotO_dotY (X := difY (fun k => ab .f32 (wd xs k)) lag) (fun j hj => by rw [lst_wd hj]; exact (HR.out j hj).out.2)] at hv
      have HV := Lib.hid hv; clear hv
      go_wp2
      go_ret
      exact ⟨r1, rfl, HV, since_drewN HS.out m⟩
theorem implPart_b (x : Int) (b : Bool) (w : World) (h : inB x 1 256 = b) :
    Calls Try.prog 60 #[.int .i64 x] w fun e w' => e = .returned (.bool b) ∧ w.Since w.heap.size w' := by
  go_enter Try.func60, Try.ntmps60
  go_wp2_with (go_at_call 67; refine (allow_any _ _ _ _).mono ?_; rintro e w1 ⟨rfl, hs⟩; rw [h])
  go_ret
  exact ⟨rfl, hs⟩
theorem okLag_impl (n : Nat) (lag count : Int) : okLag n lag count = (decide (n ≤ 256) && inB count 1 256 && inB lag 0 (n - count)) := by
  unfold okLag inB
  rw [Bool.eq_iff_iff]
  simp only [Bool.and_eq_true, decide_eq_true_eq]
  omega
set_option maxHeartbeats 4000000 in
set_option maxRecDepth 100000 in
theorem implLagP_any (A : Option Addr) (n c : Nat) (xs : List Nat) (lag count : Int) (w : World) (hA : Fs w w.heap.size A n xs) (hn : n ≤ 1048576) (Z : O)
    (hZ : Hid (Z = if okLag n lag count then lagY (fun k => ab .f32 (wd xs k)) lag.toNat count.toNat else some 0)) :
    Calls Try.prog 29 #[.slice A n c, .int .i64 lag, .int .i64 count] w (PVB Z (okLag n lag count) w) := by
  have HA := Lib.hid hA
  clear hA
  rw [okLag_impl] at hZ ⊢
  cases h0 : decide (n ≤ 256)
  · have hfew : decide ((n : Int) ≤ 256) = false := decide_eq_false (by have := of_decide_eq_false h0; omega)
    simp only [h0, Bool.false_and, Bool.false_eq_true, if_false] at hZ ⊢
    obtain rfl := hZ.out
    clear hZ
    go_enter Try.func29, Try.ntmps29
    go_wp2_with (first | (go_at_call 53; refine (implSamples_b _ _ _ _ _ hfew).mono ?_; rintro e w' ⟨rfl, rfl⟩))
    go_ret2
    exact ⟨0, rfl, fv0, World.Since.refl _ _⟩
  · have hfew : decide ((n : Int) ≤ 256) = true := decide_eq_true (by have := of_decide_eq_true h0; omega)
    have hn2 := of_decide_eq_true h0
    cases h1 : inB count 1 256
    · simp only [h0, h1, Bool.false_and, Bool.and_false, Bool.false_eq_true, if_false] at hZ ⊢
      obtain rfl := hZ.out
      clear hZ
      go_enter Try.func29, Try.ntmps29
      go_wp2_with (first | (go_at_call 53; refine (implSamples_b _ _ _ _ _ hfew).mono ?_; rintro e w' ⟨rfl, rfl⟩) | (go_at_call 60; refine (implPart_b _ _ _ h1).mono ?_; rintro e w1 ⟨rfl, hs⟩))
      go_ret2
      exact ⟨0, rfl, fv0, hs⟩
    · have hb : 1 ≤ count ∧ count ≤ 256 := by simpa [inB] using h1
      have hb1 := hb.1; have hb2 := hb.2
      cases h2 : inB lag 0 (n - count)
      · simp only [h0, h1, h2, Bool.and_false, Bool.false_eq_true, if_false] at hZ ⊢
        obtain rfl := hZ.out
        clear hZ
        go_enter Try.func29, Try.ntmps29
        go_wp2_with (first | (go_at_call 53; refine (implSamples_b _ _ _ _ _ hfew).mono ?_; rintro e w' ⟨rfl, rfl⟩) | fail)
        refine (implPart_b _ _ _ h1).mono ?_
        rintro e w1 ⟨rfl, hs⟩
        have HS := Lib.hid hs; clear hs
        go_wp2_with fail
        refine (allow_any _ _ _ _).mono ?_
        rintro e w2 ⟨rfl, hs⟩
        rw [h2]
        have HS2 := Lib.hid (since_step HS.out hs); clear hs
        go_wp2
        go_ret2
        exact ⟨0, rfl, fv0, HS2.out⟩
      · simp only [h0, h1, h2, Bool.and_self, if_true] at hZ ⊢
        obtain rfl := hZ.out
        clear hZ
        obtain ⟨cN, rfl⟩ : ∃ m : Nat, count = m := ⟨count.toNat, by omega⟩
        have hb' : 0 ≤ lag ∧ lag ≤ n - cN := by simpa [inB] using h2
        obtain ⟨lN, rfl⟩ : ∃ m : Nat, lag = m := ⟨lag.toNat, by omega⟩
        simp only [Int.toNat_natCast]
        have HL := Lib.hid fun v s => implLag_any A n c xs lN cN v s hn2 (by omega)
        go_enter Try.func29, Try.ntmps29
        go_wp2_with (first | (go_at_call 53; refine (implSamples_b _ _ _ _ _ hfew).mono ?_; rintro e w' ⟨rfl, rfl⟩) | fail)
        refine (implPart_b _ _ _ h1).mono ?_
        rintro e w1 ⟨rfl, hs⟩
        have HS := Lib.hid hs; clear hs
        go_wp2_with fail
        refine (allow_any _ _ _ _).mono ?_
        rintro e w2 ⟨rfl, hs⟩
        rw [h2]
        have HS2 := Lib.hid (since_step HS.out hs); clear hs
        go_wp2_with fail
        refine (HL.out _ (HA.out.now HS2.out)).mono ?_
        rintro e w' ⟨r, rfl, hv, hs⟩
        have HS3 := Lib.hid (since_step HS2.out hs); clear hs
        go_wp2
        go_ret2
        exact ⟨r, rfl, hv, HS3.out⟩
end Go.Proofs.Ytcpcfgdncinpgaa

/- Meters: two channels: how alike, and which is louder. -/
set_option linter.unusedVariables false
set_option linter.unusedSimpArgs false
namespace Go.Proofs.Ytcpcfgdncinpgaa
open Fl Go.RowKit
def okTwo (n m : Nat) : Bool := decide (n ≤ 256) && decide (0 < n) && decide (n = m)
theorem specTwo_b (A C : Option Addr) (n c m d : Nat) (b : Bool) (w : World) (h : okTwo n m = b) :
    Calls Try.prog 84 #[.slice A n c, .slice C m d] w fun e w' => e = .returned (.bool b) ∧ w = w' := by
  subst h
  cases h0 : decide (n ≤ 256)
  · have hfew : decide ((n : Int) ≤ 256) = false := decide_eq_false (by have := of_decide_eq_false h0; omega)
    go_enter Try.func84, Try.ntmps84
    go_wp2_with (first | (go_at_call 50; refine (specFew_any _ _ _ _ _ hfew).mono ?_; rintro e w' ⟨rfl, rfl⟩))
    go_ret
    exact ⟨ret_bool (by unfold okTwo; rw [h0]; rfl), rfl⟩
  · have hfew : decide ((n : Int) ≤ 256) = true := decide_eq_true (by have := of_decide_eq_true h0; omega)
    by_cases h1 : 0 < n
    all_goals
      go_enter Try.func84, Try.ntmps84
      go_wp2_with (first | (go_at_call 50; refine (specFew_any _ _ _ _ _ hfew).mono ?_; rintro e w' ⟨rfl, rfl⟩))
      go_ret
      exact ⟨ret_bool (by unfold okTwo; rw [h0, Bool.eq_iff_iff]; simp; omega), rfl⟩
theorem chanClos_any (C : Option Addr) (m d n gb : Nat) (b : Bool) (W : World) (h : decide (m = n) = b) (hc : W.cell? ⟨gb, 0, none⟩ = some (.int .i64 (n : Int))) :
    Calls Try.prog 119 #[.slice C m d, .pointer (some ⟨gb, 0, none⟩)] W fun e w' => e = .returned (.bool b) ∧ W = w' := by
  subst h
  go_enter Try.func119, Try.ntmps119
  go_wp2
  go_ret
  exact ⟨ret_bool (by rw [Bool.eq_iff_iff]; simp; try omega), rfl⟩
theorem allTwo_any (p gb : Nat) (A C : Option Addr) (n c m d : Nat) (b : Bool) (W : World) (h : decide (m = n) = b) (hb : W.cell? ⟨gb, 0, none⟩ = some (.int .i64 (n : Int))) (h0 : W.cell? ⟨p, 0, none⟩ = some (.slice A n c)) (h1 : W.cell? ⟨p, 1, none⟩ = some (.slice C m d)) :
    Calls Try.prog 120 #[.slice (some ⟨p, 0, none⟩) 2 2, .func (.func 119) #[] #[.pointer (some ⟨gb, 0, none⟩)]] W fun e w' => e = .returned (.bool b) ∧ W = w' := by
  go_enter Try.func120, Try.ntmps120
  go_wp2
  go_loopw [9] (fun i wr => ∃ k : Nat, k ≤ 2 ∧ i = .int .i64 k ∧ (k = 2 → b = true) ∧ W = wr) (fun i _ => 2 - (intOf i).toNat)
  case atStart => exact ⟨0, by omega, rfl, fun h => by omega, rfl⟩
  case round =>
    obtain ⟨k, hk, rfl, hz, rfl⟩ := hrel
    obtain rfl | rfl | rfl : k = 0 ∨ k = 1 ∨ k = 2 := by omega
    · go_wp2_with (go_at_call 119; refine (chanClos_any A n c n gb true _ (decide_eq_true rfl) hb).mono ?_; rintro e w2 ⟨rfl, rfl⟩)
      go_roundw
      case rel => exact ⟨1, by omega, rfl, fun h => by omega, trivial⟩
      case measure => simp [intOf]
    · cases b
      · go_wp2_with (go_at_call 119; refine (chanClos_any C m d n gb false _ h hb).mono ?_; rintro e w2 ⟨rfl, rfl⟩)
        go_ret
        exact ⟨rfl, rfl⟩
      · go_wp2_with (go_at_call 119; refine (chanClos_any C m d n gb true _ h hb).mono ?_; rintro e w2 ⟨rfl, rfl⟩)
        go_roundw
        case rel => exact ⟨2, by omega, rfl, fun h => trivial, trivial⟩
        case measure => simp [intOf]
    · have hb2 := hz rfl
      subst hb2
      go_wp2
      go_ret
      exact ⟨rfl, rfl⟩
set_option maxHeartbeats 4000000 in
set_option maxRecDepth 100000 in
theorem implTwo_b (p : Nat) (A C : Option Addr) (n c m d : Nat) (b : Bool) (W : World) (hp : p < W.heap.size) (h : okTwo n m = b) (h0 : W.cell? ⟨p, 0, none⟩ = some (.slice A n c)) (h1 : W.cell? ⟨p, 1, none⟩ = some (.slice C m d)) (hn : n ≤ 1048576) :
    Calls Try.prog 87 #[.slice (some ⟨p, 0, none⟩) 2 2] W fun e w' => e = .returned (.bool b) ∧ W.Since W.heap.size w' := by
  subst h
  have s1 : W.Since W.heap.size (W.alloc (.cells #[.int .i64 (n : Int)] 3)) := (World.Since.refl _ _).alloc (Nat.le_refl _) _
  cases h5 : inB n 1 256
  · go_enter Try.func87, Try.ntmps87
    go_wp2_with (go_at_call 60; refine (implPart_b _ _ _ h5).mono ?_; rintro e w1 ⟨rfl, hs⟩)
    go_ret
    exact ⟨ret_bool (by unfold okTwo; simp only [inB] at h5; rw [Bool.eq_iff_iff] at h5 ⊢; simp at h5 ⊢; omega), s1.trans (since_mono hs s1.size)⟩
  · go_enter Try.func87, Try.ntmps87
    go_wp2_with fail
    refine (implPart_b _ _ _ h5).mono ?_
    rintro e w1 ⟨rfl, hs⟩
    have c1 : w1.cell? ⟨W.heap.size, 0, none⟩ = some (.int .i64 (n : Int)) := (hs.cell (a := ⟨W.heap.size, 0, none⟩) (by simp)).trans (by simp [go_sem])
    have s2 := s1.trans (since_mono hs s1.size)
    have d0 := (s2.cell (a := ⟨p, 0, none⟩) hp).trans h0
    have d1 := (s2.cell (a := ⟨p, 1, none⟩) hp).trans h1
    have S2 := Lib.hid s2
    clear hs s1 s2
    go_wp2_with fail
    refine (allTwo_any p W.heap.size A C n c m d (decide (m = n)) _ rfl c1 d0 d1).mono ?_
    rintro e w' ⟨rfl, rfl⟩
    go_wp2
    go_ret
    exact ⟨ret_bool (by unfold okTwo; simp only [inB] at h5; rw [Bool.eq_iff_iff] at h5 ⊢; simp at h5 ⊢; omega), S2.out⟩
def likeO (xs ys : List Nat) (n : Nat) : O := qu (dotO xs ys n) (rootO (mu (dotO xs xs n) (dotO ys ys n)))
def balO (L R : O) : O := if eqO (ad R L) (some 0) then some 0 else qu (su R L) (ad R L)
theorem okTwo_yes {n m : Nat} (h : okTwo n m = true) : n ≤ 256 ∧ 0 < n ∧ n = m := by unfold okTwo at h; simpa [and_assoc] using h
set_option maxHeartbeats 4000000 in
set_option maxRecDepth 100000 in
theorem specLike_any (A : Option Addr) (n c : Nat) (xs : List Nat) (C : Option Addr) (m d : Nat) (ys : List Nat) (w : World) (hA : Fs w w.heap.size A n xs) (hn : n ≤ 1048576) (hC : Fs w w.heap.size C m ys) (hm : m ≤ 1048576) (Z : O)
    (hZ : Hid (Z = if okTwo n m then likeO xs ys n else some 0)) :
    Calls Try.prog 37 #[.slice A n c, .slice C m d] w (PVB Z (okTwo n m) w) := by
  have HA := Lib.hid hA; have HC := Lib.hid hC
  clear hA hC
  cases h0 : okTwo n m
  · rw [h0] at hZ
    obtain rfl := hZ.out
    clear hZ
    go_enter Try.func37, Try.ntmps37
    go_wp2_with (go_at_call 84; refine (specTwo_b _ _ _ _ _ _ _ _ h0).mono ?_; rintro e w1 ⟨rfl, rfl⟩)
    go_ret2
    exact ⟨0, rfl, fv0, World.Since.refl _ _⟩
  · rw [h0] at hZ
    simp only [if_true] at hZ
    obtain ⟨h1, h2, rfl⟩ := okTwo_yes h0
    have H0 := Lib.hid h0; clear h0
    go_enter Try.func37, Try.ntmps37
    go_wp2_with (first | (go_at_call 84; refine (specTwo_b _ _ _ _ _ _ _ _ H0.out).mono ?_; rintro e w1 ⟨rfl, rfl⟩) | fail)
    refine (specDot0_any A C n c d xs ys _ _ HA.out HC.out hn).mono ?_
    rintro e w1 ⟨r1, m1, rfl, hv, rfl⟩
    have V1 := Lib.hid hv; clear hv
    go_wp2_with fail
    refine (specDot0_any A A n c c xs xs _ _ (HA.out.drewN m1) (HA.out.drewN m1) hn).mono ?_
    rintro e w1 ⟨r2, m2, rfl, hv, rfl⟩
    have V2 := Lib.hid hv; clear hv
    go_wp2_with fail
    refine (specDot0_any C C n d d ys ys _ _ (HC.out.drewN (m1 + m2)) (HC.out.drewN (m1 + m2)) hn).mono ?_
    rintro e w1 ⟨r3, m3, rfl, hv, rfl⟩
    have V3 := Lib.hid hv; clear hv
    go_wp2_with (first | (with_reducible_and_instances refine Lo.wpList_fo _ rfl _ _ _ _ _ rfl _ _ _ _ _ rfl rfl rfl (by assumption) (by assumption) ?_; intro rr nn hrr) | fail)
    refine (specSqrt_any _ _ hrr.out.1).mono ?_
    rintro e w' ⟨r4, m4, rfl, hv, rfl⟩
    rw [hrr.out.2] at hv
    have V4 := Lib.hid hv; clear hv
    clear hrr
    go_wp2_with (first | (with_reducible_and_instances refine Lo.wpList_fo _ rfl _ _ _ _ _ rfl _ _ _ _ _ rfl rfl rfl (by assumption) (by assumption) ?_; intro rr nn hrr) | fail)
    go_ret2
    exact ⟨_, rfl, by rw [hZ.out]; exact hrr, by (repeat (first | (with_reducible refine Fl.sinDrew ?_) | (with_reducible refine World.Since.drew ?_) | (with_reducible refine Fl.sinSet ?_ ?_; rotate_left) | (with_reducible refine Fl.sinAlloc ?_ ?_; rotate_left) | with_reducible exact World.Since.refl _ _ | with_reducible assumption | (with_reducible refine Fl.sinStep (by with_reducible assumption) ?_))); all_goals (first | omega | (simp; done) | (simp; omega) | (simp [go_sem]; done) | (simp [go_sem]; omega))⟩
set_option maxHeartbeats 4000000 in
set_option maxRecDepth 100000 in
theorem implLike_any (A : Option Addr) (n c : Nat) (xs : List Nat) (C : Option Addr) (m d : Nat) (ys : List Nat) (w : World) (hA : Fs w w.heap.size A n xs) (hn : n ≤ 1048576) (hC : Fs w w.heap.size C m ys) (hm : m ≤ 1048576) (Z : O)
    (hZ : Hid (Z = if okTwo n m then likeO xs ys n else some 0)) :
    Calls Try.prog 38 #[.slice A n c, .slice C m d] w (PVB Z (okTwo n m) w) := by
  have HA := Lib.hid hA; have HC := Lib.hid hC
  clear hA hC
  obtain ⟨W1, hW1⟩ : ∃ W, W = w.alloc (.cells #[.slice A n c, .slice C m d] 22) := ⟨_, rfl⟩
  have S1 : Hid (w.Since w.heap.size W1) := Lib.hid (by rw [hW1]; exact (World.Since.refl _ _).alloc (Nat.le_refl _) _)
  have Z1 : Hid (W1.heap.size = w.heap.size + 1) := Lib.hid (by rw [hW1]; simp)
  have C1 : Hid (W1.cell? ⟨w.heap.size, 0, none⟩ = some (.slice A n c) ∧ W1.cell? ⟨w.heap.size, 1, none⟩ = some (.slice C m d)) := Lib.hid (by rw [hW1]; exact ⟨by simp [go_sem], by simp [go_sem]⟩)
  cases h0 : okTwo n m
  · rw [h0] at hZ
    obtain rfl := hZ.out
    clear hZ
    go_enter Try.func38, Try.ntmps38
    go_wp2_with fail
    rw [← hW1]
    refine (implTwo_b w.heap.size A C n c m d false W1 (by have := Z1.out; omega) h0 C1.out.1 C1.out.2 hn).mono ?_
    rintro e w2 ⟨rfl, hs⟩
    have S2 := Lib.hid (S1.out.trans (since_mono hs S1.out.size)); clear hs
    go_wp2
    go_ret2
    exact ⟨0, rfl, fv0, S2.out⟩
  · rw [h0] at hZ
    simp only [if_true] at hZ
    obtain ⟨h1, h2, rfl⟩ := okTwo_yes h0
    have H0 := Lib.hid h0; clear h0
    go_enter Try.func38, Try.ntmps38
    go_wp2_with fail
    rw [← hW1]
    refine (implTwo_b w.heap.size A C n c n d true W1 (by have := Z1.out; omega) H0.out C1.out.1 C1.out.2 hn).mono ?_
    rintro e w2 ⟨rfl, hs⟩
    have S2 := Lib.hid (S1.out.trans (since_mono hs S1.out.size)); clear hs
    have FA := Lib.hid (HA.out.now S2.out); have FC := Lib.hid (HC.out.now S2.out)
    have HD := Lib.hid (implDot_any A n c xs C n d ys w2 _ FA.out FC.out hn hn)
    rw [if_pos ⟨h1, rfl⟩, decide_eq_true (show n ≤ 256 ∧ n = n from ⟨h1, rfl⟩)] at HD
    go_wp2_with fail
    refine HD.out.mono ?_
    rintro e w1 ⟨r1, m1, rfl, hv, rfl⟩
    have V1 := Lib.hid hv; clear hv HD
    go_wp2_with fail
    refine (implPower_any A n c xs _ _ (FA.out.drewN m1) h1).mono ?_
    rintro e w1 ⟨r2, m2, rfl, hv, rfl⟩
    have V2 := Lib.hid hv; clear hv
    go_wp2_with fail
    refine (implPower_any C n d ys _ _ (FC.out.drewN (m1 + m2)) h1).mono ?_
    rintro e w1 ⟨r3, m3, rfl, hv, rfl⟩
    have V3 := Lib.hid hv; clear hv
    go_wp2_with (first | (with_reducible_and_instances refine Lo.wpList_fo _ rfl _ _ _ _ _ rfl _ _ _ _ _ rfl rfl rfl (by assumption) (by assumption) ?_; intro rr nn hrr) | fail)
    refine (implRoot_any _ _ hrr.out.1).mono ?_
    rintro e w' ⟨r4, m4, rfl, hv, rfl⟩
    rw [hrr.out.2] at hv
    have V4 := Lib.hid hv; clear hv
    clear hrr
    go_wp2_with (first | (with_reducible_and_instances refine Lo.wpList_fo _ rfl _ _ _ _ _ rfl _ _ _ _ _ rfl rfl rfl (by assumption) (by assumption) ?_; intro rr nn hrr) | fail)
    go_ret2
    exact ⟨_, rfl, by rw [hZ.out]; exact hrr, by (repeat (first | (with_reducible refine Fl.sinDrew ?_) | (with_reducible refine since_drewN ?_ _) | with_reducible exact S2.out))⟩
theorem okTwo_mean {n m : Nat} (h : okTwo n m = true) (xs : List Nat) : meanR xs n = meanO xs n ∧ meanB n = true := by
  obtain ⟨h1, h2, rfl⟩ := okTwo_yes h
  exact ⟨meanR_yes h1 h2, by unfold meanB; rw [decide_eq_true h1, decide_eq_true h2]; rfl⟩
set_option maxHeartbeats 4000000 in
set_option maxRecDepth 100000 in
theorem specBal_any (A : Option Addr) (n c : Nat) (xs : List Nat) (C : Option Addr) (m d : Nat) (ys : List Nat) (w : World) (hA : Fs w w.heap.size A n xs) (hn : n ≤ 1048576) (hC : Fs w w.heap.size C m ys) (hm : m ≤ 1048576) (Z : O)
    (hZ : Hid (Z = if okTwo n m then balO (meanO xs n) (meanO ys n) else some 0)) :
    Calls Try.prog 39 #[.slice A n c, .slice C m d] w (PVB Z (okTwo n m) w) := by
  have HA := Lib.hid hA; have HC := Lib.hid hC
  clear hA hC
  cases h0 : okTwo n m
  · rw [h0] at hZ
    obtain rfl := hZ.out
    clear hZ
    go_enter Try.func39, Try.ntmps39
    go_wp2_with (go_at_call 84; refine (specTwo_b _ _ _ _ _ _ _ _ h0).mono ?_; rintro e w1 ⟨rfl, rfl⟩)
    go_ret2
    exact ⟨0, rfl, fv0, World.Since.refl _ _⟩
  · rw [h0] at hZ
    simp only [if_true] at hZ
    have k1 := okTwo_mean h0 xs; have k2 := okTwo_mean h0 ys
    obtain ⟨h1, h2, rfl⟩ := okTwo_yes h0
    have H0 := Lib.hid h0; clear h0
    have HM1 := Lib.hid (specMean_any A n c xs w _ HA.out hn)
    have HM2 := Lib.hid fun k => specMean_any C n d ys (w.drewN k) _ (HC.out.drewN k) hn
    rw [k1.1, k1.2] at HM1
    rw [k2.1, k2.2] at HM2
    clear k1 k2
    go_enter Try.func39, Try.ntmps39
    go_wp2_with (first | (go_at_call 84; refine (specTwo_b _ _ _ _ _ _ _ _ H0.out).mono ?_; rintro e w1 ⟨rfl, rfl⟩) | fail)
    refine HM1.out.mono ?_
    rintro e w1 ⟨r1, m1, rfl, hv, rfl⟩
    have V1 := Lib.hid hv; clear hv
    go_wp2_with fail
    refine (HM2.out m1).mono ?_
    rintro e w1 ⟨r2, m2, rfl, hv, rfl⟩
    have V2 := Lib.hid hv; clear hv
    obtain ⟨L, hL⟩ : ∃ L, L = meanO xs n := ⟨_, rfl⟩
    obtain ⟨R, hR⟩ : ∃ R, R = meanO ys n := ⟨_, rfl⟩
    rw [← hL] at V1 hZ; rw [← hR] at V2 hZ
    clear hL hR HM1 HM2
    cases e1 : eqO (ad R L) (some 0)
    · have e2 : Z = qu (su R L) (ad R L) := by rw [hZ.out]; unfold balO; rw [e1]; rfl
      have E2 := Lib.hid e2
      clear e2 hZ
      have E1 : ∀ r, Hid (Fv .f32 r (opO .add .f32 R L)) → (FloatKind.f32.format.order r 0 == some .eq) = false := fun r hr => (eq_fv hr fv0).trans e1
      have EH := Lib.hid E1; clear E1 e1
      go_wp2_with (first | (with_reducible_and_instances refine Lo.wpList_fo _ rfl .add _ _ _ _ rfl _ _ _ _ _ rfl rfl rfl V2 V1 ?_; intro rr nn hrr; have hne := EH.out _ hrr) | (with_reducible_and_instances refine Lo.wpList_fo _ rfl .sub _ _ _ _ rfl _ _ _ _ _ rfl rfl rfl V2 V1 ?_; intro rs nn hrs) | (with_reducible_and_instances refine Lo.wpList_fo _ rfl .quo _ _ _ _ rfl _ _ _ _ _ rfl rfl rfl hrs (by assumption) ?_; intro rq nn hrq))
      go_ret2
      exact ⟨_, rfl, by rw [E2.out]; exact hrq, by (repeat (first | (with_reducible refine Fl.sinDrew ?_) | (with_reducible refine World.Since.drew ?_) | (with_reducible refine Fl.sinSet ?_ ?_; rotate_left) | (with_reducible refine Fl.sinAlloc ?_ ?_; rotate_left) | with_reducible exact World.Since.refl _ _ | with_reducible assumption | (with_reducible refine Fl.sinStep (by with_reducible assumption) ?_))); all_goals (first | omega | (simp; done) | (simp; omega) | (simp [go_sem]; done) | (simp [go_sem]; omega))⟩
    · have e2 : Z = some 0 := by rw [hZ.out]; unfold balO; rw [e1]; rfl
      subst e2
      clear hZ
      have E1 : ∀ r, Hid (Fv .f32 r (opO .add .f32 R L)) → (FloatKind.f32.format.order r 0 == some .eq) = true := fun r hr => (eq_fv hr fv0).trans e1
      have EH := Lib.hid E1; clear E1 e1
      go_wp2_with (first | (with_reducible_and_instances refine Lo.wpList_fo _ rfl .add _ _ _ _ rfl _ _ _ _ _ rfl rfl rfl V2 V1 ?_; intro rr nn hrr; have heq := EH.out _ hrr))
      go_ret2
      exact ⟨0, rfl, fv0, by (repeat (first | (with_reducible refine Fl.sinDrew ?_) | (with_reducible refine World.Since.drew ?_) | (with_reducible refine Fl.sinSet ?_ ?_; rotate_left) | (with_reducible refine Fl.sinAlloc ?_ ?_; rotate_left) | with_reducible exact World.Since.refl _ _ | with_reducible assumption | (with_reducible refine Fl.sinStep (by with_reducible assumption) ?_))); all_goals (first | omega | (simp; done) | (simp; omega) | (simp [go_sem]; done) | (simp [go_sem]; omega))⟩
set_option maxHeartbeats 4000000 in
set_option maxRecDepth 100000 in
theorem implBal_any (A : Option Addr) (n c : Nat) (xs : List Nat) (C : Option Addr) (m d : Nat) (ys : List Nat) (w : World) (hA : Fs w w.heap.size A n xs) (hn : n ≤ 1048576) (hC : Fs w w.heap.size C m ys) (hm : m ≤ 1048576) (Z : O)
    (hZ : Hid (Z = if okTwo n m then balO (meanO xs n) (meanO ys n) else some 0)) :
    Calls Try.prog 40 #[.slice A n c, .slice C m d] w (PVB Z (okTwo n m) w) := by
  have HA := Lib.hid hA; have HC := Lib.hid hC
  clear hA hC
  obtain ⟨W1, hW1⟩ : ∃ W, W = w.alloc (.cells #[.slice A n c, .slice C m d] 22) := ⟨_, rfl⟩
  have S1 : Hid (w.Since w.heap.size W1) := Lib.hid (by rw [hW1]; exact (World.Since.refl _ _).alloc (Nat.le_refl _) _)
  have Z1 : Hid (W1.heap.size = w.heap.size + 1) := Lib.hid (by rw [hW1]; simp)
  have C1 : Hid (W1.cell? ⟨w.heap.size, 0, none⟩ = some (.slice A n c) ∧ W1.cell? ⟨w.heap.size, 1, none⟩ = some (.slice C m d)) := Lib.hid (by rw [hW1]; exact ⟨by simp [go_sem], by simp [go_sem]⟩)
  cases h0 : okTwo n m
  · rw [h0] at hZ
    obtain rfl := hZ.out
    clear hZ
    go_enter Try.func40, Try.ntmps40
    go_wp2_with fail
    rw [← hW1]
    refine (implTwo_b w.heap.size A C n c m d false W1 (by have := Z1.out; omega) h0 C1.out.1 C1.out.2 hn).mono ?_
    rintro e w2 ⟨rfl, hs⟩
    have S2 := Lib.hid (S1.out.trans (since_mono hs S1.out.size)); clear hs
    go_wp2
    go_ret2
    exact ⟨0, rfl, fv0, S2.out⟩
  · rw [h0] at hZ
    simp only [if_true] at hZ
    have k1 := okTwo_mean h0 xs; have k2 := okTwo_mean h0 ys
    obtain ⟨h1, h2, rfl⟩ := okTwo_yes h0
    have H0 := Lib.hid h0; clear h0
    have HM1 := Lib.hid fun v (s : w.Since w.heap.size v) => implMean_any A n c xs v _ (HA.out.since s) hn
    have HM2 := Lib.hid fun v (s : w.Since w.heap.size v) => implMean_any C n d ys v _ (HC.out.since s) hn
    rw [k1.1, k1.2] at HM1
    rw [k2.1, k2.2] at HM2
    clear k1 k2
    go_enter Try.func40, Try.ntmps40
    go_wp2_with fail
    rw [← hW1]
    refine (implTwo_b w.heap.size A C n c n d true W1 (by have := Z1.out; omega) H0.out C1.out.1 C1.out.2 hn).mono ?_
    rintro e w2 ⟨rfl, hs⟩
    have S2 := Lib.hid (S1.out.trans (since_mono hs S1.out.size)); clear hs
    go_wp2_with fail
    refine (HM1.out _ S2.out).mono ?_
    rintro e w1 ⟨r1, m1, rfl, hv, rfl⟩
    have V1 := Lib.hid hv; clear hv
    go_wp2_with fail
    refine (HM2.out _ (since_drewN S2.out m1)).mono ?_
    rintro e w1 ⟨r2, m2, rfl, hv, rfl⟩
    have V2 := Lib.hid hv; clear hv
    obtain ⟨L, hL⟩ : ∃ L, L = meanO xs n := ⟨_, rfl⟩
    obtain ⟨R, hR⟩ : ∃ R, R = meanO ys n := ⟨_, rfl⟩
    rw [← hL] at V1 hZ; rw [← hR] at V2 hZ
    clear hL hR HM1 HM2
    cases e1 : eqO (ad R L) (some 0)
    · have e2 : Z = qu (su R L) (ad R L) := by rw [hZ.out]; unfold balO; rw [e1]; rfl
      have E2 := Lib.hid e2
      clear e2 hZ
      have E1 : ∀ r, Hid (Fv .f32 r (opO .add .f32 R L)) → (FloatKind.f32.format.order r 0 == some .eq) = false := fun r hr => (eq_fv hr fv0).trans e1
      have EH := Lib.hid E1; clear E1 e1
      go_wp2_with (first | (with_reducible_and_instances refine Lo.wpList_fo _ rfl .add _ _ _ _ rfl _ _ _ _ _ rfl rfl rfl V2 V1 ?_; intro rr nn hrr; have hne := EH.out _ hrr) | (with_reducible_and_instances refine Lo.wpList_fo _ rfl .sub _ _ _ _ rfl _ _ _ _ _ rfl rfl rfl V2 V1 ?_; intro rs nn hrs) | (with_reducible_and_instances refine Lo.wpList_fo _ rfl .quo _ _ _ _ rfl _ _ _ _ _ rfl rfl rfl hrs (by assumption) ?_; intro rq nn hrq))
      go_ret2
      exact ⟨_, rfl, by rw [E2.out]; exact hrq, by (repeat (first | (with_reducible refine Fl.sinDrew ?_) | (with_reducible refine since_drewN ?_ _) | with_reducible exact S2.out))⟩
    · have e2 : Z = some 0 := by rw [hZ.out]; unfold balO; rw [e1]; rfl
      subst e2
      clear hZ
      have E1 : ∀ r, Hid (Fv .f32 r (opO .add .f32 R L)) → (FloatKind.f32.format.order r 0 == some .eq) = true := fun r hr => (eq_fv hr fv0).trans e1
      have EH := Lib.hid E1; clear E1 e1
      go_wp2_with (first | (with_reducible_and_instances refine Lo.wpList_fo _ rfl .add _ _ _ _ rfl _ _ _ _ _ rfl rfl rfl V2 V1 ?_; intro rr nn hrr; have heq := EH.out _ hrr))
      go_ret2
      exact ⟨0, rfl, fv0, by (repeat (first | (with_reducible refine Fl.sinDrew ?_) | (with_reducible refine since_drewN ?_ _) | with_reducible exact S2.out))⟩
end Go.Proofs.Ytcpcfgdncinpgaa

/- Rows of values of one cell each, of any type, that a loop appends to. -/
set_option linter.unusedVariables false
set_option linter.unusedSimpArgs false
namespace Go.Proofs.Ytcpcfgdncinpgaa
open Fl Go.RowKit
/-- v is a row of the loop's own, from block lo on, whose k values are f -/
def Rv (T : TypeId) (lo : Nat) (w : World) (v : Value) (k : Nat) (f : Nat → Value) : Prop := ∃ os, w.ownsRow lo T 1 v k os ∧ ∀ j, j < k → os[j]? = some (f j)
theorem Rv.start (T : TypeId) (w : World) (lo : Nat) (h : lo ≤ w.heap.size) (f : Nat → Value) : Rv T lo (w.alloc (.cells #[] T)) (.slice (some ⟨w.heap.size, 0, none⟩) 0 0) 0 f :=
  ⟨[], ⟨rfl, .inr ⟨w.heap.size, 0, #[], rfl, h, Go.Deep.blk_alloc_new _ _, Nat.le_refl _, Nat.zero_le _, rfl, rfl⟩⟩, fun j hj => by omega⟩
theorem Rv.nil_ (T : TypeId) (w : World) (lo : Nat) (f : Nat → Value) : Rv T lo w (.slice none 0 0) 0 f := ⟨[], ⟨rfl, .inl ⟨rfl, rfl⟩⟩, fun j hj => by omega⟩
theorem Rv.keep {T : TypeId} {lo : Nat} {w w' : World} {v : Value} {k : Nat} {f : Nat → Value} (h : Rv T lo w v k f) (e : ∀ b, lo ≤ b → b < w.heap.size → w'.heap[b]? = w.heap[b]?) : Rv T lo w' v k f := by
  obtain ⟨os, ⟨h1, h2⟩, hs⟩ := h
  refine ⟨os, ⟨h1, ?_⟩, hs⟩
  rcases h2 with h2 | ⟨g, cap, cur, e1, h3, h4, r⟩
  · exact .inl h2
  · exact .inr ⟨g, cap, cur, e1, h3, (e g h3 (Array.getElem?_eq_some_iff.1 h4).1).trans h4, r⟩
theorem Rv.since {T : TypeId} {lo : Nat} {w w' : World} {v : Value} {k : Nat} {f : Nat → Value} (h : Rv T lo w v k f) (s : w.Since w.heap.size w') : Rv T lo w' v k f := h.keep fun b _ hb => s.block b hb
theorem Rv.drewN {T : TypeId} {lo : Nat} {w : World} {v : Value} {k : Nat} {f : Nat → Value} (h : Rv T lo w v k f) (n : Nat) : Rv T lo (w.drewN n) v k f := h
theorem Rv.alloc {T : TypeId} {lo : Nat} {w : World} {v : Value} {k : Nat} {f : Nat → Value} (h : Rv T lo w v k f) (o : Obj) : Rv T lo (w.alloc o) v k f := h.since ((World.Since.refl _ _).alloc (Nat.le_refl _) _)
/-- what it is in the end -/
theorem Rv.done {T : TypeId} {lo : Nat} {w : World} {v : Value} {k : Nat} {f : Nat → Value} (h : Rv T lo w v k f) :
    ∃ (A : Option Addr) (c : Nat), v = .slice A k c ∧ k ≤ c ∧ (0 < k → ∃ g cs, A = some ⟨g, 0, none⟩ ∧ lo ≤ g ∧ w.heap[g]? = some (.cells cs T (0, 0)) ∧ ∀ j, j < k → cs[j]? = some (f j)) := by
  obtain ⟨os, ⟨h1, h2⟩, hf⟩ := h
  rcases h2 with ⟨rfl, rfl⟩ | ⟨g, cap, cur, rfl, hg, hb, hnc, _, hsz, htk⟩
  · exact ⟨none, 0, rfl, Nat.le_refl _, fun h => by omega⟩
  · refine ⟨_, cap, rfl, hnc, fun _ => ⟨g, cur, rfl, hg, hb, fun j hj => ?_⟩⟩
    rw [← hf j hj, ← htk, List.getElem?_take_of_lt (by omega), Array.getElem?_toList]
theorem own_loV {T : TypeId} {w : World} {lo n s : Nat} {v : Value} {xs : List Value} (h : w.ownsRow lo T s v n xs) : ∀ b, v.ownBlock = some b → lo ≤ b := by
  intro b hb
  rcases h.2 with ⟨rfl, _⟩ | ⟨g, cap, cur, rfl, hg, _⟩
  · simp [Value.ownBlock] at hb
  · simp [Value.ownBlock] at hb; omega
theorem wpList_appV {ops : Array Oper} {rest : List Oper} {o : Oper} {a : Act} {Q : Exit → Act → World → Prop} {w : World} (hgd : o.guard = none) (s x : Operand) (S T : TypeId) (z : Value) (bytes : Nat)
    (ho : o.op = .call { callee := .builtin .append, args := #[s, x], argTypes := #[S, S] }) (hund : Try.prog.underlying S = some (.slice T)) (hinfo : (Try.prog.info? T).map (fun i => (i.zero, i.size, i.bytes)) = some (some z, 1, bytes)) (hz : z.cells.size = 1) (hb64 : bytes ≤ 64)
    (lo : Nat) (v : Value) (k : Nat) (f : Nat → Value) (hs : a.eval s = v) (b : Nat) (u : Value)
    (hx : a.eval x = .slice (some ⟨b, 0, none⟩) 1 1) (hc : w.cell? ⟨b, 0, none⟩ = some u) (h1 : u.oneCell' = true) (hk : k < 1048576) (hlo : lo ≤ w.heap.size) (hf : u = f k) (hR : Rv T lo w v k f)
    (h : ∀ v' w', Hid (Rv T lo w' v' (k + 1) f) → Hid (w.Since lo w') → wpList Try.prog ops Q rest (a.put o.dst v') w') : wpList Try.prog ops Q (o :: rest) a w := by
  obtain ⟨os, hown, hj⟩ := hR
  obtain ⟨i0, hi, hz0, hz1, hz2⟩ := info_parts hinfo
  have hlen : os.length = k := by simpa using hown.1
  refine wpList_append_own (P := Try.prog) w hgd s x S ho lo T i0 z 1 bytes hund hi hz0 hz1 hz2 hz (by omega) v k os hs hown ⟨b, 0, none⟩ 1 1 [u] hx rfl ?_ ?_ ?_ ?_ hlo ?_
  · intro j y hjj
    rcases j with _ | j
    · simp at hjj; subst hjj; simpa [Addr.add] using hc
    · simp at hjj
  · intro y hy; simp at hy; subst hy; exact h1
  · unfold maxLen; omega
  · have : (k + 1) * bytes ≤ 1048576 * 64 := Nat.mul_le_mul (by omega) hb64
    omega
  · intro v' w' hown' hg _
    refine h v' w' (Lib.hid ⟨os ++ [u], hown', fun j hjk => ?_⟩) (Lib.hid ⟨hg.os, hg.tape, hg.output, hg.size, fun i hi => ?_⟩)
    · by_cases e : j < k
      · rw [List.getElem?_append_left (by omega)]; exact hj j e
      · obtain rfl : j = k := by omega
        rw [List.getElem?_append_right (by omega), hlen, Nat.sub_self]; simpa using hf
    · refine hg.block i (by omega) fun e => ?_
      have := own_loV hown i e.symm
      omega
end Go.Proofs.Ytcpcfgdncinpgaa

/- Meters: powers of windows: the model. -/
set_option linter.unusedVariables false
set_option linter.unusedSimpArgs false
namespace Go.Proofs.Ytcpcfgdncinpgaa
open Fl Go.RowKit
theorem wd_part {xs : List Nat} {k t j : Nat} (hj : j < t) : wd ((xs.drop k).take t) j = wd xs (k + j) := by
  unfold wd
  simp only [List.getD_eq_getElem?_getD]
  rw [List.getElem?_take_of_lt hj, List.getElem?_drop]
theorem Fs.part {w : World} {B N k t : Nat} {g off : Nat} {xs : List Nat} (h : Fs w B (some ⟨g, off, none⟩) N xs) (hk : k + t ≤ N) : Fs w B (some ⟨g, off + k, none⟩) t ((xs.drop k).take t) := by
  obtain ⟨hl, hs, hc⟩ := h
  refine ⟨by rw [List.length_take, List.length_drop]; omega, fun x hx => hs x (List.mem_of_mem_drop (List.mem_of_mem_take hx)), fun ht => ?_⟩
  obtain ⟨g', off', e, hg, hcc⟩ := hc (by omega)
  cases e
  refine ⟨g, off + k, rfl, hg, fun j hj => ?_⟩
  have := hcc (k + j) (by omega)
  rw [← Nat.add_assoc] at this
  rw [this]
  unfold fv; rw [wd_part hj]
/-- how many windows there are -/
def winN (n size hop : Nat) : Nat := if size ≤ n then (n - size) / hop + 1 else 0
theorem win_iff {n size hop k : Nat} (hh : 1 ≤ hop) : k * hop + size ≤ n ↔ k < winN n size hop := by
  unfold winN
  by_cases h : size ≤ n
  · rw [if_pos h]
    have h1 := Nat.le_div_iff_mul_le (x := k) (y := n - size) (k := hop) (by omega)
    constructor
    · intro h2
      have := h1.2 (by omega)
      omega
    · intro h2
      have := h1.1 (by omega)
      omega
  · rw [if_neg h]
    constructor
    · intro h2; have := Nat.zero_le (k * hop); omega
    · intro h2; omega
theorem winN_le {n size hop : Nat} (hs : 1 ≤ size) : winN n size hop ≤ n := by
  unfold winN
  split
  · have := Nat.div_le_self (n - size) hop
    omega
  · omega
def powY (X : Nat → O) (size hop k : Nat) : O := qu (dotY (fun j => X (k * hop + j)) size) (some (fI size))
def okWin (n : Nat) (size hop : Int) : Bool := decide (n ≤ 256) && inB size 1 256 && inB hop 1 256
set_option maxHeartbeats 4000000 in
set_option maxRecDepth 100000 in
theorem specPows_any (A : Option Addr) (n c : Nat) (xs : List Nat) (size hop : Nat) (w : World) (hA : Fs w w.heap.size A n xs) (hn : n ≤ 256) (hnc : n ≤ c) (hs1 : 1 ≤ size) (hs2 : size ≤ 256) (hh1 : 1 ≤ hop) (hh2 : hop ≤ 256) :
    Calls Try.prog 70 #[.slice A n c, .int .i64 size, .int .i64 hop] w (PL (winN n size hop) (powY (fun k => ab .f32 (wd xs k)) size hop) w) := by
  have HA := Lib.hid hA
  have q2 := fI_fv (size : Nat)
  clear hA
  go_enter Try.func70, Try.ntmps70
  go_wp2
  go_loopw [7, 8] (fun v i wr => ∃ k p : Nat, k ≤ winN n size hop ∧ p ≤ n + hop ∧ Hid (p = k * hop) ∧ i = .int .i64 p ∧ Rw w.heap.size wr v k (powY (fun k => ab .f32 (wd xs k)) size hop) ∧ w.Since w.heap.size wr) (fun _ i _ => n + 1 - (intOf i).toNat)
  case atStart => exact ⟨0, 0, Nat.zero_le _, Nat.zero_le _, Lib.hid (by simp), rfl, Rw.start w _ (Nat.le_refl _) _, (World.Since.refl _ _).alloc (Nat.le_refl _) _⟩
  case round =>
    obtain ⟨k, p, hk, hpb, hp, rfl, hr, hs⟩ := hrel
    have HR := Lib.hid hr; have HS := Lib.hid hs
    clear hr hs
    by_cases hlt : p + size ≤ n
    · have hkw : k < winN n size hop := (win_iff hh1).1 (by rw [← hp.out]; exact hlt)
      obtain ⟨g, off, rfl, hg, hc⟩ := HA.out.2.2 (by omega)
      clear hc
      have hsz := HS.out.size
      have hle : (p : Int) + size ≤ n := by omega
      go_wp2_with fail
      have HP := Lib.hid (Fs.part (HA.out.since HS.out) hlt)
      refine (specDot0_any _ _ size (c - p) (c - p) _ _ _ _ HP.out HP.out (by omega)).mono ?_
      rintro e w' ⟨r1, m1, rfl, hv, rfl⟩
      rw [dotO_dotY (X := fun j => ab .f32 (wd xs (k * hop + j))) (fun j hj => by rw [wd_part hj, hp.out])] at hv
      have V1 := Lib.hid hv; clear hv
      have eY : Hid (powY (fun k => ab .f32 (wd xs k)) size hop k = opO .quo .f32 (dotY (fun j => ab .f32 (wd xs (k * hop + j))) size) (some (fI size))) := Lib.hid rfl
      go_wp2_with (first | (with_reducible_and_instances refine Lo.wpList_fo _ rfl .quo _ _ _ _ rfl _ _ _ _ _ rfl rfl rfl V1 q2 ?_; intro rr nn hrr; rw [← eY.out] at hrr) | (at_builtin; refine wpList_app1 rfl (.tmp 26) (.tmp 33) rfl w.heap.size _ k _ rfl _ _ rfl (by simp [go_sem]) (by have := winN_le (n := n) (hop := hop) hs1; omega) (by simp; omega) hrr ((HR.out.drewN _).alloc _) ?_; intro v' w3 hR3 hS3))
      go_roundw
      case rel => exact ⟨k + 1, p + hop, by omega, by omega, Lib.hid (by rw [hp.out, Nat.add_mul, Nat.one_mul]), by go_num, hR3.out, HS.out.trans (((since_drewN (World.Since.refl _ _) _).alloc hsz _).trans hS3.out)⟩
      case measure => simp [intOf]; omega
    · obtain rfl : k = winN n size hop := by
        by_cases h : k < winN n size hop
        · exact absurd ((win_iff hh1).2 h) (by rw [← hp.out]; exact hlt)
        · omega
      obtain ⟨⟨pA, pn, px⟩, cp, rfl, hpn, hg, ha⟩ := HR.out.done
      simp only at hpn hg; subst hpn
      have HG := Lib.hid hg; have HAA := Lib.hid ha; clear hg ha hk
      have hgt : ¬ ((p : Int) + size ≤ n) := by omega
      go_wp2
      go_ret
      exact ⟨⟨pA, _, px⟩, cp, rfl, rfl, HG.out, HAA.out, HS.out⟩
theorem okWin_yes {n : Nat} {size hop : Int} (h : okWin n size hop = true) : n ≤ 256 ∧ ∃ s p : Nat, size = s ∧ hop = p ∧ 1 ≤ s ∧ s ≤ 256 ∧ 1 ≤ p ∧ p ≤ 256 := by
  unfold okWin inB at h
  simp only [Bool.and_eq_true, decide_eq_true_eq] at h
  exact ⟨by omega, size.toNat, hop.toNat, by omega, by omega, by omega, by omega, by omega, by omega⟩
theorem specWins_b (A : Option Addr) (n c : Nat) (size hop : Int) (b : Bool) (w : World) (h : okWin n size hop = b) :
    Calls Try.prog 69 #[.slice A n c, .int .i64 size, .int .i64 hop] w fun e w' => e = .returned (.bool b) ∧ w = w' := by
  subst h
  unfold okWin
  cases h0 : decide (n ≤ 256)
  · have hfew : decide ((n : Int) ≤ 256) = false := decide_eq_false (by have := of_decide_eq_false h0; omega)
    go_enter Try.func69, Try.ntmps69
    go_wp2_with (first | (go_at_call 50; refine (specFew_any _ _ _ _ _ hfew).mono ?_; rintro e w' ⟨rfl, rfl⟩))
    go_ret
    exact ⟨rfl, rfl⟩
  · have hfew : decide ((n : Int) ≤ 256) = true := decide_eq_true (by have := of_decide_eq_true h0; omega)
    cases h1 : inB size 1 256
    · go_enter Try.func69, Try.ntmps69
      go_wp2_with (first | (go_at_call 50; refine (specFew_any _ _ _ _ _ hfew).mono ?_; rintro e w' ⟨rfl, rfl⟩) | (go_at_call 58; with_reducible refine (specHold_b size 1 256 false _ h1).mono ?_; rintro e w' ⟨rfl, rfl⟩))
      go_ret
      exact ⟨rfl, rfl⟩
    · cases h2 : inB hop 1 256
      all_goals
        go_enter Try.func69, Try.ntmps69
        go_wp2_with (first | (go_at_call 50; refine (specFew_any _ _ _ _ _ hfew).mono ?_; rintro e w' ⟨rfl, rfl⟩) | fail)
        refine (specHold_b size 1 256 true _ h1).mono ?_
        rintro e w' ⟨rfl, rfl⟩
        go_wp2_with fail
        refine (specHold_b hop 1 256 _ _ h2).mono ?_
        rintro e w' ⟨rfl, rfl⟩
        go_wp2
        go_ret
        exact ⟨rfl, rfl⟩
set_option maxHeartbeats 4000000 in
set_option maxRecDepth 100000 in
theorem specWinP_ok (A : Option Addr) (n c : Nat) (xs : List Nat) (size hop : Nat) (w : World) (hA : Fs w w.heap.size A n xs) (hnc : n ≤ c) (h : okWin n size hop = true) :
    Calls Try.prog 30 #[.slice A n c, .int .i64 size, .int .i64 hop] w (PLB (winN n size hop) (powY (fun k => ab .f32 (wd xs k)) size hop) true w) := by
  obtain ⟨hn, s, p, e1, e2, h1, h2, h3, h4⟩ := okWin_yes h
  obtain rfl : size = s := by omega
  obtain rfl : hop = p := by omega
  have HP := Lib.hid (specPows_any A n c xs size hop w hA hn hnc h1 h2 h3 h4)
  go_enter Try.func30, Try.ntmps30
  go_wp2_with (first | (go_at_call 69; refine (specWins_b _ _ _ _ _ _ _ h).mono ?_; rintro e w' ⟨rfl, rfl⟩) | fail)
  refine HP.out.mono ?_
  rintro e w' ⟨⟨pA, pn, px⟩, cp, rfl, hpn, hg, ha, hs⟩
  simp only at hpn hg; subst hpn
  have HG := Lib.hid hg; have HAA := Lib.hid ha; have HS := Lib.hid hs; clear hg ha hs HP
  go_wp2
  go_ret2
  exact ⟨⟨pA, _, px⟩, cp, rfl, rfl, HG.out, HAA.out, HS.out⟩
theorem specWinP_no (A : Option Addr) (n c : Nat) (size hop : Int) (w : World) (h : okWin n size hop = false) (G : Nat → O) :
    Calls Try.prog 30 #[.slice A n c, .int .i64 size, .int .i64 hop] w (PLB 0 G false w) := by
  go_enter Try.func30, Try.ntmps30
  go_wp2_with (first | (go_at_call 69; refine (specWins_b _ _ _ _ _ _ _ h).mono ?_; rintro e w' ⟨rfl, rfl⟩) | fail)
  go_ret2
  exact PLB.none_ (World.Since.refl _ _) _
end Go.Proofs.Ytcpcfgdncinpgaa

/- Meters: powers of windows: the program. -/
set_option linter.unusedVariables false
set_option linter.unusedSimpArgs false
namespace Go.Proofs.Ytcpcfgdncinpgaa
open Fl Go.RowKit
theorem Try.infoSl : (Try.prog.info? 22).map (fun i => (i.zero, i.size, i.bytes)) = some (some (.slice none 0 0), 1, 24) := by kernel_rfl
/-- the window j of a list that lies at A -/
def fwin (A : Option Addr) (size hop j : Nat) : Value := .slice (A.map fun a => ⟨a.block, a.off + j * hop, none⟩) size size
set_option maxHeartbeats 4000000 in
set_option maxRecDepth 100000 in
theorem implWins_any (A : Option Addr) (n c : Nat) (xs : List Nat) (size hop : Nat) (w : World) (hA : Fs w w.heap.size A n xs) (hn : n ≤ 256) (hnc : n ≤ c) (hs1 : 1 ≤ size) (hs2 : size ≤ 256) (hh1 : 1 ≤ hop) (hh2 : hop ≤ 256) :
    Calls Try.prog 74 #[.slice A n c, .int .i64 size, .int .i64 hop] w fun e w' => ∃ v, e = .returned v ∧ Rv 22 w.heap.size w' v (winN n size hop) (fwin A size hop) ∧ w.Since w.heap.size w' := by
  have HA := Lib.hid hA
  clear hA
  go_enter Try.func74, Try.ntmps74
  go_wp2
  go_loopw [7, 8] (fun v i wr => ∃ k p : Nat, k ≤ winN n size hop ∧ p ≤ n + hop ∧ Hid (p = k * hop) ∧ i = .int .i64 p ∧ Rv 22 w.heap.size wr v k (fwin A size hop) ∧ w.Since w.heap.size wr) (fun _ i _ => n + 1 - (intOf i).toNat)
  case atStart => exact ⟨0, 0, Nat.zero_le _, Nat.zero_le _, Lib.hid (by simp), rfl, Rv.nil_ _ _ _ _, World.Since.refl _ _⟩
  case round =>
    obtain ⟨k, p, hk, hpb, hp, rfl, hr, hs⟩ := hrel
    have HR := Lib.hid hr; have HS := Lib.hid hs
    clear hr hs
    by_cases hlt : p + size ≤ n
    · have hkw : k < winN n size hop := (win_iff hh1).1 (by rw [← hp.out]; exact hlt)
      obtain ⟨g, off, rfl, hg, hc⟩ := HA.out.2.2 (by omega)
      clear hc
      have hsz := HS.out.size
      have hle : (p : Int) + size ≤ n := by omega
      have hf : Hid (fwin (some ⟨g, off, none⟩) size hop k = .slice (some ⟨g, off + p, none⟩) size size) := Lib.hid (by unfold fwin; rw [← hp.out]; rfl)
      go_wp2_with (first | (at_builtin; refine wpList_appV rfl (.tmp 18) (.tmp 28) 83 22 (.slice none 0 0) 24 rfl Try.underlying83 Try.infoSl rfl (by decide) w.heap.size _ k _ rfl _ (.slice (some ⟨g, off + p, none⟩) size size) rfl (by simp [go_sem]) rfl (by have := winN_le (n := n) (hop := hop) hs1; omega) (by simp; omega) hf.out.symm (HR.out.alloc _) ?_; intro v' w3 hR3 hS3))
      go_roundw
      case rel => exact ⟨k + 1, p + hop, by omega, by omega, Lib.hid (by rw [hp.out, Nat.add_mul, Nat.one_mul]), by go_num, hR3.out, HS.out.trans (((World.Since.refl _ _).alloc hsz _).trans hS3.out)⟩
      case measure => simp [intOf]; omega
    · obtain rfl : k = winN n size hop := by
        by_cases h : k < winN n size hop
        · exact absurd ((win_iff hh1).2 h) (by rw [← hp.out]; exact hlt)
        · omega
      have hgt : ¬ ((p : Int) + size ≤ n) := by omega
      clear hk
      go_wp2
      go_ret
      exact ⟨_, rfl, HR.out, HS.out⟩
theorem dotO_ex (xs ys : List Nat) (hx : Small xs) (hy : Small ys) : ∀ n, ∃ q, Fv .f32 q (dotO xs ys n)
  | 0 => ⟨0, fv32z⟩
  | n + 1 => by
    obtain ⟨q, hq⟩ := dotO_ex xs ys hx hy n
    obtain ⟨r, hr⟩ := Lo.fv_ex (op := .mul) rfl .f32 _ _ _ _ ⟨hx.at_ n, rfl⟩ ⟨hy.at_ n, rfl⟩
    exact Lo.fv_ex (op := .add) rfl .f32 _ _ _ _ hq hr
theorem power_hc (A : Option Addr) (n c : Nat) (xs : List Nat) (w : World) (B : Nat) (h : Fs w B A n xs) (hn : n ≤ 256) (m : Nat) :
    Calls Try.prog 72 #[.slice A n c] (w.drewN m) fun e' w' => ∃ r k, e' = .returned (.float .f32 r) ∧ Fv .f32 r (dotO xs xs n) ∧ w' = w.drewN k :=
  (implPower_any A n c xs (w.drewN m) B (h.drewN m) hn).mono fun e w' ⟨r, n, h1, h2, h3⟩ => ⟨r, m + n, h1, h2, h3.trans (by simp [World.drewN, Nat.add_assoc])⟩
set_option maxHeartbeats 8000000 in
set_option maxRecDepth 100000 in
theorem winClos_any (A : Option Addr) (size : Nat) (xs : List Nat) (gb : Nat) (W : World) (B : Nat) (h : Fs W B A size xs) (hn : size ≤ 256) (hc : W.cell? ⟨gb, 0, none⟩ = some (.int .i64 (size : Int))) :
    Calls Try.prog 71 #[.slice A size size, .pointer (some ⟨gb, 0, none⟩)] W fun e W' => ∃ r, e = .returned (.float .f32 r) ∧ Hid (Fv .f32 r (qu (dotO xs xs size) (some (fI size)))) ∧ ∃ m, W' = W.drewN m := by
  have H := Lib.hid h
  have q2 := fI_fv (size : Nat)
  have hex := Lib.hid (dotO_ex xs xs h.2.1 h.2.1 size)
  clear h
  go_enter Try.func71, Try.ntmps71
  go_wp2_with fail
  refine Lo.wp_loose_all [5,8,3] (by kernel_rfl) (by kernel_rfl) ?_
  repeat (first
    | (refine Lo.wpL_callF rfl 72 [.tmp 4] [.slice A size size] _ rfl (by decide) (callsEnter 72 Try.f72 _ (by kernel_rfl) (by kernel_rfl) rfl) .f32 _ (Lo.keeps [4] _ rfl (by decide)) (power_hc _ _ _ _ _ _ H.out hn) hex.out ?_; intro rr hrr; simp only [Act.put, List.setIfInBounds_toArray, List.set_cons_succ, List.set_cons_zero])
    | (refine Lo.wpL_move rfl _ (.inl rfl) (by decide) ?_; simp only [Act.put, List.setIfInBounds_toArray, List.set_cons_succ, List.set_cons_zero])
    | (refine Lo.wpL_move rfl _ (.inr rfl) (by decide) ?_; simp only [Act.put, List.setIfInBounds_toArray, List.set_cons_succ, List.set_cons_zero])
    | (refine Lo.wpL_fop rfl _ _ _ _ rfl rfl (by decide) _ _ _ _ _ rfl rfl (by assumption) (by assumption) ?_; intro rr hrr; simp only [Act.put, List.setIfInBounds_toArray, List.set_cons_succ, List.set_cons_zero])
    | (refine Lo.wpL_wide rfl _ _ _ rfl (by decide) _ _ rfl (by kernel_rfl) (by kernel_rfl) (by assumption) ?_; intro rr hrr; simp only [Act.put, List.setIfInBounds_toArray, List.set_cons_succ, List.set_cons_zero])
    | (refine Lo.wpL_quiet rfl (by decide) (fun K hK => ?_); go_big_quiet_op; (refine hK _ ?_; clear hK K)))
  refine Lo.wpL_nil ?_
  refine Lo.after_fl rfl (by assumption) ?_; intro q5 h5; simp only [Act.put, List.setIfInBounds_toArray, List.set_cons_succ, List.set_cons_zero]
  refine Lo.after_fl rfl (by assumption) ?_; intro q8 h8; simp only [Act.put, List.setIfInBounds_toArray, List.set_cons_succ, List.set_cons_zero]
  refine Lo.after_fl rfl (by assumption) ?_; intro q3 h3; simp only [Act.put, List.setIfInBounds_toArray, List.set_cons_succ, List.set_cons_zero]
  refine Lo.after_nil ?_; intro nq
  go_wp2
  go_ret
  exact ⟨q3, rfl, h3, nq, rfl⟩
set_option maxHeartbeats 4000000 in
set_option maxRecDepth 100000 in
theorem resultsW_any (V : Option Addr) (m c : Nat) (f : Nat → Value) (F : FuncId) (caps : Array Value) (Y : Nat → Option Nat) (w : World) (hn : m ≤ 256)
    (hV : 0 < m → ∃ g cs, V = some ⟨g, 0, none⟩ ∧ g < w.heap.size ∧ w.heap[g]? = some (.cells cs 22 (0, 0)) ∧ ∀ j, j < m → cs[j]? = some (f j))
    (hent : ∀ args w, (callFunc F args).run Try.prog w = .ok (.enter F args) w)
    (hstep : ∀ k W, k < m → w.Since w.heap.size W → Calls Try.prog F (#[f k] ++ caps) W fun e W' => ∃ r, e = .returned (.float .f32 r) ∧ Hid (Fv .f32 r (Y k)) ∧ W.Since W.heap.size W') :
    Calls Try.prog 73 #[.slice V m c, .func (.func F) #[] caps] w (PL m Y w) := by
  have HV := Lib.hid hV
  have hmk := fun W => run_make_row' (P := Try.prog) 22 23 (.float .f32 0) 4 Try.underlying22 Try.infoF rfl .i64 .i64 m (by omega) (by omega) W
  have HST := Lib.hid hstep
  clear hV hstep
  go_enter Try.func73, Try.ntmps73
  go_wp2
  go_loopw [13] (fun i wr => ∃ (k : Nat) (r : Nat → Nat), k ≤ m ∧ i = .int .i64 k ∧ GCells wr w.heap.size m (partial_ k r) ∧ (∀ j, j < k → Hid (Fv .f32 (r j) (Y j))) ∧ w.Since w.heap.size wr) (fun i _ => m - (intOf i).toNat)
  case atStart =>
    have hr := (World.rowIs_made w (.float .f32 0) m 23)
    obtain ⟨cs, hb, _, hc⟩ := hr
    exact ⟨0, fun _ => 0, Nat.zero_le _, rfl, ⟨cs, hb, fun j hj => hc j hj⟩, fun j hj => by omega, (World.Since.refl _ _).alloc (Nat.le_refl _) _⟩
  case round =>
    obtain ⟨k, r, hk, rfl, hcs, hr, hs⟩ := hrel
    have HC := Lib.hid hcs; have HR := Lib.hid hr; have HS := Lib.hid hs
    have hsz : w.heap.size < wr.heap.size := hcs.lt
    clear hcs hr hs
    by_cases hlt : k < m
    · obtain ⟨g, cs, rfl, hg, hb, hc⟩ := HV.out (by omega)
      have hcell : wr.cell? ⟨g, k, none⟩ = some (f k) := (HS.out.cell (a := ⟨g, k, none⟩) hg).trans (by simp only [World.cell?, hb]; simpa using hc k hlt)
      clear hc hb
      go_wp2_with fail
      refine (HST.out k wr hlt HS.out).mono ?_
      rintro e w2 ⟨r1, rfl, hr1, hs1⟩
      have HC2 : Hid (GCells w2 w.heap.size m (partial_ k r)) := Lib.hid (by
        obtain ⟨cs2, h1, h2⟩ := HC.out
        exact ⟨cs2, (hs1.block _ hsz).trans h1, h2⟩)
      have hc2 : w2.cell? ⟨w.heap.size, k, none⟩ = some (partial_ k r k) := HC2.out.cell hlt
      have hf2 : w2.frozen? ⟨w.heap.size, k, none⟩ = false := HC2.out.free _
      have HR1 := Lib.hid hr1; have HS1 := Lib.hid (HS.out.trans (since_mono hs1 HS.out.size))
      clear hr1 hs1
      go_wp2
      go_roundw
      case rel =>
        refine ⟨k + 1, fun j => if j = k then r1 else r j, by omega, by go_num, (HC2.out.set k _).congr (fun j hj => ?_), fun j hj => ?_, HS1.out.setCell (Nat.le_refl _) _⟩
        · unfold partial_
          dsimp only
          by_cases e : j = k
          · rw [if_pos e, if_pos (by omega), if_pos e]
          · rw [if_neg e, if_neg e]
            by_cases e2 : j < k
            · rw [if_pos e2, if_pos (by omega)]
            · rw [if_neg e2, if_neg (by omega)]
        · show Hid (Fv .f32 (if j = k then r1 else r j) (Y j))
          by_cases e : j = k
          · subst e; rw [if_pos rfl]; exact HR1.out
          · rw [if_neg e]; exact HR.out j (by omega)
      case measure => simp [intOf]; omega
    · obtain rfl : k = m := by omega
      go_wp2
      go_ret
      refine ⟨⟨some ⟨w.heap.size, 0, none⟩, k, lst k r⟩, k, rfl, rfl, ⟨lst_len _ _, fun y hy => ?_, fun _ => ?_⟩, fun i hi => by rw [lst_wd hi]; exact (HR.out i hi).out.2, HS.out⟩
      · obtain ⟨i, hi, rfl⟩ := List.mem_map.1 hy
        exact (HR.out i (List.mem_range.1 hi)).out.1
      · obtain ⟨cs, hb, hc⟩ := HC.out
        refine ⟨_, cs, rfl, Nat.le_refl _, hb, fun j hj => ?_⟩
        rw [hc j hj]; unfold partial_ fv; rw [if_pos hj, lst_wd hj]
end Go.Proofs.Ytcpcfgdncinpgaa

/- Meters: WindowPowers, the program. -/
set_option linter.unusedVariables false
set_option linter.unusedSimpArgs false
namespace Go.Proofs.Ytcpcfgdncinpgaa
open Fl Go.RowKit
theorem Fs.fwin {w : World} {B n size hop k : Nat} {A : Option Addr} {xs : List Nat} (h : Fs w B A n xs) (hk : k * hop + size ≤ n) (hs : 1 ≤ size) : ∃ A', fwin A size hop k = .slice A' size size ∧ Fs w B A' size ((xs.drop (k * hop)).take size) := by
  obtain ⟨g, off, rfl, _, _⟩ := h.2.2 (by omega)
  exact ⟨_, rfl, Fs.part h hk⟩
set_option maxHeartbeats 8000000 in
set_option maxRecDepth 100000 in
theorem implWinP_ok (A : Option Addr) (n c : Nat) (xs : List Nat) (size hop : Nat) (w : World) (hA : Fs w w.heap.size A n xs) (hnc : n ≤ c) (h : okWin n size hop = true) :
    Calls Try.prog 31 #[.slice A n c, .int .i64 size, .int .i64 hop] w (PLB (winN n size hop) (powY (fun k => ab .f32 (wd xs k)) size hop) true w) := by
  have HA := Lib.hid hA
  obtain ⟨hn, s, p, e1, e2, h1, h2, h3, h4⟩ := okWin_yes h
  obtain rfl : size = s := by omega
  obtain rfl : hop = p := by omega
  clear e1 e2 h hA
  have hfew : decide ((n : Int) ≤ 256) = true := decide_eq_true (by omega)
  have p1 : inB size 1 256 = true := by unfold inB; simp; omega
  have p2 : inB hop 1 256 = true := by unfold inB; simp; omega
  obtain ⟨W1, hW1⟩ : ∃ W, W = w.alloc (.cells #[.int .i64 (size : Int)] 2) := ⟨_, rfl⟩
  have S1 : Hid (w.Since w.heap.size W1) := Lib.hid (by rw [hW1]; exact (World.Since.refl _ _).alloc (Nat.le_refl _) _)
  have z1 : Hid (W1.heap.size = w.heap.size + 1) := Lib.hid (by rw [hW1]; simp)
  have C1 : Hid (W1.cell? ⟨w.heap.size, 0, none⟩ = some (.int .i64 (size : Int))) := Lib.hid (by rw [hW1]; simp [go_sem])
  go_enter Try.func31, Try.ntmps31
  go_wp2_with (first | (go_at_call 53; refine (implSamples_b _ _ _ _ _ hfew).mono ?_; rintro e w' ⟨rfl, rfl⟩) | fail)
  rw [← hW1]
  refine (implPart_b _ _ _ p1).mono ?_
  rintro e w2 ⟨rfl, hs⟩
  have S2 := Lib.hid hs; clear hs
  go_wp2_with fail
  refine (implPart_b _ _ _ p2).mono ?_
  rintro e w3 ⟨rfl, hs⟩
  have S3 := Lib.hid (since_step S2.out hs); clear hs S2
  have S3' := Lib.hid (S1.out.trans (since_mono S3.out S1.out.size))
  have c3 : w3.cell? ⟨w.heap.size, 0, none⟩ = some (.int .i64 (size : Int)) := (S3.out.cell (a := ⟨w.heap.size, 0, none⟩) (by have := z1.out; show w.heap.size < _; omega)).trans C1.out
  have HW := Lib.hid (implWins_any A n c xs size hop w3 (HA.out.now S3'.out) hn hnc h1 h2 h3 h4)
  go_wp2_with fail
  refine HW.out.mono ?_
  rintro e w4 ⟨v, rfl, hv, hs⟩
  obtain ⟨V, cV, rfl, hcV, hcells⟩ := hv.done
  have z3 := S3'.out.size
  have z13 : w.heap.size < w3.heap.size := by have := z1.out; have := S3.out.size; omega
  have S4 := Lib.hid (S3'.out.trans (since_mono hs z3))
  have c4 : Hid (w4.cell? ⟨w.heap.size, 0, none⟩ = some (.int .i64 (size : Int))) := Lib.hid ((hs.cell (a := ⟨w.heap.size, 0, none⟩) z13).trans c3)
  have z4 := hs.size
  have HCE : Hid (0 < winN n size hop → ∃ g cs, V = some ⟨g, 0, none⟩ ∧ g < w4.heap.size ∧ w4.heap[g]? = some (.cells cs 22 (0, 0)) ∧ ∀ j, j < winN n size hop → cs[j]? = some (fwin A size hop j)) := Lib.hid fun h => by
    obtain ⟨g, cs, e1, _, e3, e4⟩ := hcells h
    exact ⟨g, cs, e1, (Array.getElem?_eq_some_iff.1 e3).1, e3, e4⟩
  have h16 := winN_le (n := n) (hop := hop) h1
  clear hv hs hcells HW
  have HRW := Lib.hid (resultsW_any V (winN n size hop) cV (fwin A size hop) 71 #[.pointer (some ⟨w.heap.size, 0, none⟩)] (powY (fun k => ab .f32 (wd xs k)) size hop) w4 (by omega) HCE.out (fun _ _ => rfl) (fun k W hk hs => by
    obtain ⟨A', e1, hF⟩ := Fs.fwin (HA.out.since (S4.out.trans (since_mono hs S4.out.size))) ((win_iff h3).2 hk) h1
    rw [e1]
    refine (winClos_any A' size _ w.heap.size W _ hF h2 ((hs.cell (a := ⟨w.heap.size, 0, none⟩) (by show w.heap.size < _; omega)).trans c4.out)).mono ?_
    rintro e W' ⟨r, rfl, hr, m, rfl⟩
    rw [dotO_dotY (X := fun j => ab .f32 (wd xs (k * hop + j))) (fun j hj => by rw [wd_part hj])] at hr
    exact ⟨r, rfl, hr, since_drewN (World.Since.refl _ _) m⟩))
  go_wp2_with fail
  refine HRW.out.mono ?_
  rintro e w5 ⟨⟨pA, pn, px⟩, cp, rfl, hpn, hg, ha, hs⟩
  simp only at hpn hg; subst hpn
  have HG := Lib.hid (hg.less S4.out.size); have HAA := Lib.hid ha; have S5 := Lib.hid (S4.out.trans (since_mono hs S4.out.size)); clear hg ha hs HRW
  go_wp2
  go_ret2
  exact ⟨⟨pA, _, px⟩, cp, rfl, rfl, HG.out, HAA.out, S5.out⟩
end Go.Proofs.Ytcpcfgdncinpgaa

/- slices.Clone, slices.IndexFunc, slices.DeleteFunc of floats. -/
set_option linter.unusedVariables false
set_option linter.unusedSimpArgs false
namespace Go.Proofs.Ytcpcfgdncinpgaa
open Fl Go.RowKit
set_option maxHeartbeats 4000000 in
set_option maxRecDepth 100000 in
theorem clone2_any (A : Option Addr) (n c : Nat) (xs : List Nat) (w : World) (hA : Fs w w.heap.size A n xs) (hn : n ≤ 256) :
    Calls Try.prog 108 #[.slice A n c] w fun e w' => ∃ (A' : Option Addr) (c' : Nat) (ys : List Nat), e = .returned (.slice A' n c') ∧ n ≤ c' ∧ ((A' = none → n = 0 ∧ c' = 0) ∧ ∀ a, A' = some a → ∃ g, a = ⟨g, 0, none⟩) ∧ Gs 23 w' w.heap.size A' n ys ∧ (∀ j, j < n → ab .f32 (wd ys j) = ab .f32 (wd xs j)) ∧ w.Since w.heap.size w' := by
  have hq := fun W => Lib.run_eql_slice_nil W 22 23 A n c 0 0 Try.underlying22
  have HA := Lib.hid hA; clear hA
  cases A with
  | none =>
    obtain rfl : n = 0 := by
      rcases Nat.eq_zero_or_pos n with h | h
      · exact h
      · obtain ⟨g, off, e, _⟩ := HA.out.2.2 h; cases e
    go_enter Try.func108, Try.ntmps108
    go_wp2
    go_ret
    exact ⟨none, 0, [], rfl, Nat.le_refl _, ⟨fun _ => by simp, fun a h => by cases h⟩, Gs.nil_, fun j hj => by omega, World.Since.refl _ _⟩
  | some ad =>
    go_enter Try.func108, Try.ntmps108
    go_wp2_with (at_builtin; refine wpList_appN rfl (.tmp 5) (.tmp 6) rfl w.heap.size _ 0 (fun j => ab .f32 (wd xs j)) rfl _ _ _ xs _ rfl (by simp) (Lib.hid (HA.out.since ((World.Since.refl _ _).alloc (Nat.le_refl _) _))) (fun j hj => by rw [Nat.zero_add]) (by omega) (by simp) (Rw.start w _ (Nat.le_refl _) _) ?_; intro v1 wa hRa hSa; have Ha := Lib.hid (((World.Since.refl w.heap.size w).alloc (Nat.le_refl _) _).trans hSa.out); clear hSa; obtain ⟨pA, cq, px, rfl, hcq, hno, hso, hgp, hap⟩ := hRa.out.end_; have HNS := Lib.hid hso; have HNO := Lib.hid hno; have GP := Lib.hid hgp; have AP := Lib.hid hap; have HCQ := Lib.hid hcq; clear hgp hap hRa hno hso hcq)
    go_ret
    exact ⟨pA, cq, px, rfl, by have := HCQ.out; omega, ⟨fun h => by have := HNO.out h; omega, fun a h => by obtain ⟨g, e, _⟩ := HNS.out a h; exact ⟨g, e⟩⟩, by first | exact GP.out | (have := GP.out; rwa [Nat.zero_add] at this), fun j hj => AP.out j (by first | exact hj | (show j < 0 + n; omega)), Ha.out⟩
set_option maxHeartbeats 4000000 in
set_option maxRecDepth 100000 in
/-- the first place at which a closure says yes -/
theorem indexF_any (A : Option Addr) (n c : Nat) (xs : List Nat) (F : FuncId) (caps : Array Value) (p : Nat → Bool) (w : World) (B : Nat) (h : Fs w B A n xs) (hn : n ≤ 1048576)
    (hent : ∀ args w, (callFunc F args).run Try.prog w = .ok (.enter F args) w)
    (hstep : ∀ k, k < n → Calls Try.prog F (#[.float .f32 (wd xs k)] ++ caps) w fun e w' => e = .returned (.bool (p k)) ∧ w = w') :
    Calls Try.prog 104 #[.slice A n c, .func (.func F) #[] caps] w fun e w' => ((e = .returned (.int .i64 (-1)) ∧ ∀ j, j < n → p j = false) ∨ ∃ k : Nat, k < n ∧ e = .returned (.int .i64 k) ∧ p k = true ∧ ∀ j, j < k → p j = false) ∧ w = w' := by
  have H := Lib.hid h; have HST := Lib.hid hstep
  clear h hstep
  go_enter Try.func104, Try.ntmps104
  go_wp2
  go_loopw [8] (fun i wr => ∃ k : Nat, k ≤ n ∧ i = .int .i64 k ∧ (∀ j, j < k → p j = false) ∧ w = wr) (fun i _ => n - (intOf i).toNat)
  case atStart => exact ⟨0, Nat.zero_le _, rfl, fun j hj => by omega, rfl⟩
  case round =>
    obtain ⟨k, hk, rfl, hz, rfl⟩ := hrel
    have HZ := Lib.hid hz; clear hz
    by_cases hlt : k < n
    · obtain ⟨g, off, rfl, hg, hc⟩ := H.out.2.2 (by omega)
      have hcell : w.cell? ⟨g, off + k, none⟩ = some (.float .f32 (wd xs k)) := hc k hlt
      clear hc
      have HSK := Lib.hid (HST.out k hlt)
      cases hp : p k
      · rw [hp] at HSK
        have HP := Lib.hid hp; clear hp
        go_wp2_with fail
        refine HSK.out.mono ?_
        rintro e w' ⟨rfl, rfl⟩
        go_wp2
        go_roundw
        case rel =>
          refine ⟨k + 1, by omega, by go_num, fun j hj => ?_, trivial⟩
          by_cases e : j = k
          · subst e; exact HP.out
          · exact HZ.out j (by omega)
        case measure => simp [intOf]; omega
      · rw [hp] at HSK
        have HP := Lib.hid hp; clear hp
        go_wp2_with fail
        refine HSK.out.mono ?_
        rintro e w' ⟨rfl, rfl⟩
        go_wp2
        go_ret
        exact ⟨.inr ⟨k, hlt, rfl, HP.out, HZ.out⟩, rfl⟩
    · obtain rfl : k = n := by omega
      go_wp2
      go_ret
      exact ⟨.inl ⟨rfl, HZ.out⟩, rfl⟩
/-- the words that are kept of the first ones -/
def keptN (keep : Nat → Bool) (ys : List Nat) : Nat → List Nat
  | 0 => []
  | k + 1 => if keep k then keptN keep ys k ++ [wd ys k] else keptN keep ys k
theorem kept_len (keep : Nat → Bool) (ys : List Nat) : ∀ k, (keptN keep ys k).length ≤ k
  | 0 => Nat.le_refl _
  | k + 1 => by
    have := kept_len keep ys k
    unfold keptN
    split
    · simp; omega
    · omega
theorem kept_all {keep : Nat → Bool} {ys : List Nat} : ∀ {k : Nat}, (∀ j, j < k → keep j = true) → keptN keep ys k = (List.range k).map (wd ys)
  | 0, _ => rfl
  | k + 1, h => by
    unfold keptN
    rw [if_pos (h k (by omega)), kept_all fun j hj => h j (by omega), List.range_succ, List.map_append]; rfl
theorem kept_small {keep : Nat → Bool} {ys : List Nat} (h : Small ys) : ∀ k, Small (keptN keep ys k)
  | 0 => fun x hx => by cases hx
  | k + 1 => by
    unfold keptN
    split
    · exact (kept_small h k).snoc (h.at_ k)
    · exact kept_small h k
theorem wd_range {ys : List Nat} {k t : Nat} (h : t < k) : wd ((List.range k).map (wd ys)) t = wd ys t := by
  unfold wd; simp [List.getD_eq_getElem?_getD, h]
theorem GCells.setN {g : Nat} {f : Nat → Value} {m : Nat} : ∀ (vs : List Value) (o : Nat) (w : World), GCells w g m f → m ≤ o → GCells (w.setCells g o vs) g m f
  | [], _, _, h, _ => h
  | v :: r, o, w, h, ho => GCells.setN r (o + 1) _ ((h.set o v).congr fun j hj => by show (if j = o then v else f j) = f j; rw [if_neg (by omega)]) (by omega)
theorem On.setN {g : Nat} {a : World} : ∀ (vs : List Value) (o : Nat) (b : World), On g a b → On g a (b.setCells g o vs)
  | [], _, _, h => h
  | v :: r, o, b, h => On.setN r (o + 1) _ (h.set o v)
theorem GCells.less {w : World} {g n m : Nat} {f : Nat → Value} (h : GCells w g n f) (hm : m ≤ n) : GCells w g m f := by
  obtain ⟨cs, h1, h2⟩ := h
  exact ⟨cs, h1, fun j hj => h2 j (by omega)⟩
theorem GCells.toGs {w : World} {g n lo : Nat} {ys : List Nat} (h : GCells w g n (fv ys)) (hl : ys.length = n) (hs : Small ys) (hg : lo ≤ g) : Gs 23 w lo (some ⟨g, 0, none⟩) n ys :=
  ⟨hl, hs, fun _ => by obtain ⟨cs, h1, h2⟩ := h; exact ⟨g, cs, rfl, hg, h1, h2⟩⟩
set_option maxHeartbeats 8000000 in
set_option maxRecDepth 100000 in
theorem deleteF_any (g n c : Nat) (ys : List Nat) (F : FuncId) (caps : Array Value) (keep : Nat → Bool) (w : World) (hG : GCells w g n (fv ys)) (hl : ys.length = n) (hsm : Small ys) (hnc : n ≤ c) (hn : n ≤ 256)
    (hent : ∀ args w, (callFunc F args).run Try.prog w = .ok (.enter F args) w)
    (hstep : ∀ k W, k < n → On g w W → Calls Try.prog F (#[.float .f32 (wd ys k)] ++ caps) W fun e w' => e = .returned (.bool (!keep k)) ∧ W = w') :
    Calls Try.prog 107 #[.slice (some ⟨g, 0, none⟩) n c, .func (.func F) #[] caps] w fun e w' => e = .returned (.slice (some ⟨g, 0, none⟩) (keptN keep ys n).length c) ∧ Gs 23 w' g (some ⟨g, 0, none⟩) (keptN keep ys n).length (keptN keep ys n) ∧ On g w w' := by
  have HG := Lib.hid hG
  have hF : Fs w w.heap.size (some ⟨g, 0, none⟩) n ys := (hG.toGs hl hsm (Nat.le_refl _)).read
  have HI := Lib.hid (indexF_any (some ⟨g, 0, none⟩) n c ys F caps (fun k => !keep k) w _ hF (by omega) hent (fun k hk => hstep k w hk (On.refl _ _)))
  have HST := Lib.hid hstep
  have HSM := Lib.hid hsm
  clear hG hF hstep hsm
  go_enter Try.func107, Try.ntmps107
  go_wp2_with fail
  refine HI.out.mono ?_
  rintro e w' ⟨h, rfl⟩
  clear HI
  rcases h with ⟨rfl, hall⟩ | ⟨k0, hk0, rfl, hdel, hfirst⟩
  · have e1 : keptN keep ys n = ys := by
      rw [kept_all fun j hj => by have := hall j hj; simpa using this]
      apply List.ext_getElem
      · simp [hl]
      · intro i h1 h2; simp [wd, List.getD_eq_getElem?_getD, h2]
    have E1 := Lib.hid e1; clear e1 hall
    go_wp2
    go_ret
    rw [E1.out, hl]
    exact ⟨rfl, HG.out.toGs hl HSM.out (Nat.le_refl _), On.refl _ _⟩
  · have hne1 : ((k0 : Int) == -1) = false := beq_eq_false_iff_ne.2 (by omega)
    have K0 : Hid (keptN keep ys (k0 + 1) = (List.range k0).map (wd ys)) := Lib.hid (by
      unfold keptN
      rw [if_neg (by simpa using hdel), kept_all fun j hj => by have := hfirst j hj; simpa using this])
    clear hdel hfirst
    go_wp2_with fail
    go_loopw [5, 6, 7] (fun iv jv _ wr => ∃ (j i : Nat) (r : Nat → Nat), j ≤ n ∧ i + 1 ≤ j ∧ iv = .int .i64 i ∧ jv = .int .i64 j ∧ Hid (i = (keptN keep ys j).length) ∧ GCells wr g n (fun t => .float .f32 (r t)) ∧ (∀ t, t < i → r t = wd (keptN keep ys j) t) ∧ (∀ t, j ≤ t → t < n → r t = wd ys t) ∧ On g w wr) (fun _ jv _ _ => n - (intOf jv).toNat)
    case atStart => exact ⟨k0 + 1, k0, wd ys, by omega, by omega, rfl, by go_num, Lib.hid (by rw [K0.out]; simp), HG.out, fun t ht => by rw [K0.out, wd_range ht], fun t _ _ => rfl, On.refl _ _⟩
    case round =>
      obtain ⟨j, i, r, hj, hij, rfl, rfl, hi, hg, hlo, hhi, hon⟩ := hrel
      have HGC := Lib.hid hg; have HL := Lib.hid hlo; have HH := Lib.hid hhi; have HO := Lib.hid hon
      clear hg hlo hhi hon K0
      by_cases hlt : j < n
      · have cj : wr.cell? ⟨g, j, none⟩ = some (.float .f32 (wd ys j)) := (HGC.out.cell hlt).trans (by rw [HH.out j (Nat.le_refl _) hlt])
        have ci : wr.cell? ⟨g, i, none⟩ = some (.float .f32 (r i)) := HGC.out.cell (by omega)
        have fi : wr.frozen? ⟨g, i, none⟩ = false := HGC.out.free _
        have HSJ := Lib.hid (HST.out j wr hlt HO.out)
        cases hk : keep j
        · rw [hk] at HSJ
          have eK : Hid (keptN keep ys (j + 1) = keptN keep ys j) := Lib.hid (by rw [keptN, hk]; rfl)
          clear hk
          go_wp2_with fail
          refine HSJ.out.mono ?_
          rintro e w' ⟨rfl, rfl⟩
          go_wp2
          go_roundw
          case rel => exact ⟨j + 1, i, r, by omega, by omega, rfl, by go_num, Lib.hid (by rw [eK.out]; exact hi.out), HGC.out, fun t ht => by rw [eK.out]; exact HL.out t ht, fun t h1 h2 => HH.out t (by omega) h2, HO.out⟩
          case measure => simp [intOf]; omega
        · rw [hk] at HSJ
          have eK : Hid (keptN keep ys (j + 1) = keptN keep ys j ++ [wd ys j]) := Lib.hid (by rw [keptN, hk]; rfl)
          clear hk
          go_wp2_with fail
          refine HSJ.out.mono ?_
          rintro e w' ⟨rfl, rfl⟩
          go_wp2
          go_roundw
          case rel =>
            refine ⟨j + 1, i + 1, fun t => if t = i then wd ys j else r t, by omega, by omega, by go_num, by go_num, Lib.hid (by rw [eK.out, List.length_append, ← hi.out]; rfl), (HGC.out.set i _).congr (fun t ht => ?_), fun t ht => ?_, fun t h1 h2 => ?_, HO.out.set _ _⟩
            · dsimp only; split <;> rfl
            · show (if t = i then wd ys j else r t) = _
              rw [eK.out, wd_snoc hi.out.symm]
              by_cases e : t = i
              · subst e; rw [if_pos rfl, if_neg (by omega), if_pos rfl]
              · rw [if_neg e, if_pos (by omega)]; exact HL.out t (by omega)
            · show (if t = i then wd ys j else r t) = _
              rw [if_neg (by omega)]; exact HH.out t (by omega) h2
          case measure => simp [intOf]; omega
      · obtain rfl : j = n := by omega
        have hcl : ∀ ty, (Builtin.clear_ #[ 22 ] ty #[.slice (some ⟨g, i, none⟩) (j - i) (c - i)]).run Try.prog wr = .ok (.tuple #[]) (wr.setCells g i (List.replicate (j - i) (.float .f32 0))) :=
          fun ty => Lib.run_clear_slice wr _ _ ty _ Try.underlying22 (fun _ => rfl) rfl rfl g i _ _ (by omega) (fun t ht => by rw [HGC.out.cell (by omega)]; rfl) (fun t ht => HGC.out.free _)
        have HC := Lib.hid (GCells.setN (List.replicate (j - i) (.float .f32 0)) i wr (HGC.out.less (m := i) (by omega)) (Nat.le_refl _))
        have HO2 := Lib.hid (On.setN (List.replicate (j - i) (.float .f32 0)) i wr HO.out)
        go_wp2
        go_ret
        rw [← hi.out]
        refine ⟨rfl, (HC.out.congr fun t ht => ?_).toGs hi.out.symm (kept_small HSM.out _) (Nat.le_refl _), HO2.out⟩
        unfold fv; rw [HL.out t ht]
end Go.Proofs.Ytcpcfgdncinpgaa

/- Meters: loudness: numbers that are at least a floor, and means. -/
set_option linter.unusedVariables false
set_option linter.unusedSimpArgs false
namespace Go.Proofs.Ytcpcfgdncinpgaa
open Fl Go.RowKit
def absL (xs : List Nat) : List O := xs.map (ab .f32)
def keptO (T : O) (Y : List O) : List O := Y.filter fun y => geO y T
def sumL (Y : List O) : O := Y.foldl (fun s y => ad s y) (some 0)
def keepT (xs : List Nat) (T : O) (k : Nat) : Bool := geO (ab .f32 (wd xs k)) T
theorem take_snoc {xs : List Nat} {k : Nat} (h : k < xs.length) : xs.take (k + 1) = xs.take k ++ [wd xs k] := by
  rw [List.take_succ_eq_append_getElem h]
  unfold wd; simp [List.getD_eq_getElem?_getD, h]
theorem kept_abs (xs : List Nat) (T : O) : ∀ k, k ≤ xs.length → absL (keptN (keepT xs T) xs k) = keptO T (absL (xs.take k))
  | 0, _ => rfl
  | k + 1, h => by
    have ih := kept_abs xs T k (by omega)
    rw [take_snoc (by omega)]
    unfold keptN
    unfold absL keptO at ih ⊢
    rw [List.map_append, List.filter_append, ← ih]
    unfold keepT
    cases e : geO (ab .f32 (wd xs k)) T
    · simp [e]
    · simp [e]
theorem kept_absn {xs : List Nat} {n : Nat} (h : xs.length = n) (T : O) : absL (keptN (keepT xs T) xs n) = keptO T (absL xs) := by
  rw [kept_abs xs T n (by omega), List.take_of_length_le (by omega)]
theorem sumO_sumL {xs : List Nat} : ∀ k, k ≤ xs.length → sumO xs k = sumL (absL (xs.take k))
  | 0, _ => rfl
  | k + 1, h => by
    rw [take_snoc (by omega)]
    unfold absL sumL
    rw [List.map_append, List.foldl_append]
    show opO .add .f32 (sumO xs k) (ab .f32 (wd xs k)) = _
    rw [sumO_sumL k (by omega)]; rfl
theorem sumO_sumLn {xs : List Nat} {n : Nat} (h : xs.length = n) : sumO xs n = sumL (absL xs) := by rw [sumO_sumL n (by omega), List.take_of_length_le (by omega)]
theorem absL_are {p : Ls} {n : Nat} {Y : Nat → O} (h : p.xs.length = n) (hn : p.n = n) (ha : Are p Y) : absL p.xs = (List.range n).map Y := by
  apply List.ext_getElem
  · simp [absL, h]
  · intro i h1 h2
    simp only [absL, List.getElem_map, List.getElem_range]
    have := ha i (by simp [absL] at h1; omega)
    unfold wd at this
    rw [List.getD_eq_getElem?_getD, List.getElem?_eq_getElem (by simp [absL] at h1; exact h1)] at this
    exact this
theorem geO_fv {p q : Nat} {P Q : O} (hp : Hid (Fv .f32 p P)) (hq : Hid (Fv .f32 q Q)) : (FloatKind.f32.format.order p q == some .gt || FloatKind.f32.format.order p q == some .eq) = geO P Q := by rw [gt_fv hp hq, eq_fv hp hq]; rfl
/-- numbers that are kept, in memory of the call's own -/
def PKept (T : O) (xs : List Nat) (w : World) (e : Ending) (w' : World) : Prop :=
  ∃ (p : Ls) (c : Nat), e = .returned (.slice p.A p.n c) ∧ Gs 23 w' w.heap.size p.A p.n p.xs ∧ absL p.xs = keptO T (absL xs) ∧ w.Since w.heap.size w'
set_option maxHeartbeats 4000000 in
set_option maxRecDepth 100000 in
theorem specAbove_any (A : Option Addr) (n c : Nat) (xs : List Nat) (t : Nat) (T : O) (w : World) (hA : Fs w w.heap.size A n xs) (hn : n ≤ 256) (ht : Hid (Fv .f32 t T)) :
    Calls Try.prog 75 #[.slice A n c, .float .f32 t] w (PKept T xs w) := by
  have HA := Lib.hid hA
  clear hA
  go_enter Try.func75, Try.ntmps75
  go_wp2
  go_loopw [5, 6] (fun v i wr => ∃ k m : Nat, k ≤ n ∧ i = .int .i64 k ∧ Hid (m = (keptN (keepT xs T) xs k).length) ∧ Rw w.heap.size wr v m (fun j => ab .f32 (wd (keptN (keepT xs T) xs k) j)) ∧ w.Since w.heap.size wr) (fun _ i _ => n - (intOf i).toNat)
  case atStart => exact ⟨0, 0, Nat.zero_le _, rfl, Lib.hid rfl, Rw.start w _ (Nat.le_refl _) _, (World.Since.refl _ _).alloc (Nat.le_refl _) _⟩
  case round =>
    obtain ⟨k, m, hk, rfl, hm, hr, hs⟩ := hrel
    have HR := Lib.hid hr; have HS := Lib.hid hs
    clear hr hs
    by_cases hlt : k < n
    · obtain ⟨g, off, rfl, hg, hc⟩ := HA.out.2.2 (by omega)
      have hcell : wr.cell? ⟨g, off + k, none⟩ = some (.float .f32 (wd xs k)) := (HS.out.cell (a := ⟨g, off + k, none⟩) hg).trans (hc k hlt)
      have hx : Hid (Fv .f32 (wd xs k) (ab .f32 (wd xs k))) := Lib.hid ⟨HA.out.2.1.at_ k, rfl⟩
      have hsz := HS.out.size
      clear hc
      have g1 := geO_fv hx ht
      have hml := kept_len (keepT xs T) xs k
      rw [← hm.out] at hml
      cases e1 : geO (ab .f32 (wd xs k)) T
      · rw [e1] at g1
        have eK : Hid (keptN (keepT xs T) xs (k + 1) = keptN (keepT xs T) xs k) := Lib.hid (by rw [keptN, if_neg (by unfold keepT; rw [e1]; decide)])
        clear e1
        go_wp2
        go_roundw
        case rel => exact ⟨k + 1, m, by omega, by go_num, Lib.hid (by rw [eK.out]; exact hm.out), by rw [eK.out]; exact HR.out, HS.out⟩
        case measure => simp [intOf]; omega
      · rw [e1] at g1
        have eK : Hid (keptN (keepT xs T) xs (k + 1) = keptN (keepT xs T) xs k ++ [wd xs k]) := Lib.hid (by rw [keptN, if_pos (by unfold keepT; exact e1)])
        clear e1
        have hR2 : Hid (Rw w.heap.size wr _ m (fun j => ab .f32 (wd (keptN (keepT xs T) xs (k + 1)) j))) := Lib.hid (by
          obtain ⟨os, h1, h2, h3⟩ := HR.out
          exact ⟨os, h1, h2, fun j hj => by rw [h3 j hj]; show ab .f32 (wd (keptN (keepT xs T) xs k) j) = ab .f32 (wd (keptN (keepT xs T) xs (k + 1)) j); rw [eK.out, wd_snoc hm.out.symm, if_pos hj]⟩)
        have hy : Hid (Fv .f32 (wd xs k) (ab .f32 (wd (keptN (keepT xs T) xs (k + 1)) m))) := Lib.hid (by rw [eK.out, wd_snoc hm.out.symm, if_neg (by omega), if_pos rfl]; exact hx.out)
        go_wp2_with (first | (at_builtin; refine wpList_app1 rfl (.tmp 20) (.tmp 25) rfl w.heap.size _ m (fun j => ab .f32 (wd (keptN (keepT xs T) xs (k + 1)) j)) rfl _ _ rfl (by simp [go_sem]) (by omega) (by simp; omega) hy (hR2.out.alloc _) ?_; intro v' w3 hR3 hS3))
        go_roundw
        case rel => exact ⟨k + 1, m + 1, by omega, by go_num, Lib.hid (by rw [eK.out, List.length_append, ← hm.out]; rfl), hR3.out, HS.out.trans (((World.Since.refl _ _).alloc hsz _).trans hS3.out)⟩
        case measure => simp [intOf]; omega
    · obtain rfl : k = n := by omega
      obtain ⟨⟨pA, pn, px⟩, cp, rfl, hpn, hg, ha⟩ := HR.out.done
      simp only at hpn hg; subst hpn
      have HG := Lib.hid hg; have HAA := Lib.hid ha; clear hg ha
      go_wp2
      go_ret
      refine ⟨⟨pA, pn, px⟩, cp, rfl, HG.out, ?_, HS.out⟩
      rw [← kept_absn HA.out.1 T]
      apply List.ext_getElem
      · simp [absL, HG.out.1, ← hm.out]
      · intro i h1 h2
        have h3 : i < pn := by simpa [absL, HG.out.1] using h1
        have h4 : ab .f32 (px.getD i 0) = ab .f32 ((keptN (keepT xs T) xs k).getD i 0) := HAA.out i h3
        simp only [absL, List.getElem_map]
        have h5 : i < px.length := by have := HG.out.1; omega
        have h6 : i < (keptN (keepT xs T) xs k).length := by rw [← hm.out]; exact h3
        rw [List.getD_eq_getElem?_getD, List.getD_eq_getElem?_getD, List.getElem?_eq_getElem h5, List.getElem?_eq_getElem h6] at h4
        exact h4
theorem leastClos_any (x t gb : Nat) (X T : O) (b : Bool) (W : World) (hx : Hid (Fv .f32 x X)) (ht : Hid (Fv .f32 t T)) (hc : W.cell? ⟨gb, 0, none⟩ = some (.float .f32 t)) (hb : geO X T = b) :
    Calls Try.prog 109 #[.float .f32 x, .pointer (some ⟨gb, 0, none⟩)] W fun e w' => e = .returned (.bool (!b)) ∧ W = w' := by
  have g1 := geO_fv hx ht
  rw [hb] at g1
  cases b
  all_goals
    go_enter Try.func109, Try.ntmps109
    go_wp2
    go_ret
    exact ⟨rfl, rfl⟩
theorem delete0_any (A : Option Addr) (c : Nat) (F : FuncId) (caps : Array Value) (w : World) (hent : ∀ args w, (callFunc F args).run Try.prog w = .ok (.enter F args) w) :
    Calls Try.prog 107 #[.slice A 0 c, .func (.func F) #[] caps] w fun e w' => e = .returned (.slice A 0 c) ∧ w = w' := by
  have HI := Lib.hid (indexF_any A 0 c [] F caps (fun _ => true) w 0 ⟨rfl, (fun x hx => by cases hx), fun h => by omega⟩ (by omega) hent (fun k hk => by omega))
  go_enter Try.func107, Try.ntmps107
  go_wp2_with fail
  refine HI.out.mono ?_
  rintro e w' ⟨h, rfl⟩
  rcases h with ⟨rfl, _⟩ | ⟨k0, hk0, _⟩
  · go_wp2
    go_ret
    exact ⟨rfl, rfl⟩
  · omega
theorem Gs.zero_ {T : TypeId} {w : World} {lo : Nat} {A : Option Addr} : Gs T w lo A 0 [] := ⟨rfl, (fun x hx => by cases hx), fun h => by omega⟩
set_option maxHeartbeats 4000000 in
set_option maxRecDepth 100000 in
theorem implLeast_any (A : Option Addr) (n c : Nat) (xs : List Nat) (t : Nat) (T : O) (w : World) (hA : Fs w w.heap.size A n xs) (hn : n ≤ 256) (ht : Hid (Fv .f32 t T)) :
    Calls Try.prog 77 #[.slice A n c, .float .f32 t] w (PKept T xs w) := by
  have HA := Lib.hid hA
  clear hA
  obtain ⟨W1, hW1⟩ : ∃ W, W = w.alloc (.cells #[.float .f32 t] 23) := ⟨_, rfl⟩
  have S1 : Hid (w.Since w.heap.size W1) := Lib.hid (by rw [hW1]; exact (World.Since.refl _ _).alloc (Nat.le_refl _) _)
  have z1 : Hid (W1.heap.size = w.heap.size + 1) := Lib.hid (by rw [hW1]; simp)
  have C1 : Hid (W1.cell? ⟨w.heap.size, 0, none⟩ = some (.float .f32 t)) := Lib.hid (by rw [hW1]; simp [go_sem])
  go_enter Try.func77, Try.ntmps77
  go_wp2_with fail
  rw [← hW1]
  refine (clone2_any A n c xs W1 (HA.out.now S1.out) hn).mono ?_
  rintro e w2 ⟨A', c', ys, rfl, hc', hns, hg, hy, hs⟩
  have z2 := S1.out.size
  have S2 := Lib.hid (S1.out.trans (since_mono hs z2))
  have C2 : Hid (w2.cell? ⟨w.heap.size, 0, none⟩ = some (.float .f32 t)) := Lib.hid ((hs.cell (a := ⟨w.heap.size, 0, none⟩) (by have := z1.out; show w.heap.size < _; omega)).trans C1.out)
  have hab : absL ys = absL xs := by
    apply List.ext_getElem
    · simp [absL, hg.1, HA.out.1]
    · intro i h1 h2
      have h3 : i < n := by simpa [absL, hg.1] using h1
      have h4 := hy i h3
      unfold wd at h4
      have h5 : i < ys.length := by have := hg.1; omega
      have h6 : i < xs.length := by have := HA.out.1; omega
      rw [List.getD_eq_getElem?_getD, List.getD_eq_getElem?_getD, List.getElem?_eq_getElem h5, List.getElem?_eq_getElem h6] at h4
      simpa [absL] using h4
  have HAB := Lib.hid hab
  clear hab hy hs
  by_cases h0 : 0 < n
  · obtain ⟨g, cs, rfl, hgl, hb, hcs⟩ := hg.2.2 h0
    have hgc : GCells w2 g n (fv ys) := ⟨cs, hb, hcs⟩
    have z3 : w.heap.size < g := by have := z1.out; omega
    have HD := Lib.hid (deleteF_any g n c' ys 109 #[.pointer (some ⟨w.heap.size, 0, none⟩)] (keepT ys T) w2 hgc hg.1 hg.2.1 hc' hn (fun _ _ => rfl) (fun k W hk ho => leastClos_any _ t w.heap.size _ T _ W (Lib.hid ⟨hg.2.1.at_ k, rfl⟩) ht ((on_cells ho (by have := hgc.lt; omega) (by omega)).1 0 |>.trans C2.out) rfl))
    have HGL := Lib.hid hg.1
    clear hgc hb hcs hg hns
    go_wp2_with fail
    refine HD.out.mono ?_
    rintro e w3 ⟨rfl, hg3, ho3⟩
    have HG3 := Lib.hid (hg3.less (l := w.heap.size) (by omega)); have HO3 := Lib.hid (S2.out.trans (ho3.since (lo := w.heap.size) (by omega))); clear hg3 ho3 HD
    go_wp2
    go_ret
    exact ⟨⟨some ⟨g, 0, none⟩, _, keptN (keepT ys T) ys n⟩, c', rfl, HG3.out, by rw [← HAB.out]; exact kept_absn HGL.out T, HO3.out⟩
  · obtain rfl : n = 0 := by omega
    have hy0 : ys = [] := List.eq_nil_of_length_eq_zero hg.1
    subst hy0
    have HD := Lib.hid (delete0_any A' c' 109 #[.pointer (some ⟨w.heap.size, 0, none⟩)] w2 (fun _ _ => rfl))
    clear hg hns
    go_wp2_with fail
    refine HD.out.mono ?_
    rintro e w3 ⟨rfl, rfl⟩
    go_wp2
    go_ret
    exact ⟨⟨A', 0, []⟩, c', rfl, Gs.zero_, by rw [← HAB.out]; rfl, S2.out⟩
theorem implMeanOf_ok (A : Option Addr) (n c : Nat) (xs : List Nat) (w : World) (B : Nat) (h : Fs w B A n xs) (hn : n ≤ 256) (h0 : 0 < n) :
    Calls Try.prog 78 #[.slice A n c] w (RetFB .f32 (qu (sumL (absL xs)) (some (fI (n : Nat)))) true w) := by
  have HD := Lib.hid (implSum_any A n c xs w B h (by omega))
  rw [if_pos hn, decide_eq_true hn, sumO_sumLn h.1] at HD
  have h1 : ((n : Int) == 0) = false := by simp; omega
  have q2 := fI_fv (n : Nat)
  go_enter Try.func78, Try.ntmps78
  go_wp2_with fail
  refine HD.out.mono ?_
  rintro e w' ⟨r1, m1, rfl, hv, rfl⟩
  have V1 := Lib.hid hv
  clear hv
  go_wp2_with (with_reducible_and_instances refine Lo.wpList_fo _ rfl _ _ _ _ _ rfl _ _ _ _ _ rfl rfl rfl (by assumption) (by assumption) ?_; intro rr nn hrr)
  go_ret2
  exact ⟨_, _, rfl, hrr.out, rfl⟩
theorem implMeanOf_no (A : Option Addr) (c : Nat) (xs : List Nat) (w : World) (B : Nat) (h : Fs w B A 0 xs) :
    Calls Try.prog 78 #[.slice A 0 c] w (RetFB .f32 (some 0) false w) := by
  have HD := Lib.hid (implSum_any A 0 c xs w B h (by omega))
  rw [if_pos (by omega), decide_eq_true (by omega)] at HD
  go_enter Try.func78, Try.ntmps78
  go_wp2_with fail
  refine HD.out.mono ?_
  rintro e w' ⟨r1, m1, rfl, hv, rfl⟩
  clear hv
  go_wp2
  go_ret2
  exact ⟨0, m1, rfl, fv32z, rfl⟩
end Go.Proofs.Ytcpcfgdncinpgaa

/- Meters: crossings. -/
set_option linter.unusedVariables false
set_option linter.unusedSimpArgs false
namespace Go.Proofs.Ytcpcfgdncinpgaa
open Fl Go.RowKit
def sideO (x : O) : Nat := if ltO x (some 0) then 1 else if geO x (some 0) then 2 else 0
def crossB (a b : O) : Bool := (geO a (some 0) && ltO b (some 0)) || (ltO a (some 0) && geO b (some 0))
def crN (X : Nat → O) : Nat → Nat
  | 0 => 0
  | k + 1 => if crossB (X k) (X (k + 1)) then crN X k + 1 else crN X k
theorem crN_le (X : Nat → O) : ∀ k, crN X k ≤ k
  | 0 => Nat.le_refl _
  | k + 1 => by have := crN_le X k; unfold crN; split <;> omega
theorem side_cases (x : O) : (sideO x = 1 ∧ ltO x (some 0) = true ∧ geO x (some 0) = false) ∨ (sideO x = 2 ∧ ltO x (some 0) = false ∧ geO x (some 0) = true) ∨ (sideO x = 0 ∧ ltO x (some 0) = false ∧ geO x (some 0) = false) := by
  unfold sideO geO gtO eqO ltO
  cases ordO .f32 x (some 0) with
  | none => simp
  | some c => cases c <;> simp
theorem side_le (x : O) : sideO x ≤ 2 := by unfold sideO; split; omega; split <;> omega
theorem cross_side (a b : O) : crossB a b = (!(sideO a == sideO b) && !(sideO a == 0 || sideO b == 0)) := by
  unfold crossB
  rcases side_cases a with ⟨h1, h2, h3⟩ | ⟨h1, h2, h3⟩ | ⟨h1, h2, h3⟩ <;> rcases side_cases b with ⟨k1, k2, k3⟩ | ⟨k1, k2, k3⟩ | ⟨k1, k2, k3⟩ <;> rw [h1, h2, h3, k1, k2, k3] <;> rfl
set_option maxHeartbeats 8000000 in
set_option maxRecDepth 100000 in
theorem specCross_ok (A : Option Addr) (n c : Nat) (xs : List Nat) (w : World) (hA : Fs w w.heap.size A n xs) (hn : n ≤ 256) :
    Calls Try.prog 26 #[.slice A n c] w (PIB (crN (fun k => ab .f32 (wd xs k)) (n - 1) : Nat) true w) := by
  have hfew : decide ((n : Int) ≤ 256) = true := decide_eq_true (by omega)
  have HA := Lib.hid hA
  clear hA
  go_enter Try.func26, Try.ntmps26
  go_wp2_with (first | (go_at_call 50; refine (specFew_any _ _ _ _ _ hfew).mono ?_; rintro e w' ⟨rfl, rfl⟩))
  go_loopw [4, 5] (fun m i wr => ∃ k q : Nat, k ≤ n - 1 ∧ i = .int .i64 (k + 1 : Nat) ∧ m = .int .i64 q ∧ Hid (q = crN (fun k => ab .f32 (wd xs k)) k) ∧ w = wr) (fun _ i _ => n - (intOf i).toNat)
  case atStart => exact ⟨0, 0, Nat.zero_le _, rfl, rfl, Lib.hid rfl, rfl⟩
  case round =>
    obtain ⟨k, q, hk, rfl, rfl, hq, rfl⟩ := hrel
    have hqb : q ≤ k := by rw [hq.out]; exact crN_le _ _
    by_cases hlt : k + 1 < n
    · obtain ⟨g, off, rfl, hg, hc⟩ := HA.out.2.2 (by omega)
      have d1 : w.cell? ⟨g, off + k, none⟩ = some (.float .f32 (wd xs k)) := hc k (by omega)
      have d2 : w.cell? ⟨g, off + (k + 1), none⟩ = some (.float .f32 (wd xs (k + 1))) := hc (k + 1) (by omega)
      have x1 : Hid (Fv .f32 (wd xs k) (ab .f32 (wd xs k))) := Lib.hid ⟨HA.out.2.1.at_ k, rfl⟩
      have x2 : Hid (Fv .f32 (wd xs (k + 1)) (ab .f32 (wd xs (k + 1)))) := Lib.hid ⟨HA.out.2.1.at_ (k + 1), rfl⟩
      have g1 := lt_fv x1 fv0; have g2 := geO_fv x1 fv0; have g3 := lt_fv x2 fv0; have g4 := geO_fv x2 fv0
      have eC : Hid (crN (fun k => ab .f32 (wd xs k)) (k + 1) = if crossB (ab .f32 (wd xs k)) (ab .f32 (wd xs (k + 1))) then crN (fun k => ab .f32 (wd xs k)) k + 1 else crN (fun k => ab .f32 (wd xs k)) k) := Lib.hid rfl
      clear hc
      rcases side_cases (ab .f32 (wd xs k)) with ⟨_, h2, h3⟩ | ⟨_, h2, h3⟩ | ⟨_, h2, h3⟩ <;> rcases side_cases (ab .f32 (wd xs (k + 1))) with ⟨_, k2, k3⟩ | ⟨_, k2, k3⟩ | ⟨_, k2, k3⟩
      all_goals
        rw [h2] at g1; rw [h3] at g2; rw [k2] at g3; rw [k3] at g4
        have eC2 := eC.out
        rw [show crossB (ab .f32 (wd xs k)) (ab .f32 (wd xs (k + 1))) = _ from rfl] at eC2
        unfold crossB at eC2
        rw [h2, h3, k2, k3] at eC2
        simp only [Bool.and_true, Bool.and_false, Bool.true_and, Bool.false_and, Bool.or_false, Bool.or_true, Bool.or_self, Bool.and_self, if_true, if_false, Bool.false_eq_true] at eC2
        have EC := Lib.hid eC2
        clear eC eC2 h2 h3 k2 k3
        go_wp2
        go_roundw
        case rel =>
          first
            | exact ⟨k + 1, q + 1, by omega, by go_num, by go_num, Lib.hid (by rw [EC.out, ← hq.out]), trivial⟩
            | exact ⟨k + 1, q, by omega, by go_num, rfl, Lib.hid (by rw [EC.out]; exact hq.out), trivial⟩
        case measure => simp [intOf]; omega
    · obtain rfl : k = n - 1 := by omega
      have hge : ¬ ((n - 1 + 1 : Nat) : Int) < n := by omega
      go_wp2
      go_ret2
      exact ⟨by rw [hq.out]; rfl, World.Since.refl _ _⟩
theorem Try.infoSd : (Try.prog.info? 74).map (fun i => (i.zero, i.size, i.bytes)) = some (some (.slice none 0 0), 1, 24) := by kernel_rfl
set_option maxHeartbeats 4000000 in
set_option maxRecDepth 100000 in
theorem implWinsS_any (A : Option Addr) (n c : Nat) (size hop : Nat) (w : World) (hA : 0 < n → ∃ g off, A = some ⟨g, off, none⟩ ∧ g < w.heap.size) (hn : n ≤ 256) (hnc : n ≤ c) (hs1 : 1 ≤ size) (hs2 : size ≤ 256) (hh1 : 1 ≤ hop) (hh2 : hop ≤ 256) :
    Calls Try.prog 62 #[.slice A n c, .int .i64 size, .int .i64 hop] w fun e w' => ∃ v, e = .returned v ∧ Rv 74 w.heap.size w' v (winN n size hop) (fwin A size hop) ∧ w.Since w.heap.size w' := by
  have HA := Lib.hid hA
  clear hA
  go_enter Try.func62, Try.ntmps62
  go_wp2
  go_loopw [7, 8] (fun v i wr => ∃ k p : Nat, k ≤ winN n size hop ∧ p ≤ n + hop ∧ Hid (p = k * hop) ∧ i = .int .i64 p ∧ Rv 74 w.heap.size wr v k (fwin A size hop) ∧ w.Since w.heap.size wr) (fun _ i _ => n + 1 - (intOf i).toNat)
  case atStart => exact ⟨0, 0, Nat.zero_le _, Nat.zero_le _, Lib.hid (by simp), rfl, Rv.nil_ _ _ _ _, World.Since.refl _ _⟩
  case round =>
    obtain ⟨k, p, hk, hpb, hp, rfl, hr, hs⟩ := hrel
    have HR := Lib.hid hr; have HS := Lib.hid hs
    clear hr hs
    by_cases hlt : p + size ≤ n
    · have hkw : k < winN n size hop := (win_iff hh1).1 (by rw [← hp.out]; exact hlt)
      obtain ⟨g, off, rfl, hg⟩ := HA.out (by omega)
      have hsz := HS.out.size
      have hle : (p : Int) + size ≤ n := by omega
      have hf : Hid (fwin (some ⟨g, off, none⟩) size hop k = .slice (some ⟨g, off + p, none⟩) size size) := Lib.hid (by unfold fwin; rw [← hp.out]; rfl)
      go_wp2_with (first | (at_builtin; refine wpList_appV rfl (.tmp 18) (.tmp 28) 71 74 (.slice none 0 0) 24 rfl Try.underlying71 Try.infoSd rfl (by decide) w.heap.size _ k _ rfl _ (.slice (some ⟨g, off + p, none⟩) size size) rfl (by simp [go_sem]) rfl (by have := winN_le (n := n) (hop := hop) hs1; omega) (by simp; omega) hf.out.symm (HR.out.alloc _) ?_; intro v' w3 hR3 hS3))
      go_roundw
      case rel => exact ⟨k + 1, p + hop, by omega, by omega, Lib.hid (by rw [hp.out, Nat.add_mul, Nat.one_mul]), by go_num, hR3.out, HS.out.trans (((World.Since.refl _ _).alloc hsz _).trans hS3.out)⟩
      case measure => simp [intOf]; omega
    · obtain rfl : k = winN n size hop := by
        by_cases h : k < winN n size hop
        · exact absurd ((win_iff hh1).2 h) (by rw [← hp.out]; exact hlt)
        · omega
      have hgt : ¬ ((p : Int) + size ≤ n) := by omega
      clear hk
      go_wp2
      go_ret
      exact ⟨_, rfl, HR.out, HS.out⟩
theorem specCross_no (A : Option Addr) (n c : Nat) (w : World) (hn : ¬ n ≤ 256) : Calls Try.prog 26 #[.slice A n c] w (PIB 0 false w) := by
  have hfew : decide ((n : Int) ≤ 256) = false := decide_eq_false (by omega)
  go_enter Try.func26, Try.ntmps26
  go_wp2_with (first | (go_at_call 50; refine (specFew_any _ _ _ _ _ hfew).mono ?_; rintro e w' ⟨rfl, rfl⟩))
  go_ret2
  exact ⟨rfl, World.Since.refl _ _⟩
theorem implCross_no (A : Option Addr) (n c : Nat) (w : World) (hn : ¬ n ≤ 256) : Calls Try.prog 27 #[.slice A n c] w (PIB 0 false w) := by
  have hfew : decide ((n : Int) ≤ 256) = false := decide_eq_false (by omega)
  go_enter Try.func27, Try.ntmps27
  go_wp2_with (first | (go_at_call 53; refine (implSamples_b _ _ _ _ _ hfew).mono ?_; rintro e w' ⟨rfl, rfl⟩))
  go_ret2
  exact ⟨rfl, World.Since.refl _ _⟩
theorem sideOf_any (x : Nat) (X : O) (s : Nat) (w : World) (hx : Hid (Fv .f32 x X)) (hs : sideO X = s) :
    Calls Try.prog 64 #[.float .f32 x] w fun e w' => e = .returned (.int .i64 (s : Int)) ∧ w = w' := by
  have g1 := lt_fv hx fv0; have g2 := geO_fv hx fv0
  subst hs
  rcases side_cases X with ⟨h1, h2, h3⟩ | ⟨h1, h2, h3⟩ | ⟨h1, h2, h3⟩
  all_goals
    rw [h1]
    rw [h2] at g1; rw [h3] at g2
    go_enter Try.func64, Try.ntmps64
    go_wp2
    go_ret
    exact ⟨rfl, rfl⟩
/-- cells of any type in one block, from its beginning on -/
def VCells (T : TypeId) (w : World) (g : Nat) (n : Nat) (f : Nat → Value) : Prop := ∃ cs, w.heap[g]? = some (.cells cs T (0, 0)) ∧ ∀ j, j < n → cs[j]? = some (f j)
theorem VCells.cell {T : TypeId} {w : World} {g n : Nat} {f : Nat → Value} (h : VCells T w g n f) {j : Nat} (hj : j < n) : w.cell? ⟨g, j, none⟩ = some (f j) := by
  obtain ⟨cs, hb, hc⟩ := h
  simp only [World.cell?, hb]; simpa using hc j hj
theorem VCells.free {T : TypeId} {w : World} {g n : Nat} {f : Nat → Value} (h : VCells T w g n f) (j : Nat) : w.frozen? ⟨g, j, none⟩ = false := by
  obtain ⟨cs, hb, _⟩ := h
  simp [World.frozen?, hb]
theorem VCells.lt {T : TypeId} {w : World} {g n : Nat} {f : Nat → Value} (h : VCells T w g n f) : g < w.heap.size := by
  obtain ⟨cs, hb, _⟩ := h
  exact (Array.getElem?_eq_some_iff.1 hb).1
theorem VCells.of {T : TypeId} {w v : World} {g n : Nat} {f : Nat → Value} (h : VCells T w g n f) (e : v.heap[g]? = w.heap[g]?) : VCells T v g n f := by
  obtain ⟨cs, hb, hc⟩ := h
  exact ⟨cs, e.trans hb, hc⟩
theorem VCells.congr {T : TypeId} {w : World} {g n : Nat} {f f' : Nat → Value} (h : VCells T w g n f) (e : ∀ j, j < n → f j = f' j) : VCells T w g n f' := by
  obtain ⟨cs, hb, hc⟩ := h
  exact ⟨cs, hb, fun j hj => by rw [hc j hj, e j hj]⟩
theorem VCells.set {T : TypeId} {w : World} {g n : Nat} {f : Nat → Value} (h : VCells T w g n f) (k : Nat) (v : Value) : VCells T (w.setCell ⟨g, k, none⟩ v) g n (fun j => if j = k then v else f j) := by
  obtain ⟨cs, hb, hc⟩ := h
  refine ⟨cs.setIfInBounds k v, by simp [World.setCell, Array.getElem?_modify, hb], fun j hj => ?_⟩
  rw [Array.getElem?_setIfInBounds]
  have hl : j < cs.size := (Array.getElem?_eq_some_iff.1 (hc j hj)).1
  by_cases e : k = j
  · subst e; rw [if_pos rfl, if_pos hl]; show some v = some (if k = k then v else f k); rw [if_pos rfl]
  · rw [if_neg e, hc j hj]; show some (f j) = some (if j = k then v else f j); rw [if_neg fun (h : j = k) => e h.symm]
theorem Try.infoSide : (Try.prog.info? 73).map (fun i => (i.zero, i.size, i.bytes)) = some (some (.int .i64 0), 1, 8) := by kernel_rfl
def sideV (X : Nat → O) (k j : Nat) : Value := .int .i64 (if j < k then (sideO (X j) : Int) else 0)
set_option maxHeartbeats 4000000 in
set_option maxRecDepth 100000 in
theorem implSides_any (A : Option Addr) (n c : Nat) (xs : List Nat) (w : World) (hA : Fs w w.heap.size A n xs) (hn : n ≤ 256) :
    Calls Try.prog 63 #[.slice A n c, .func (.func 64) #[] #[]] w fun e w' => e = .returned (.slice (some ⟨w.heap.size, 0, none⟩) n n) ∧ VCells 73 w' w.heap.size n (sideV (fun k => ab .f32 (wd xs k)) n) ∧ w.Since w.heap.size w' := by
  have HA := Lib.hid hA
  have hmk := fun W => run_make_row' (P := Try.prog) 74 73 (.int .i64 0) 8 Try.underlying74 Try.infoSide rfl .i64 .i64 n (by omega) (by omega) W
  clear hA
  go_enter Try.func63, Try.ntmps63
  go_wp2
  go_loopw [13] (fun i wr => ∃ k : Nat, k ≤ n ∧ i = .int .i64 k ∧ VCells 73 wr w.heap.size n (sideV (fun k => ab .f32 (wd xs k)) k) ∧ w.Since w.heap.size wr) (fun i _ => n - (intOf i).toNat)
  case atStart =>
    obtain ⟨cs, hb, _, hc⟩ := (World.rowIs_made w (.int .i64 0) n 73)
    exact ⟨0, Nat.zero_le _, rfl, ⟨cs, hb, fun j hj => by rw [hc j hj]; rfl⟩, (World.Since.refl _ _).alloc (Nat.le_refl _) _⟩
  case round =>
    obtain ⟨k, hk, rfl, hcs, hs⟩ := hrel
    have HC := Lib.hid hcs; have HS := Lib.hid hs
    clear hcs hs
    by_cases hlt : k < n
    · obtain ⟨g, off, rfl, hg, hc⟩ := HA.out.2.2 (by omega)
      have hcell : wr.cell? ⟨g, off + k, none⟩ = some (.float .f32 (wd xs k)) := (HS.out.cell (a := ⟨g, off + k, none⟩) hg).trans (hc k hlt)
      have hx : Hid (Fv .f32 (wd xs k) (ab .f32 (wd xs k))) := Lib.hid ⟨HA.out.2.1.at_ k, rfl⟩
      have hc2 : wr.cell? ⟨w.heap.size, k, none⟩ = some (sideV (fun k => ab .f32 (wd xs k)) k k) := HC.out.cell hlt
      have hf2 : wr.frozen? ⟨w.heap.size, k, none⟩ = false := HC.out.free _
      clear hc
      go_wp2_with (first | (go_at_call 64; refine (sideOf_any _ _ _ _ hx rfl).mono ?_; rintro e w2 ⟨rfl, rfl⟩))
      go_roundw
      case rel =>
        refine ⟨k + 1, by omega, by go_num, (HC.out.set k _).congr (fun j hj => ?_), HS.out.setCell (Nat.le_refl _) _⟩
        unfold sideV
        by_cases e : j = k
        · subst e; rw [if_pos rfl, if_pos (by omega)]
        · rw [if_neg e]
          by_cases e2 : j < k
          · rw [if_pos e2, if_pos (by omega)]
          · rw [if_neg e2, if_neg (by omega)]
      case measure => simp [intOf]; omega
    · obtain rfl : k = n := by omega
      go_wp2
      go_ret
      exact ⟨rfl, HC.out, HS.out⟩
set_option maxHeartbeats 4000000 in
set_option maxRecDepth 100000 in
theorem hasNone_any (g off : Nat) (a b : Nat) (r : Bool) (w : World) (h0 : w.cell? ⟨g, off, none⟩ = some (.int .i64 (a : Int))) (h1 : w.cell? ⟨g, off + 1, none⟩ = some (.int .i64 (b : Int))) (ha : a ≤ 2) (hb : b ≤ 2) (hr : (a == 0 || b == 0) = r) :
    Calls Try.prog 65 #[.slice (some ⟨g, off, none⟩) 2 2, .int .i64 0] w fun e w' => e = .returned (.bool r) ∧ w = w' := by
  obtain ⟨d, hd⟩ : ∃ d : Int, Hid (d = if a = 0 then 0 else if b = 0 then 1 else -1) := ⟨_, Lib.hid rfl⟩
  have HI : Hid (Calls Try.prog 106 #[.slice (some ⟨g, off, none⟩) 2 2, .int .i64 0] w fun e w' => e = .returned (.int .i64 d) ∧ w = w') := Lib.hid (by
    go_enter Try.func106, Try.ntmps106
    go_wp2
    go_loopw [8] (fun i wr => ∃ k : Nat, k ≤ 2 ∧ i = .int .i64 k ∧ (1 ≤ k → a ≠ 0) ∧ (2 ≤ k → b ≠ 0) ∧ w = wr) (fun i _ => 2 - (intOf i).toNat)
    case atStart => exact ⟨0, by omega, rfl, fun h => by omega, fun h => by omega, rfl⟩
    case round =>
      obtain ⟨k, hk, rfl, z1, z2, rfl⟩ := hrel
      obtain rfl | rfl | rfl : k = 0 ∨ k = 1 ∨ k = 2 := by omega
      · by_cases e : a = 0
        · obtain rfl : d = 0 := by rw [hd.out, if_pos e]
          subst e
          go_wp2
          go_ret
          exact ⟨rfl, rfl⟩
        · have hne : ((0 : Int) == (a : Int)) = false := by simp; omega
          go_wp2
          go_roundw
          case rel => exact ⟨1, by omega, rfl, fun _ => e, fun h => by omega, trivial⟩
          case measure => simp [intOf]
      · have e1 := z1 (by omega)
        by_cases e : b = 0
        · obtain rfl : d = 1 := by rw [hd.out, if_neg e1, if_pos e]
          subst e
          go_wp2
          go_ret
          exact ⟨rfl, rfl⟩
        · have hne : ((0 : Int) == (b : Int)) = false := by simp; omega
          go_wp2
          go_roundw
          case rel => exact ⟨2, by omega, rfl, fun _ => e1, fun _ => e, trivial⟩
          case measure => simp [intOf]
      · have e1 := z1 (by omega); have e2 := z2 (by omega)
        obtain rfl : d = -1 := by rw [hd.out, if_neg e1, if_neg e2]
        go_wp2
        go_ret
        exact ⟨rfl, rfl⟩)
  go_enter Try.func65, Try.ntmps65
  go_wp2_with fail
  refine HI.out.mono ?_
  rintro e w' ⟨rfl, rfl⟩
  clear HI
  subst hr
  by_cases e1 : a = 0
  · obtain rfl : d = 0 := by rw [hd.out, if_pos e1]
    subst e1
    go_wp2
    go_ret
    exact ⟨rfl, rfl⟩
  · by_cases e2 : b = 0
    · obtain rfl : d = 1 := by rw [hd.out, if_neg e1, if_pos e2]
      subst e2
      go_wp2
      go_ret
      exact ⟨ret_bool (by simp), rfl⟩
    · obtain rfl : d = -1 := by rw [hd.out, if_neg e1, if_neg e2]
      go_wp2
      go_ret
      exact ⟨ret_bool (by simp [e1, e2]), rfl⟩
set_option maxHeartbeats 8000000 in
set_option maxRecDepth 100000 in
theorem implCross_ok (A : Option Addr) (n c : Nat) (xs : List Nat) (w : World) (hA : Fs w w.heap.size A n xs) (hn : n ≤ 256) :
    Calls Try.prog 27 #[.slice A n c] w (PIB (crN (fun k => ab .f32 (wd xs k)) (n - 1) : Nat) true w) := by
  have hfew : decide ((n : Int) ≤ 256) = true := decide_eq_true (by omega)
  have HS1 := Lib.hid (implSides_any A n c xs w hA hn)
  clear hA
  have ewin : winN n 2 1 = n - 1 := by unfold winN; rw [Nat.div_one]; split <;> omega
  go_enter Try.func27, Try.ntmps27
  go_wp2_with (first | (go_at_call 53; refine (implSamples_b _ _ _ _ _ hfew).mono ?_; rintro e w' ⟨rfl, rfl⟩) | fail)
  refine HS1.out.mono ?_
  rintro e w1 ⟨rfl, hv, hs⟩
  have HV := Lib.hid hv; have S1 := Lib.hid hs
  have hlt1 := hv.lt
  clear hv hs HS1
  have HW := Lib.hid (implWinsS_any (some ⟨w.heap.size, 0, none⟩) n n 2 1 w1 (fun _ => ⟨_, _, rfl, hlt1⟩) hn (Nat.le_refl _) (by omega) (by omega) (by omega) (by omega))
  rw [ewin] at HW
  go_wp2_with fail
  refine HW.out.mono ?_
  rintro e w2 ⟨v, rfl, hr, hs⟩
  obtain ⟨V, cV, rfl, hcV, hcells⟩ := hr.done
  have S2 := Lib.hid (S1.out.trans (since_mono hs S1.out.size))
  have HV2 : Hid (VCells 73 w2 w.heap.size n (sideV (fun k => ab .f32 (wd xs k)) n)) := Lib.hid (HV.out.of (hs.block _ hlt1))
  have HC := Lib.hid hcells
  clear hr hs hcells HW ewin HV
  go_wp2_with fail
  go_loopw [4, 6, 14] (fun m _ i wr => ∃ k q : Nat, k ≤ n - 1 ∧ i = .int .i64 (k : Nat) ∧ m = .int .i64 q ∧ Hid (q = crN (fun k => ab .f32 (wd xs k)) k) ∧ w2.Since w2.heap.size wr) (fun _ _ i _ => n - (intOf i).toNat)
  case atStart => exact ⟨0, 0, Nat.zero_le _, rfl, rfl, Lib.hid rfl, World.Since.refl _ _⟩
  case round =>
    obtain ⟨k, q, hk, rfl, rfl, hq, hsr⟩ := hrel
    have HSR := Lib.hid hsr; clear hsr
    have hqb : q ≤ k := by rw [hq.out]; exact crN_le _ _
    by_cases hlt : k < n - 1
    · obtain ⟨gV, cs, rfl, hgV, hb, hcj⟩ := HC.out (by omega)
      have hcell : wr.cell? ⟨gV, k, none⟩ = some (.slice (some ⟨w.heap.size, k, none⟩) 2 2) := by
        refine (HSR.out.cell (a := ⟨gV, k, none⟩) (Array.getElem?_eq_some_iff.1 hb).1).trans ?_
        simp only [World.cell?, hb]
        have := hcj k hlt
        unfold fwin at this
        simpa using this
      have hsz2 := HV2.out.lt
      have d1 : wr.cell? ⟨w.heap.size, k, none⟩ = some (.int .i64 (sideO (ab .f32 (wd xs k)) : Int)) := (HSR.out.cell (a := ⟨w.heap.size, _, none⟩) hsz2).trans <| (HV2.out.cell (by omega)).trans (by unfold sideV; rw [if_pos (by omega)])
      have d2 : wr.cell? ⟨w.heap.size, k + 1, none⟩ = some (.int .i64 (sideO (ab .f32 (wd xs (k + 1))) : Int)) := (HSR.out.cell (a := ⟨w.heap.size, _, none⟩) hsz2).trans <| (HV2.out.cell (by omega)).trans (by unfold sideV; rw [if_pos (by omega)])
      have eC : Hid (crN (fun k => ab .f32 (wd xs k)) (k + 1) = if crossB (ab .f32 (wd xs k)) (ab .f32 (wd xs (k + 1))) then crN (fun k => ab .f32 (wd xs k)) k + 1 else crN (fun k => ab .f32 (wd xs k)) k) := Lib.hid rfl
      rw [cross_side] at eC
      have l1 := side_le (ab .f32 (wd xs k)); have l2 := side_le (ab .f32 (wd xs (k + 1)))
      clear hb hcj
      generalize sideO (ab .f32 (wd xs k)) = a at *
      generalize sideO (ab .f32 (wd xs (k + 1))) = b at *
      have HN := Lib.hid (fun r hr q => (hasNone_any w.heap.size k a b r (wr.drewN q) d1 d2 l1 l2 hr).mono fun _ _ ⟨h1, h2⟩ => (⟨h1, h2.symm⟩ : _ ∧ _))
      by_cases e : a = b
      · subst e
        have EC : Hid (crN (fun k => ab .f32 (wd xs k)) (k + 1) = crN (fun k => ab .f32 (wd xs k)) k) := Lib.hid (by rw [eC.out]; simp)
        clear eC
        go_wp2_with fail
        go_quiet (first | (go_at_call 65; refine Calls.quiet_of_same (HN.out _ rfl _)))
        go_wp2
        go_roundw
        case rel => exact ⟨k + 1, q, by omega, by go_num, rfl, Lib.hid (by rw [EC.out]; exact hq.out), since_drewN HSR.out _⟩
        case measure => simp [intOf]; omega
      · have hbe : ((a : Int) == (b : Int)) = false := by simp; omega
        have hbn : ((a : Int) != (b : Int)) = true := by simp; omega
        have hbi : ¬ (a : Int) = (b : Int) := by omega
        cases er : (a == 0 || b == 0)
        · have EC : Hid (crN (fun k => ab .f32 (wd xs k)) (k + 1) = crN (fun k => ab .f32 (wd xs k)) k + 1) := Lib.hid (by rw [eC.out, er]; simp [e])
          have HR := Lib.hid (HN.out false er)
          clear eC HN er
          go_wp2_with fail
          go_quiet (first | (go_at_call 65; refine Calls.quiet_of_same (HR.out _)))
          go_wp2
          go_roundw
          case rel => exact ⟨k + 1, q + 1, by omega, by go_num, by go_num, Lib.hid (by rw [EC.out, ← hq.out]), since_drewN HSR.out _⟩
          case measure => simp [intOf]; omega
        · have EC : Hid (crN (fun k => ab .f32 (wd xs k)) (k + 1) = crN (fun k => ab .f32 (wd xs k)) k) := Lib.hid (by rw [eC.out, er]; simp)
          have HR := Lib.hid (HN.out true er)
          clear eC HN er
          go_wp2_with fail
          go_quiet (first | (go_at_call 65; refine Calls.quiet_of_same (HR.out _)))
          go_wp2
          go_roundw
          case rel => exact ⟨k + 1, q, by omega, by go_num, rfl, Lib.hid (by rw [EC.out]; exact hq.out), since_drewN HSR.out _⟩
          case measure => simp [intOf]; omega
    · obtain rfl : k = n - 1 := by omega
      go_wp2
      go_ret2
      exact ⟨by rw [hq.out]; rfl, S2.out.trans (since_mono HSR.out S2.out.size)⟩
end Go.Proofs.Ytcpcfgdncinpgaa

/- Meters: rows of lists of integers; runs that are too great. -/
set_option linter.unusedVariables false
set_option linter.unusedSimpArgs false
namespace Go.Proofs.Ytcpcfgdncinpgaa
open Fl Go.RowKit
theorem Try.infoIls : (Try.prog.info? 49).map (fun i => (i.zero, i.size, i.bytes)) = some (some (.slice none 0 0), 1, 24) := by kernel_rfl
/-- v is a row of lists of the loop's own: its block lies apart from what the lists lie in -/
def RwIs (lo : Nat) (w : World) (v : Value) (k : Nat) (e : Nat → IlsR) : Prop :=
  w.ownsRow lo 49 1 v k ((List.range k).map fun j => (e j).val) ∧ (∀ j, j < k → Ge lo w (e j).inn) ∧ (∀ i j, i < k → j < k → i ≠ j → De (e i).inn (e j).inn) ∧ ∀ b, v.ownBlock = some b → ∀ j, j < k → ¬ (e j).inn.S b
theorem RwIs.start (w : World) (lo : Nat) (h : lo ≤ w.heap.size) (e : Nat → IlsR) : RwIs lo (w.alloc (.cells #[] 49)) (.slice (some ⟨w.heap.size, 0, none⟩) 0 0) 0 e :=
  ⟨⟨rfl, .inr ⟨w.heap.size, 0, #[], rfl, h, Go.Deep.blk_alloc_new _ _, Nat.le_refl _, Nat.zero_le _, rfl, rfl⟩⟩, fun j hj => by omega, fun i j hi => by omega, fun b _ j hj => by omega⟩
theorem RwIs.since {lo : Nat} {w w' : World} {v : Value} {k : Nat} {e : Nat → IlsR} (h : RwIs lo w v k e) (s : w.Since w.heap.size w') : RwIs lo w' v k e := by
  obtain ⟨⟨h1, h2⟩, h3, h4⟩ := h
  refine ⟨⟨h1, ?_⟩, fun j hj => (h3 j hj).since s, h4⟩
  rcases h2 with h2 | ⟨g, cap, cur, e1, h3, h4, r⟩
  · exact .inl h2
  · exact .inr ⟨g, cap, cur, e1, h3, (s.block g (Array.getElem?_eq_some_iff.1 h4).1).trans h4, r⟩
theorem RwIs.own_lt {lo : Nat} {w : World} {v : Value} {k : Nat} {e : Nat → IlsR} (h : RwIs lo w v k e) {b : Nat} (hb : v.ownBlock = some b) : b < w.heap.size := by
  rcases h.1.2 with ⟨rfl, _⟩ | ⟨g, cap, cur, rfl, _, h4, _⟩
  · cases hb
  · have : g = b := by injection hb
    subst this
    exact (Array.getElem?_eq_some_iff.1 h4).1
theorem RwIs.done {lo : Nat} {w : World} {v : Value} {k : Nat} {e : Nat → IlsR} (h : RwIs lo w v k e) : ∃ (A : Option Addr) (c : Nat), v = .slice A k c ∧ Ge lo w (IlsR.ent A k e) := by
  obtain ⟨⟨h1, h2⟩, h3, h4, h5⟩ := h
  rcases h2 with ⟨rfl, rfl⟩ | ⟨g, cap, cur, rfl, hlo, hb, hc, hm, hz, ht⟩
  · exact ⟨none, 0, rfl, ne_ge (ce_ge trivial fun h => by omega) (fun k hk => by omega) ⟨fun k hk => by omega, fun j k hj => by omega⟩⟩
  · refine ⟨some ⟨g, 0, none⟩, cap, rfl, ne_ge (IlsR.entry ⟨cur, hb, fun j hj => ?_⟩ hlo) h3 ⟨fun j hj b ha hb2 => ?_, h4⟩⟩
    · rw [Nat.mul_one] at ht hz
      have h6 : cur.toList[j]? = (cur.toList.take k)[j]? := by rw [List.getElem?_take, if_pos hj]
      rw [← Array.getElem?_toList, h6, ht]
      simp [hj]
    · obtain ⟨_, o2, e2⟩ := ha
      injection e2 with e2; injection e2 with e2 _ _
      subst e2
      exact h5 _ rfl j hj hb2
theorem wpList_app1Is {ops : Array Oper} {rest : List Oper} {o : Oper} {a : Act} {Q : Exit → Act → World → Prop} {w : World} (hgd : o.guard = none) (s x : Operand)
    (ho : o.op = .call { callee := .builtin .append, args := #[s, x], argTypes := #[31, 31] }) (lo : Nat) (v : Value) (k : Nat) (e : Nat → IlsR) (hs : a.eval s = v) (b : Nat) (z : IlsR)
    (hx : a.eval x = .slice (some ⟨b, 0, none⟩) 1 1) (hc : w.cell? ⟨b, 0, none⟩ = some z.val) (hk : k < 1048576) (hlo : lo ≤ w.heap.size) (hR : RwIs lo w v k e) (hz : Ge lo w z.inn) (hza : ∀ j, j < k → De z.inn (e j).inn) (hzo : ∀ b, v.ownBlock = some b → ¬ z.inn.S b)
    (h : ∀ v' w', Hid (RwIs lo w' v' (k + 1) fun i => if i = k then z else e i) → Hid (w.Since lo w') → wpList Try.prog ops Q rest (a.put o.dst v') w') : wpList Try.prog ops Q (o :: rest) a w := by
  have HR := hR
  obtain ⟨h1, h3, h4, h5⟩ := hR
  obtain ⟨i0, hi, hz0, hz1, hz2⟩ := info_parts Try.infoIls
  refine wpList_append_own_at (P := Try.prog) (w := w) hgd s x 31 ho lo 49 i0 (.slice none 0 0) 1 24 Try.underlying31 hi hz0 hz1 hz2 rfl (by omega) v k _ hs h1 ⟨b, 0, none⟩ 1 1 [z.val] hx rfl ?_ ?_ ?_ ?_ hlo ?_
  · intro j u hj
    rcases j with _ | j
    · simp at hj; subst hj; simpa [Addr.add] using hc
    · simp at hj
  · intro u hu; simp at hu; subst hu; rfl
  · unfold maxLen; omega
  · omega
  · intro v' w' hown hg _ hob
    have hkeep : ∀ g, g < w.heap.size → v.ownBlock ≠ some g → w'.heap[g]? = w.heap[g]? := fun g hg1 hg2 => hg.block g hg1 fun e => hg2 e.symm
    have hset : ∀ i, (fun i => if i = k then z else e i) i = if i = k then z else e i := fun _ => rfl
    refine h v' w' (Lib.hid ⟨?_, fun j hj => ?_, fun i j hi hj hij => ?_, fun g hgo j hj => ?_⟩) (Lib.hid ⟨hg.os, hg.tape, hg.output, hg.size, fun i hi => ?_⟩)
    · rw [List.range_succ, List.map_append]
      have e1 : (List.range k).map (fun j => (if j = k then z else e j).val) = (List.range k).map fun j => (e j).val := List.map_congr_left fun j hj => by rw [if_neg (by have := List.mem_range.1 hj; omega)]
      rw [e1]
      simpa using hown
    · show Ge lo w' (if j = k then z else e j).inn
      by_cases e1 : j = k
      · rw [if_pos e1]
        exact hz.keep (fun g hg1 => hkeep g (hz.2.2 g hg1).2 fun e2 => hzo g e2 hg1) hg.size
      · rw [if_neg e1]
        exact (h3 j (by omega)).keep (fun g hg1 => hkeep g ((h3 j (by omega)).2.2 g hg1).2 fun e2 => h5 g e2 j (by omega) hg1) hg.size
    · show De (if i = k then z else e i).inn (if j = k then z else e j).inn
      by_cases e1 : i = k
      · rw [if_pos e1, if_neg (fun h => hij (e1.trans h.symm))]; exact hza j (by omega)
      · rw [if_neg e1]
        by_cases e2 : j = k
        · rw [if_pos e2]; exact (hza i (by omega)).symm
        · rw [if_neg e2]; exact h4 i j (by omega) (by omega) hij
    · show ¬ (if j = k then z else e j).inn.S g
      rcases hob with hob | hob
      · rw [hob] at hgo
        by_cases e1 : j = k
        · rw [if_pos e1]; exact hzo g hgo
        · rw [if_neg e1]; exact h5 g hgo j (by omega)
      · rw [hob] at hgo
        injection hgo with hgo
        by_cases e1 : j = k
        · rw [if_pos e1]; intro h6; have := (hz.2.2 g h6).2; omega
        · rw [if_neg e1]; intro h6; have := ((h3 j (by omega)).2.2 g h6).2; omega
    · refine hg.block i (by omega) fun e => ?_
      have := own_lo h1 i e.symm
      omega
end Go.Proofs.Ytcpcfgdncinpgaa

/- Meters: runs that are too great: the model. -/
set_option linter.unusedVariables false
set_option linter.unusedSimpArgs false
namespace Go.Proofs.Ytcpcfgdncinpgaa
open Fl Go.RowKit
def addR (least : Nat) (l : List (Nat × Nat)) (f len : Nat) : List (Nat × Nat) := if least ≤ len then l ++ [(f, len)] else l
/-- the place behind the last small sample, and the runs ahead of it -/
def scanR (P : Nat → Bool) (least : Nat) : Nat → Nat × List (Nat × Nat)
  | 0 => (0, [])
  | k + 1 => if P k then scanR P least k else (k + 1, addR least (scanR P least k).2 (scanR P least k).1 (k - (scanR P least k).1))
def runsR (P : Nat → Bool) (least n : Nat) : List (Nat × Nat) := addR least (scanR P least n).2 (scanR P least n).1 (n - (scanR P least n).1)
theorem addR_len (least : Nat) (l : List (Nat × Nat)) (f len : Nat) : (addR least l f len).length ≤ l.length + 1 := by unfold addR; split <;> simp
theorem scanR_le (P : Nat → Bool) (least : Nat) : ∀ k, (scanR P least k).1 ≤ k ∧ (scanR P least k).2.length ≤ k
  | 0 => ⟨Nat.le_refl _, Nat.le_refl _⟩
  | k + 1 => by
    have ih := scanR_le P least k
    unfold scanR
    split
    · omega
    · have := addR_len least (scanR P least k).2 (scanR P least k).1 (k - (scanR P least k).1)
      exact ⟨Nat.le_refl _, by dsimp only; omega⟩
theorem runsR_len (P : Nat → Bool) (least n : Nat) : (runsR P least n).length ≤ n + 1 := by
  have := scanR_le P least n
  have := addR_len least (scanR P least n).2 (scanR P least n).1 (n - (scanR P least n).1)
  unfold runsR; omega
theorem scanR_run {P : Nat → Bool} {least i : Nat} : ∀ {e : Nat}, i ≤ e → (∀ j, i ≤ j → j < e → P j = true) → scanR P least e = scanR P least i
  | 0, h, _ => by
    obtain rfl : i = 0 := by omega
    rfl
  | e + 1, h, hp => by
    by_cases h1 : i = e + 1
    · rw [h1]
    · rw [scanR, if_pos (hp e (by omega) (by omega))]
      exact scanR_run (by omega) fun j h2 h3 => hp j h2 (by omega)
/-- the run as a list in memory -/
def runI (r : Nat × Nat) : List Int := [(r.1 : Int), (r.2 : Int)]
def nthR (l : List (Nat × Nat)) (k : Nat) : Nat × Nat := l.getD k (0, 0)
/-- a row of runs -/
def RunsAt (lo : Nat) (w : World) (v : Value) (l : List (Nat × Nat)) : Prop := ∃ e : Nat → IlsR, RwIs lo w v l.length e ∧ ∀ k, k < l.length → (e k).sn = 2 ∧ (e k).sx = runI (nthR l k)
theorem RunsAt.start (w : World) (lo : Nat) (h : lo ≤ w.heap.size) : RunsAt lo (w.alloc (.cells #[] 49)) (.slice (some ⟨w.heap.size, 0, none⟩) 0 0) [] :=
  ⟨fun _ => IlsR.zero, RwIs.start w lo h _, fun k hk => by simp at hk⟩
theorem RunsAt.since {lo : Nat} {w w' : World} {v : Value} {l : List (Nat × Nat)} (h : RunsAt lo w v l) (s : w.Since w.heap.size w') : RunsAt lo w' v l := by
  obtain ⟨e, h1, h2⟩ := h
  exact ⟨e, h1.since s, h2⟩
theorem RunsAt.done {lo : Nat} {w : World} {v : Value} {l : List (Nat × Nat)} (h : RunsAt lo w v l) : ∃ (A : Option Addr) (c : Nat) (x : Nat → IlsR), v = .slice A l.length c ∧ Ge lo w (IlsR.ent A l.length x) ∧ IlsR.ares l.length x (fun _ => 2) (fun k => runI (nthR l k)) := by
  obtain ⟨e, h1, h2⟩ := h
  obtain ⟨A, c, hv, hg⟩ := h1.done
  exact ⟨A, c, e, hv, hg, h2⟩
/-- a run is appended -/
theorem wpList_appRun {ops : Array Oper} {rest : List Oper} {o : Oper} {a : Act} {Q : Exit → Act → World → Prop} {w : World} (hgd : o.guard = none) (s x : Operand)
    (ho : o.op = .call { callee := .builtin .append, args := #[s, x], argTypes := #[ 31 , 31 ] }) (lo : Nat) (v : Value) (l : List (Nat × Nat)) (hs : a.eval s = v) (w0 : World) (hR : RunsAt lo w0 v l) (f len : Nat)
    (hw : w = (w0.alloc (.cells #[.int .i64 (f : Int), .int .i64 (len : Int)] 2)).alloc (.cells #[.slice (some ⟨w0.heap.size, 0, none⟩) 2 2] 49))
    (hx : a.eval x = .slice (some ⟨w0.heap.size + 1, 0, none⟩) 1 1) (hk : l.length < 1048576) (hlo : lo ≤ w0.heap.size)
    (h : ∀ v' w', Hid (RunsAt lo w' v' (l ++ [(f, len)])) → Hid (w0.Since lo w') → wpList Try.prog ops Q rest (a.put o.dst v') w') : wpList Try.prog ops Q (o :: rest) a w := by
  obtain ⟨e, h1, h2⟩ := hR
  have s1 : w0.Since w0.heap.size (w0.alloc (.cells #[.int .i64 (f : Int), .int .i64 (len : Int)] 2)) := (World.Since.refl _ _).alloc (Nat.le_refl _) _
  have s2 : w0.Since w0.heap.size w := by rw [hw]; exact s1.alloc (by simp) _
  have z1 : (w0.alloc (.cells #[.int .i64 (f : Int), .int .i64 (len : Int)] 2)).heap.size = w0.heap.size + 1 := by simp
  have hb : w.heap[w0.heap.size]? = some (.cells #[.int .i64 (f : Int), .int .i64 (len : Int)] 2 (0, 0)) := by
    rw [hw]; exact (blk_keep _ (by omega)).trans (Go.Deep.blk_alloc_new _ _)
  have zw : w.heap.size = w0.heap.size + 2 := by rw [hw]; simp
  have hz : Ge w0.heap.size w (ie (some ⟨w0.heap.size, 0, none⟩) 2 [(f : Int), (len : Int)]) := ce_ge rfl fun _ => ⟨w0.heap.size, 0, _, rfl, Nat.le_refl _, hb, fun k hk => by
    obtain rfl | rfl : k = 0 ∨ k = 1 := by omega
    · rfl
    · rfl⟩
  refine wpList_app1Is hgd s x ho lo v l.length e hs (w0.heap.size + 1) ⟨some ⟨w0.heap.size, 0, none⟩, 2, 2, [(f : Int), (len : Int)]⟩ hx ?_ hk (Nat.le_trans hlo s2.size) (h1.since s2) (hz.less hlo) ?_ ?_ ?_
  · rw [hw]
    have : ((w0.alloc (.cells #[.int .i64 (f : Int), .int .i64 (len : Int)] 2)).alloc (.cells #[.slice (some ⟨w0.heap.size, 0, none⟩) 2 2] 49)).heap[w0.heap.size + 1]? = some (.cells #[.slice (some ⟨w0.heap.size, 0, none⟩) 2 2] 49 (0, 0)) := by
      rw [← z1]; exact Go.Deep.blk_alloc_new _ _
    simp only [World.cell?, this]; rfl
  · intro j hj g hg1 hg2
    have h5 := (hz.2.2 g hg1).1
    have h6 := ((h1.2.1 j hj).2.2 g hg2).2
    omega
  · intro b hb2 hg
    have h5 := (hz.2.2 b hg).1
    have h6 := h1.own_lt hb2
    omega
  · intro v' w' hR' hs'
    refine h v' w' (Lib.hid ⟨_, by rw [List.length_append]; exact hR'.out, fun k hk2 => ?_⟩) (Lib.hid ((since_mono s2 hlo).trans hs'.out))
    show (if k = l.length then _ else e k : IlsR).sn = 2 ∧ (if k = l.length then _ else e k : IlsR).sx = _
    by_cases e1 : k = l.length
    · subst e1
      rw [if_pos rfl]
      refine ⟨rfl, ?_⟩
      unfold nthR runI; simp [List.getD_eq_getElem?_getD]
    · have hk3 : k < l.length := by rw [List.length_append] at hk2; simp at hk2; omega
      rw [if_neg e1]
      refine ⟨(h2 k hk3).1, (h2 k hk3).2.trans ?_⟩
      unfold nthR; rw [List.getD_eq_getElem?_getD, List.getD_eq_getElem?_getD, List.getElem?_append_left hk3]
def bigP (X : Nat → O) (L : O) (k : Nat) : Bool := geO (sizeO (X k)) L
def okRuns (n : Nat) (least : Int) : Bool := decide (n ≤ 256) && inB least 1 256
def PKR (l : List (Nat × Nat)) (b : Bool) (w : World) (e : Ending) (w' : World) : Prop := PKB l.length (fun _ => 2) (fun k => runI (nthR l k)) b w e w'
set_option maxHeartbeats 8000000 in
set_option maxRecDepth 100000 in
theorem specRuns_ok (A : Option Addr) (n c : Nat) (xs : List Nat) (t : Nat) (T : O) (least : Nat) (w : World) (hA : Fs w w.heap.size A n xs) (hn : n ≤ 256) (ht : Hid (Fv .f32 t T)) (hl1 : 1 ≤ least) (hl2 : least ≤ 256) :
    Calls Try.prog 20 #[.slice A n c, .float .f32 t, .int .i64 least] w (PKR (runsR (bigP (fun k => ab .f32 (wd xs k)) T) least n) true w) := by
  have hfew : decide ((n : Int) ≤ 256) = true := decide_eq_true (by omega)
  have hin : inB least 1 256 = true := by unfold inB; simp; omega
  have HA := Lib.hid hA
  clear hA
  go_enter Try.func20, Try.ntmps20
  go_wp2_with (first | (go_at_call 50; refine (specFew_any _ _ _ _ _ hfew).mono ?_; rintro e w' ⟨rfl, rfl⟩) | (go_at_call 58; with_reducible refine (specHold_b least 1 256 true _ hin).mono ?_; rintro e w' ⟨rfl, rfl⟩))
  go_loopw [8, 9, 10] (fun v i _ wr => ∃ (k : Nat) (l : List (Nat × Nat)), k ≤ n + 1 ∧ i = .int .i64 k ∧ Hid ((k ≤ n ∧ scanR (bigP (fun k => ab .f32 (wd xs k)) T) least k = (k, l)) ∨ (k = n + 1 ∧ l = runsR (bigP (fun k => ab .f32 (wd xs k)) T) least n)) ∧ RunsAt w.heap.size wr v l ∧ w.Since w.heap.size wr) (fun _ i _ _ => n + 1 - (intOf i).toNat)
  case atStart => exact ⟨0, [], by omega, rfl, Lib.hid (.inl ⟨by omega, rfl⟩), RunsAt.start w _ (Nat.le_refl _), (World.Since.refl _ _).alloc (Nat.le_refl _) _⟩
  case round =>
    obtain ⟨k, l, hk, rfl, hsc, hr, hs⟩ := hrel
    have HR := Lib.hid hr; have HS := Lib.hid hs
    clear hr hs
    by_cases hlt : k < n
    · have hsk : Hid (scanR (bigP (fun k => ab .f32 (wd xs k)) T) least k = (k, l)) := Lib.hid (by rcases hsc.out with h | h; exact h.2; omega)
      clear hsc
      go_wp2
      go_loopw [9] (fun i wi => ∃ e : Nat, k ≤ e ∧ e ≤ n ∧ i = .int .i64 e ∧ (∀ j, k ≤ j → j < e → bigP (fun k => ab .f32 (wd xs k)) T j = true) ∧ wi = wr) (fun i _ => n - (intOf i).toNat)
      case atStart => exact ⟨k, Nat.le_refl _, by omega, rfl, fun j h1 h2 => by omega, rfl⟩
      case round =>
        obtain ⟨e, hke, hen, rfl, hall, rfl⟩ := hrel
        have HALL := Lib.hid hall; clear hall
        have hzw : w.heap.size ≤ wr.heap.size := HS.out.size
        by_cases he : e < n
        · obtain ⟨g, off, rfl, hg, hc⟩ := HA.out.2.2 (by omega)
          have hcell : wr.cell? ⟨g, off + e, none⟩ = some (.float .f32 (wd xs e)) := (HS.out.cell (a := ⟨g, off + e, none⟩) hg).trans (hc e he)
          have hx : Hid (Fv .f32 (wd xs e) (ab .f32 (wd xs e))) := Lib.hid ⟨HA.out.2.1.at_ e, rfl⟩
          have g1 := geO_fv (sizeS_fv hx) ht
          clear hc
          cases hp : geO (sizeO (ab .f32 (wd xs e))) T
          · rw [hp] at g1
            have HN : Hid ((e + 1 ≤ n ∧ scanR (bigP (fun k => ab .f32 (wd xs k)) T) least (e + 1) = (e + 1, addR least l k (e - k))) ∨ (e + 1 = n + 1 ∧ addR least l k (e - k) = runsR (bigP (fun k => ab .f32 (wd xs k)) T) least n)) := Lib.hid (.inl ⟨by omega, by
              rw [scanR, if_neg (by unfold bigP; rw [hp]; decide), scanR_run hke HALL.out, hsk.out]⟩)
            clear hp
            cases hle : decide ((least : Int) ≤ (e : Int) - k)
            · have hadd : addR least l k (e - k) = l := by unfold addR; rw [if_neg (by have := of_decide_eq_false hle; omega)]
              rw [hadd] at HN
              have hnle : ¬ (least : Int) ≤ (e : Int) - k := of_decide_eq_false hle
              clear hle hadd hsk
              go_wp2_with (first | (go_at_call 59; refine (specSize_any _ _ hx.out.1).mono ?_; rintro e1 w' ⟨rfl, rfl⟩))
              go_roundw
              case rel => exact ⟨e + 1, l, by omega, by go_num, HN, HR.out, HS.out⟩
              case measure => simp [intOf]; omega
            · have hadd : addR least l k (e - k) = l ++ [(k, e - k)] := by unfold addR; rw [if_pos (by have := of_decide_eq_true hle; omega)]
              rw [hadd] at HN
              have hyle : (least : Int) ≤ (e : Int) - k := of_decide_eq_true hle
              have hll : l.length ≤ k := by have := (scanR_le (bigP (fun k => ab .f32 (wd xs k)) T) least k).2; rw [hsk.out] at this; exact this
              have hsub : ((e - k : Nat) : Int) = (e : Int) - k := by omega
              have HSUB := Lib.hid hsub
              clear hle hadd hsk hsub
              go_wp2_with (first | (go_at_call 59; refine (specSize_any _ _ hx.out.1).mono ?_; rintro e1 w' ⟨rfl, rfl⟩) | (at_builtin; refine wpList_appRun rfl (.tmp 47) (.tmp 53) rfl w.heap.size _ l rfl wr HR.out k (e - k) (by rw [HSUB.out]) rfl (by omega) hzw ?_; intro v' w3 hR3 hS3))
              go_roundw
              case rel => exact ⟨e + 1, l ++ [(k, e - k)], by omega, by go_num, HN, hR3.out, HS.out.trans (since_mono hS3.out (Nat.le_refl _))⟩
              case measure => simp [intOf]; omega
          · rw [hp] at g1
            have HP : Hid (bigP (fun k => ab .f32 (wd xs k)) T e = true) := Lib.hid hp
            clear hp
            go_wp2_with (go_at_call 59; refine (specSize_any _ _ hx.out.1).mono ?_; rintro e1 w' ⟨rfl, rfl⟩)
            go_roundw
            case rel =>
              refine ⟨e + 1, by omega, by omega, by go_num, fun j h1 h2 => ?_, trivial⟩
              by_cases h3 : j = e
              · subst h3; exact HP.out
              · exact HALL.out j h1 (by omega)
            case measure => simp [intOf]; omega
        · obtain rfl : e = n := by omega
          have HN : Hid ((e + 1 ≤ e ∧ scanR (bigP (fun k => ab .f32 (wd xs k)) T) least (e + 1) = (e + 1, addR least l k (e - k))) ∨ (e + 1 = e + 1 ∧ addR least l k (e - k) = runsR (bigP (fun k => ab .f32 (wd xs k)) T) least e)) := Lib.hid (.inr ⟨rfl, by
            unfold runsR; rw [scanR_run hke HALL.out, hsk.out]⟩)
          cases hle : decide ((least : Int) ≤ (e : Int) - k)
          · have hadd : addR least l k (e - k) = l := by unfold addR; rw [if_neg (by have := of_decide_eq_false hle; omega)]
            rw [hadd] at HN
            have hnle : ¬ (least : Int) ≤ (e : Int) - k := of_decide_eq_false hle
            clear hle hadd hsk
            go_wp2_with (first | fail)
            go_roundw
            case rel => exact ⟨e + 1, l, by omega, by go_num, HN, HR.out, HS.out⟩
            case measure => simp [intOf]; omega
          · have hadd : addR least l k (e - k) = l ++ [(k, e - k)] := by unfold addR; rw [if_pos (by have := of_decide_eq_true hle; omega)]
            rw [hadd] at HN
            have hyle : (least : Int) ≤ (e : Int) - k := of_decide_eq_true hle
            have hll : l.length ≤ k := by have := (scanR_le (bigP (fun k => ab .f32 (wd xs k)) T) least k).2; rw [hsk.out] at this; exact this
            have hsub : ((e - k : Nat) : Int) = (e : Int) - k := by omega
            have HSUB := Lib.hid hsub
            clear hle hadd hsk hsub
            go_wp2_with (first | fail | (at_builtin; refine wpList_appRun rfl (.tmp 47) (.tmp 53) rfl w.heap.size _ l rfl wr HR.out k (e - k) (by rw [HSUB.out]) rfl (by omega) hzw ?_; intro v' w3 hR3 hS3))
            go_roundw
            case rel => exact ⟨e + 1, l ++ [(k, e - k)], by omega, by go_num, HN, hR3.out, HS.out.trans (since_mono hS3.out (Nat.le_refl _))⟩
            case measure => simp [intOf]; omega
    · have hl : Hid (l = runsR (bigP (fun k => ab .f32 (wd xs k)) T) least n) := Lib.hid (by
        rcases hsc.out with h | h
        · obtain rfl : k = n := by omega
          unfold runsR addR
          rw [h.2]
          dsimp only
          rw [Nat.sub_self, if_neg (by omega)]
        · exact h.2)
      obtain ⟨pA, cp, x, rfl, hg, ha⟩ := HR.out.done
      have HG := Lib.hid hg; have HAA := Lib.hid ha; clear hg ha
      have hge : ¬ (k : Int) < n := by omega
      go_wp2
      go_ret2
      rw [← hl.out]
      exact ⟨pA, cp, x, rfl, HG.out, HAA.out, HS.out⟩
end Go.Proofs.Ytcpcfgdncinpgaa

/- Meters: runs that are too great: the program. -/
set_option linter.unusedVariables false
set_option linter.unusedSimpArgs false
namespace Go.Proofs.Ytcpcfgdncinpgaa
open Fl Go.RowKit
theorem runClos_any (x t gb : Nat) (X T : O) (b : Bool) (W : World) (hx : Hid (Fv .f32 x X)) (ht : Hid (Fv .f32 t T)) (hc : W.cell? ⟨gb, 0, none⟩ = some (.float .f32 t)) (hb : geO (sizeO X) T = b) :
    Calls Try.prog 105 #[.float .f32 x, .pointer (some ⟨gb, 0, none⟩)] W fun e w' => e = .returned (.bool (!b)) ∧ ∃ m, w' = W.drewN m := by
  have hs := sizeN_fv hx
  have g1 := geO_fv hs ht
  rw [hb] at g1
  have hxl := hx.out.1
  have HS := Lib.hid (fun q => (implSize_any x (W.drewN q) hxl).mono fun _ _ ⟨h1, h2⟩ => (⟨h1, h2.symm⟩ : _ ∧ _))
  cases b
  all_goals
    go_enter Try.func105, Try.ntmps105
    go_wp2_with fail
    go_quiet (first | (go_at_call 95; refine Calls.quiet_of_same (HS.out _)))
    go_wp2
    go_ret
    exact ⟨rfl, _, rfl⟩
set_option maxHeartbeats 4000000 in
set_option maxRecDepth 100000 in
/-- the first place at which a closure says yes -/
theorem indexF2_any (A : Option Addr) (n c : Nat) (xs : List Nat) (F : FuncId) (caps : Array Value) (p : Nat → Bool) (w : World) (B : Nat) (h : Fs w B A n xs) (hn : n ≤ 1048576)
    (hent : ∀ args w, (callFunc F args).run Try.prog w = .ok (.enter F args) w)
    (hstep : ∀ k q, k < n → Calls Try.prog F (#[.float .f32 (wd xs k)] ++ caps) (w.drewN q) fun e w' => e = .returned (.bool (p k)) ∧ ∃ m, w' = w.drewN m) :
    Calls Try.prog 104 #[.slice A n c, .func (.func F) #[] caps] w fun e w' => ((e = .returned (.int .i64 (-1)) ∧ ∀ j, j < n → p j = false) ∨ ∃ k : Nat, k < n ∧ e = .returned (.int .i64 k) ∧ p k = true ∧ ∀ j, j < k → p j = false) ∧ ∃ m, w' = w.drewN m := by
  have H := Lib.hid h; have HST := Lib.hid hstep
  clear h hstep
  go_enter Try.func104, Try.ntmps104
  go_wp2
  go_loopw [8] (fun i wr => ∃ k : Nat, k ≤ n ∧ i = .int .i64 k ∧ (∀ j, j < k → p j = false) ∧ ∃ m, wr = w.drewN m) (fun i _ => n - (intOf i).toNat)
  case atStart => exact ⟨0, Nat.zero_le _, rfl, fun j hj => by omega, 0, rfl⟩
  case round =>
    obtain ⟨k, hk, rfl, hz, q, rfl⟩ := hrel
    have HZ := Lib.hid hz; clear hz
    by_cases hlt : k < n
    · obtain ⟨g, off, rfl, hg, hc⟩ := H.out.2.2 (by omega)
      have hcell : w.cell? ⟨g, off + k, none⟩ = some (.float .f32 (wd xs k)) := hc k hlt
      clear hc
      have HSK := Lib.hid (HST.out k q hlt)
      cases hp : p k
      · rw [hp] at HSK
        have HP := Lib.hid hp; clear hp
        go_wp2_with fail
        refine HSK.out.mono ?_
        rintro e w' ⟨rfl, m, rfl⟩
        go_wp2
        go_roundw
        case rel =>
          refine ⟨k + 1, by omega, by go_num, fun j hj => ?_, m, rfl⟩
          by_cases e : j = k
          · subst e; exact HP.out
          · exact HZ.out j (by omega)
        case measure => simp [intOf]; omega
      · rw [hp] at HSK
        have HP := Lib.hid hp; clear hp
        go_wp2_with fail
        refine HSK.out.mono ?_
        rintro e w' ⟨rfl, m, rfl⟩
        go_wp2
        go_ret
        exact ⟨.inr ⟨k, hlt, rfl, HP.out, HZ.out⟩, m, rfl⟩
    · obtain rfl : k = n := by omega
      go_wp2
      go_ret
      exact ⟨.inl ⟨rfl, HZ.out⟩, q, rfl⟩
set_option maxHeartbeats 4000000 in
set_option maxRecDepth 100000 in
theorem lenRun_any (A : Option Addr) (n c : Nat) (xs : List Nat) (t : Nat) (T : O) (w : World) (hA : Fs w w.heap.size A n xs) (hn : n ≤ 256) (ht : Hid (Fv .f32 t T)) :
    Calls Try.prog 61 #[.slice A n c, .float .f32 t] w fun e w' => ∃ r : Nat, e = .returned (.int .i64 (r : Int)) ∧ r ≤ n ∧ (∀ j, j < r → geO (sizeO (ab .f32 (wd xs j))) T = true) ∧ (r < n → geO (sizeO (ab .f32 (wd xs r))) T = false) ∧ w.Since w.heap.size w' := by
  obtain ⟨W1, hW1⟩ : ∃ W, W = w.alloc (.cells #[.float .f32 t] 23) := ⟨_, rfl⟩
  have S1 : Hid (w.Since w.heap.size W1) := Lib.hid (by rw [hW1]; exact (World.Since.refl _ _).alloc (Nat.le_refl _) _)
  have C1 : W1.cell? ⟨w.heap.size, 0, none⟩ = some (.float .f32 t) := by rw [hW1]; simp [go_sem]
  have HI := Lib.hid (indexF2_any A n c xs 105 #[.pointer (some ⟨w.heap.size, 0, none⟩)] (fun k => !geO (sizeO (ab .f32 (wd xs k))) T) W1 _ (hA.since S1.out) (by omega) (fun _ _ => rfl) (fun k q hk => (runClos_any _ t w.heap.size _ T _ (W1.drewN q) (Lib.hid ⟨hA.2.1.at_ k, rfl⟩) ht C1 rfl).mono fun e w' ⟨h1, m, h2⟩ => ⟨h1, q + m, by rw [h2]; simp [World.drewN, Nat.add_assoc]⟩))
  clear hA C1
  go_enter Try.func61, Try.ntmps61
  go_wp2_with fail
  rw [← hW1]
  clear hW1
  refine HI.out.mono ?_
  rintro e w' ⟨h, m, rfl⟩
  clear HI
  rcases h with ⟨rfl, hall⟩ | ⟨k, hk, rfl, hdel, hfirst⟩
  · have HALL := Lib.hid hall; clear hall
    go_wp2
    go_ret
    exact ⟨n, rfl, Nat.le_refl _, fun j hj => by have := HALL.out j hj; simpa using this, fun h => by omega, since_drewN S1.out _⟩
  · have HD := Lib.hid hdel; have HF := Lib.hid hfirst; clear hdel hfirst
    go_wp2
    go_ret
    exact ⟨k, rfl, by omega, fun j hj => by have := HF.out j hj; simpa using this, fun _ => by have := HD.out; simpa using this, since_drewN S1.out _⟩
theorem implRuns_no (A : Option Addr) (n c t : Nat) (least : Int) (w : World) (h : okRuns n least = false) : Calls Try.prog 21 #[.slice A n c, .float .f32 t, .int .i64 least] w (PKR [] false w) := by
  unfold okRuns at h
  cases h0 : decide (n ≤ 256)
  · have hfew : decide ((n : Int) ≤ 256) = false := decide_eq_false (by have := of_decide_eq_false h0; omega)
    go_enter Try.func21, Try.ntmps21
    go_wp2_with (first | (go_at_call 53; refine (implSamples_b _ _ _ _ _ hfew).mono ?_; rintro e w' ⟨rfl, rfl⟩))
    go_ret2
    exact PKB.none_ (World.Since.refl _ _) _ _
  · have hfew : decide ((n : Int) ≤ 256) = true := decide_eq_true (by have := of_decide_eq_true h0; omega)
    have h1 : inB least 1 256 = false := by rw [h0] at h; simpa using h
    go_enter Try.func21, Try.ntmps21
    go_wp2_with (first | (go_at_call 53; refine (implSamples_b _ _ _ _ _ hfew).mono ?_; rintro e w' ⟨rfl, rfl⟩) | (go_at_call 60; refine (implPart_b _ _ _ h1).mono ?_; rintro e w1 ⟨rfl, hs⟩))
    go_ret2
    exact PKB.none_ hs _ _
theorem specRuns_no (A : Option Addr) (n c t : Nat) (least : Int) (w : World) (h : okRuns n least = false) : Calls Try.prog 20 #[.slice A n c, .float .f32 t, .int .i64 least] w (PKR [] false w) := by
  unfold okRuns at h
  cases h0 : decide (n ≤ 256)
  · have hfew : decide ((n : Int) ≤ 256) = false := decide_eq_false (by have := of_decide_eq_false h0; omega)
    go_enter Try.func20, Try.ntmps20
    go_wp2_with (first | (go_at_call 50; refine (specFew_any _ _ _ _ _ hfew).mono ?_; rintro e w' ⟨rfl, rfl⟩))
    go_ret2
    exact PKB.none_ (World.Since.refl _ _) _ _
  · have hfew : decide ((n : Int) ≤ 256) = true := decide_eq_true (by have := of_decide_eq_true h0; omega)
    have h1 : inB least 1 256 = false := by rw [h0] at h; simpa using h
    go_enter Try.func20, Try.ntmps20
    go_wp2_with (first | (go_at_call 50; refine (specFew_any _ _ _ _ _ hfew).mono ?_; rintro e w' ⟨rfl, rfl⟩) | (go_at_call 58; with_reducible refine (specHold_b least 1 256 false _ h1).mono ?_; rintro e w' ⟨rfl, rfl⟩))
    go_ret2
    exact PKB.none_ (World.Since.refl _ _) _ _
theorem Fs.tailA {w : World} {B N k : Nat} {g off : Nat} {xs : List Nat} (h : Fs w B (some ⟨g, off, none⟩) N xs) (hk : k ≤ N) : Fs w B (some ⟨g, off + k, none⟩) (N - k) (xs.drop k) := by
  have := Fs.part h (k := k) (t := N - k) (by omega)
  rwa [List.take_of_length_le (by rw [List.length_drop, h.1]; omega)] at this
set_option maxHeartbeats 8000000 in
set_option maxRecDepth 100000 in
theorem implRuns_ok (A : Option Addr) (n c : Nat) (xs : List Nat) (t : Nat) (T : O) (least : Nat) (w : World) (hA : Fs w w.heap.size A n xs) (hnc : n ≤ c) (hn : n ≤ 256) (ht : Hid (Fv .f32 t T)) (hl1 : 1 ≤ least) (hl2 : least ≤ 256) :
    Calls Try.prog 21 #[.slice A n c, .float .f32 t, .int .i64 least] w (PKR (runsR (bigP (fun k => ab .f32 (wd xs k)) T) least n) true w) := by
  have hfew : decide ((n : Int) ≤ 256) = true := decide_eq_true (by omega)
  have hin : inB least 1 256 = true := by unfold inB; simp; omega
  have HA := Lib.hid hA
  clear hA
  go_enter Try.func21, Try.ntmps21
  go_wp2_with (first | (go_at_call 53; refine (implSamples_b _ _ _ _ _ hfew).mono ?_; rintro e w' ⟨rfl, rfl⟩) | (go_at_call 60; refine (implPart_b _ _ _ hin).mono ?_; rintro e w1 ⟨rfl, hs1⟩; have HS1 := Lib.hid hs1; clear hs1))
  have hz1 := HS1.out.size
  go_loopw [8, 9, 10] (fun v i _ wr => ∃ (k : Nat) (l : List (Nat × Nat)), k ≤ n + 1 ∧ i = .int .i64 k ∧ Hid ((k ≤ n ∧ scanR (bigP (fun k => ab .f32 (wd xs k)) T) least k = (k, l)) ∨ (k = n + 1 ∧ l = runsR (bigP (fun k => ab .f32 (wd xs k)) T) least n)) ∧ RunsAt w.heap.size wr v l ∧ w.Since w.heap.size wr) (fun _ i _ _ => n + 1 - (intOf i).toNat)
  case atStart => exact ⟨0, [], by omega, rfl, Lib.hid (.inl ⟨by omega, rfl⟩), RunsAt.start _ _ hz1, HS1.out.alloc hz1 _⟩
  case round =>
    obtain ⟨k, l, hk, rfl, hsc, hr, hs⟩ := hrel
    have HR := Lib.hid hr; have HS := Lib.hid hs
    clear hr hs
    by_cases hlt : k < n
    · have hsk : Hid (scanR (bigP (fun k => ab .f32 (wd xs k)) T) least k = (k, l)) := Lib.hid (by rcases hsc.out with h | h; exact h.2; omega)
      clear hsc
      obtain ⟨g, off, rfl, hg, hc⟩ := HA.out.2.2 (by omega)
      clear hc
      have HL := Lib.hid (lenRun_any (some ⟨g, off + k, none⟩) (n - k) (c - k) (xs.drop k) t T wr (Fs.tailA (HA.out.now HS.out) (by omega)) (by omega) ht)
      have hkc : (k : Int) ≤ c := by omega
      go_wp2_with fail
      refine HL.out.mono ?_
      rintro e w' ⟨r, rfl, hrn, hall, hend, hs⟩
      have HS2 := Lib.hid hs
      have HR2 := Lib.hid (HR.out.since hs)
      have HS3 := Lib.hid (HS.out.trans (since_mono hs HS.out.size))
      have hzw : w.heap.size ≤ w'.heap.size := HS3.out.size
      have HALL : Hid (∀ j, k ≤ j → j < k + r → bigP (fun k => ab .f32 (wd xs k)) T j = true) := Lib.hid fun j h1 h2 => by
        have := hall (j - k) (by omega)
        rw [wd_drop, show k + (j - k) = j by omega] at this; exact this
      have HN : Hid ((k + r + 1 ≤ n ∧ scanR (bigP (fun k => ab .f32 (wd xs k)) T) least (k + r + 1) = (k + r + 1, addR least l k r)) ∨ (k + r + 1 = n + 1 ∧ addR least l k r = runsR (bigP (fun k => ab .f32 (wd xs k)) T) least n)) := Lib.hid (by
        by_cases he : k + r < n
        · refine .inl ⟨by omega, ?_⟩
          have h3 := hend (by omega)
          rw [wd_drop] at h3
          rw [scanR, if_neg (by unfold bigP; rw [h3]; decide), scanR_run (by omega) HALL.out, hsk.out, show k + r - k = r by omega]
        · have he2 : n = k + r := by omega
          refine .inr ⟨by omega, ?_⟩
          unfold runsR; rw [he2, scanR_run (by omega) HALL.out, hsk.out, show k + r - k = r by omega])
      clear hall hend hs HL HALL
      cases hle : decide ((least : Int) ≤ (r : Int))
      · have hadd : addR least l k r = l := by unfold addR; rw [if_neg (by have := of_decide_eq_false hle; omega)]
        rw [hadd] at HN
        have hnle : ¬ (least : Int) ≤ (r : Int) := of_decide_eq_false hle
        clear hle hadd hsk
        go_wp2
        go_roundw
        case rel => exact ⟨k + r + 1, l, by omega, by go_num, HN, HR2.out, HS3.out⟩
        case measure => simp [intOf]; omega
      · have hadd : addR least l k r = l ++ [(k, r)] := by unfold addR; rw [if_pos (by have := of_decide_eq_true hle; omega)]
        rw [hadd] at HN
        have hyle : (least : Int) ≤ (r : Int) := of_decide_eq_true hle
        have hll : l.length ≤ k := by have := (scanR_le (bigP (fun k => ab .f32 (wd xs k)) T) least k).2; rw [hsk.out] at this; exact this
        clear hle hadd hsk
        go_wp2_with (first | fail | (at_builtin; refine wpList_appRun rfl (.tmp 34) (.tmp 38) rfl w.heap.size _ l rfl w' HR2.out k r rfl rfl (by omega) hzw ?_; intro v' w3 hR3 hS3))
        go_roundw
        case rel => exact ⟨k + r + 1, l ++ [(k, r)], by omega, by go_num, HN, hR3.out, HS3.out.trans (since_mono hS3.out (Nat.le_refl _))⟩
        case measure => simp [intOf]; omega
    · have hl : Hid (l = runsR (bigP (fun k => ab .f32 (wd xs k)) T) least n) := Lib.hid (by
        rcases hsc.out with h | h
        · obtain rfl : k = n := by omega
          unfold runsR addR
          rw [h.2]
          dsimp only
          rw [Nat.sub_self, if_neg (by omega)]
        · exact h.2)
      obtain ⟨pA, cp, x, rfl, hg, ha⟩ := HR.out.done
      have HG := Lib.hid hg; have HAA := Lib.hid ha; clear hg ha
      have hge : ¬ (k : Int) < n := by omega
      go_wp2
      go_ret2
      rw [← hl.out]
      exact ⟨pA, cp, x, rfl, HG.out, HAA.out, HS.out⟩
end Go.Proofs.Ytcpcfgdncinpgaa

/- Walks of laws whose arguments or results are lists. -/
set_option linter.unusedVariables false
set_option linter.unusedSimpArgs false
namespace Go.Proofs.Ytcpcfgdncinpgaa
open Fl Go.RowKit
set_option maxHeartbeats 16000000 in
set_option maxRecDepth 100000 in
theorem lawClippedRuns_gen (A0 : Option Addr) (n0 c0 : Nat) (x0 : List Nat) (a1 : Nat) (a2 : Int) (rn0 : Nat) (rl0 : Nat → Nat) (rg0 : Nat → List Int) (rb1 : Bool) (w : World)
    (h0 : Fs w w.heap.size A0 n0 x0) (hn0 : n0 ≤ 1048576) (hr0 : rn0 ≤ 1048576) (hrl0 : ∀ k, k < rn0 → rl0 k ≤ 1048576) (hrt0 : sumI rl0 rn0 ≤ 1048576)
    (hsp : ∀ (v : World) (b0 : Nat), Fs v v.heap.size (some ⟨b0, 0, none⟩) n0 x0 → Calls Try.prog 20 #[.slice (some ⟨b0, 0, none⟩) n0 n0, .float .f32 a1, .int .i64 a2] v (PKB rn0 rl0 rg0 rb1 v))
    (him : ∀ (v : World) (b0 : Nat), Fs v v.heap.size (some ⟨b0, 0, none⟩) n0 x0 → Calls Try.prog 21 #[.slice (some ⟨b0, 0, none⟩) n0 n0, .float .f32 a1, .int .i64 a2] v (PKB rn0 rl0 rg0 rb1 v)) :
    Calls Try.prog 4 #[.slice A0 n0 c0, .float .f32 a1, .int .i64 a2] w fun e w' => e = .returned (.bool true) ∧ w.Since w.heap.size w' := by
  have S0 : Hid (w.Since w.heap.size w) := Lib.hid (World.Since.refl _ _)
  have F0 : Hid (Fs w w.heap.size A0 n0 x0) := Lib.hid (h0.now S0.out); clear h0
  have hd0 : decide ((1048576 : Int) < n0) = false := decide_eq_false (by omega)
  have HSP := Lib.hid hsp; have HIM := Lib.hid him; clear hsp him
  go_enter Try.func4, Try.ntmps4
  go_wp2_with fail
  have S : Hid (w.Since w.heap.size w) := Lib.hid (World.Since.refl _ _)
  have LV : Hid (He w.heap.size w []) := Lib.hid trivial
  go_at_call 16
  refine (toFE_any A0 n0 c0 x0 w _ F0.out S.out hn0).mono ?_
  rintro e v1 ⟨rfl, hg, hs⟩
  have LV' := Lib.hid (LV.out.new hs hg S.out.size); clear LV; have LV := LV'; clear LV'
  have S' := Lib.hid (since_step S.out hs); clear S; have S := S'; clear S'
  clear hs hg
  go_wp2_with fail
  go_at_call 20
  refine (HSP.out _ _ ((LV.out.1.1).readF)).mono ?_
  rintro e v2 ⟨A_w0, c_w0, x_w0, rfl, hg, hf, hs⟩
  have LV' := Lib.hid ((LV.out.2).new hs hg S.out.size); clear LV; have LV := LV'; clear LV'
  have S' := Lib.hid (since_step S.out hs); clear S; have S := S'; clear S'
  have Kw0 := Lib.hid hf; clear hf hg hs
  have Tw0 : IlsR.tot x_w0 rn0 = sumI rl0 rn0 := IlsR.tot_ares Kw0.out
  have Tw0 := Lib.hid Tw0
  go_wp2_with fail
  go_at_call 16
  refine (toFE_any A0 n0 c0 x0 w _ F0.out S.out hn0).mono ?_
  rintro e v3 ⟨rfl, hg, hs⟩
  have LV' := Lib.hid (LV.out.new hs hg S.out.size); clear LV; have LV := LV'; clear LV'
  have S' := Lib.hid (since_step S.out hs); clear S; have S := S'; clear S'
  clear hs hg
  go_wp2_with fail
  go_at_call 21
  refine (HIM.out _ _ ((LV.out.1.1).readF)).mono ?_
  rintro e v4 ⟨A_g0, c_g0, x_g0, rfl, hg, hf, hs⟩
  have LV' := Lib.hid ((LV.out).new hs hg S.out.size); clear LV; have LV := LV'; clear LV'
  have S' := Lib.hid (since_step S.out hs); clear S; have S := S'; clear S'
  have Kg0 := Lib.hid hf; clear hf hg hs
  have Tg0 : IlsR.tot x_g0 rn0 = sumI rl0 rn0 := IlsR.tot_ares Kg0.out
  have Tg0 := Lib.hid Tg0
  go_wp2_with fail
  go_at_call 22
  refine (eqIls_any A_g0 A_w0 rn0 c_g0 c_w0 x_g0 x_w0 rl0 rg0 _ (IlsR.read (LV.out.1.1)) (IlsR.read (LV.out.2.2.1.1)) hr0 hrl0 Kg0.out Kw0.out).mono ?_
  rintro e v5 ⟨rfl, hs⟩
  have S' := Lib.hid (since_step S.out hs); clear S; have S := S'; clear S'
  have LV' := Lib.hid (LV.out.since hs); clear LV; have LV := LV'; clear LV'
  clear hs
  go_wp2_with fail
  go_at_call 16
  refine (toFE_any A0 n0 c0 x0 w _ F0.out S.out hn0).mono ?_
  rintro e v6 ⟨rfl, hg, hs⟩
  have LV' := Lib.hid (LV.out.new hs hg S.out.size); clear LV; have LV := LV'; clear LV'
  have S' := Lib.hid (since_step S.out hs); clear S; have S := S'; clear S'
  clear hs hg
  go_wp2_with fail
  go_at_call 19
  refine (eqL_any ⟨some ⟨v2.heap.size, 0, none⟩, n0, x0⟩ ⟨some ⟨v5.heap.size, 0, none⟩, n0, x0⟩ _ _ _ _ (LV.out.2.2.1.1).readF (LV.out.1.1).readF (by omega) rfl (fun _ _ => rfl) (fun _ _ => rfl)).mono ?_
  rintro e v7 ⟨rfl, hs⟩
  have S' := Lib.hid (since_step S.out hs); clear S; have S := S'; clear S'
  have LV' := Lib.hid (LV.out.since hs); clear LV; have LV := LV'; clear LV'
  clear hs
  have LV' := Lib.hid LV.out.2; clear LV; have LV := LV'; clear LV'
  go_wp2_with fail
  go_at_call 23
  refine (markFE_any (some ⟨v2.heap.size, 0, none⟩) n0 x0 _ (1) _ _ _ _ (He.front [_] LV.out) (hn0) (by omega) (by first | rfl | omega | (push_cast; omega))).mono ?_
  rintro e v8 ⟨rfl, hlv, hs⟩
  have LV' := Lib.hid hlv; clear LV hlv; have LV := LV'; clear LV'
  have S' := Lib.hid (since_mark S.out hs); clear S hs; have S := S'; clear S'
  go_wp2_with fail
  go_at_call 22
  refine (eqIls_any A_g0 A_w0 rn0 c_g0 c_w0 x_g0 x_w0 rl0 rg0 _ (IlsR.read (LV.out.2.1.1)) (IlsR.read (LV.out.2.2.1.1)) hr0 hrl0 Kg0.out Kw0.out).mono ?_
  rintro e v9 ⟨rfl, hs⟩
  have S' := Lib.hid (since_step S.out hs); clear S; have S := S'; clear S'
  have LV' := Lib.hid (LV.out.since hs); clear LV; have LV := LV'; clear LV'
  clear hs
  go_wp2_with fail
  go_at_call 24
  refine (markIls_any A_g0 rn0 x_g0 _ (1) _ _ _ _ (He.front [_] LV.out) S.out.size hr0 (fun k hk => by rw [(Kg0.out k hk).1]; exact hrl0 k hk) (by rw [Tg0.out]; exact hrt0) (by omega) (by first | rfl | omega | (push_cast; omega))).mono ?_
  rw [Tg0.out]
  rintro e v10 ⟨rfl, hlv, hs⟩
  have LV' := Lib.hid hlv; clear LV hlv; have LV := LV'; clear LV'
  have S' := Lib.hid (since_mark S.out hs); clear S hs; have S := S'; clear S'
  go_wp2_with fail
  go_at_call 25
  refine (heldIls_any A_g0 rn0 x_g0 _ (1) _ _ _ (LV.out.1.1) hr0 (fun k hk => by rw [(Kg0.out k hk).1]; exact hrl0 k hk) (by rw [Tg0.out]; exact hrt0) (by omega) (by first | rfl | omega | (push_cast; omega))).mono ?_
  rw [Tg0.out]
  rintro e v ⟨rfl, rfl⟩
  go_wp2_with fail
  go_at_call 16
  refine (toFE_any A0 n0 c0 x0 w _ F0.out S.out hn0).mono ?_
  rintro e v11 ⟨rfl, hg, hs⟩
  have LV' := Lib.hid (LV.out.new hs hg S.out.size); clear LV; have LV := LV'; clear LV'
  have S' := Lib.hid (since_step S.out hs); clear S; have S := S'; clear S'
  clear hs hg
  go_wp2_with fail
  go_at_call 21
  refine (HIM.out _ _ ((LV.out.1.1).readF)).mono ?_
  rintro e v12 ⟨A_h0, c_h0, x_h0, rfl, hg, hf, hs⟩
  have LV' := Lib.hid ((LV.out.2).new hs hg S.out.size); clear LV; have LV := LV'; clear LV'
  have S' := Lib.hid (since_step S.out hs); clear S; have S := S'; clear S'
  have Kh0 := Lib.hid hf; clear hf hg hs
  have Th0 : IlsR.tot x_h0 rn0 = sumI rl0 rn0 := IlsR.tot_ares Kh0.out
  have Th0 := Lib.hid Th0
  go_wp2_with fail
  go_at_call 22
  refine (eqIls_any A_h0 A_w0 rn0 c_h0 c_w0 x_h0 x_w0 rl0 rg0 _ (IlsR.read (LV.out.1.1)) (IlsR.read (LV.out.2.2.2.1.1)) hr0 hrl0 Kh0.out Kw0.out).mono ?_
  rintro e v13 ⟨rfl, hs⟩
  have S' := Lib.hid (since_step S.out hs); clear S; have S := S'; clear S'
  have LV' := Lib.hid (LV.out.since hs); clear LV; have LV := LV'; clear LV'
  clear hs
  go_wp2_with fail
  go_at_call 25
  refine (heldIls_any A_g0 rn0 x_g0 _ (1) _ _ _ (LV.out.2.1.1) hr0 (fun k hk => by rw [(Kg0.out k hk).1]; exact hrl0 k hk) (by rw [Tg0.out]; exact hrt0) (by omega) (by first | rfl | omega | (push_cast; omega))).mono ?_
  rw [Tg0.out]
  rintro e v ⟨rfl, rfl⟩
  go_wp2_with fail
  go_ret
  exact ⟨rfl, S.out⟩
set_option maxHeartbeats 2000000 in
set_option maxRecDepth 100000 in
theorem lawClippedRuns_big (A0 : Option Addr) (n0 c0 : Nat) (a1 : Nat) (a2 : Int) (w : World) (h : 1048576 < n0)
    
    : Calls Try.prog 4 #[.slice A0 n0 c0, .float .f32 a1, .int .i64 a2] w fun e w' => e = .returned (.bool true) ∧ w.Since w.heap.size w' := by
  by_cases b0 : 1048576 < n0
  · have hd0 : decide ((1048576 : Int) < n0) = true := decide_eq_true (by omega)
    go_enter Try.func4, Try.ntmps4
    go_wp2
    go_ret
    exact ⟨rfl, by (repeat (first | (with_reducible refine Fl.sinDrew ?_) | (with_reducible refine World.Since.drew ?_) | (with_reducible refine Fl.sinSet ?_ ?_; rotate_left) | (with_reducible refine Fl.sinAlloc ?_ ?_; rotate_left) | with_reducible exact World.Since.refl _ _ | with_reducible assumption | (with_reducible refine Fl.sinStep (by with_reducible assumption) ?_))); all_goals (first | omega | (simp; done) | (simp; omega) | (simp [go_sem]; done) | (simp [go_sem]; omega))⟩
  · have hd0 : decide ((1048576 : Int) < n0) = false := decide_eq_false (by omega)
    omega
end Go.Proofs.Ytcpcfgdncinpgaa

/- The law of ClippedRuns. -/
set_option linter.unusedVariables false
set_option linter.unusedSimpArgs false
namespace Go.Proofs.Ytcpcfgdncinpgaa
open Fl Go.RowKit
theorem sumI_two : ∀ n, sumI (fun _ => 2) n = 2 * n
  | 0 => rfl
  | n + 1 => by show sumI (fun _ => 2) n + 2 = _; rw [sumI_two n]; omega
theorem lawClippedRuns_any (A0 : Option Addr) (n0 c0 : Nat) (x0 : List Nat) (t : Nat) (least : Int) (w : World) (h0 : Fs w w.heap.size A0 n0 x0) (m0 : n0 ≤ 9223372036854775807) (ht : Fv .f32 t (ab .f32 t)) (w1 : (Lit.int .i64 least).wf = true) :
    Calls Try.prog 4 #[.slice A0 n0 c0, .float .f32 t, .int .i64 least] w fun e w' => e = .returned (.bool true) ∧ w.Since w.heap.size w' := by
  by_cases b1 : 1048576 < n0
  · exact lawClippedRuns_big A0 n0 c0 t least w b1
  cases h : okRuns n0 least
  · exact lawClippedRuns_gen A0 n0 c0 x0 t least 0 (fun _ => 2) (fun k => runI (nthR [] k)) false w h0 (by omega) (by omega) (fun k hk => by omega) (by rw [sumI_two]; omega) (fun v b g => specRuns_no _ n0 _ t least v h) (fun v b g => implRuns_no _ n0 _ t least v h)
  · have h2 := h
    unfold okRuns inB at h2
    simp only [Bool.and_eq_true, decide_eq_true_eq] at h2
    obtain ⟨l, rfl⟩ : ∃ l : Nat, least = l := ⟨least.toNat, by omega⟩
    have hr := runsR_len (bigP (fun k => ab .f32 (wd x0 k)) (ab .f32 t)) l n0
    exact lawClippedRuns_gen A0 n0 c0 x0 t l _ (fun _ => 2) (fun k => runI (nthR _ k)) true w h0 (by omega) (by omega) (fun k hk => by omega) (by rw [sumI_two]; omega) (fun v b g => specRuns_ok _ n0 _ x0 t _ l v g h2.1 (Lib.hid ht) (by omega) (by omega)) (fun v b g => implRuns_ok _ n0 _ x0 t _ l v g (Nat.le_refl _) h2.1 (Lib.hid ht) (by omega) (by omega))
end Go.Proofs.Ytcpcfgdncinpgaa

