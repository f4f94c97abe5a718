/- Joined: Ea Rg Dl Dm Rz Ec Ed Di Dr Ds Ee Ef Eg Ft Jo Il Lx Eh En Eo Ep Ly Ja Jb Jh Jp Jq Jr Js Ua Fs S5 S6 La Hc Hd He Hf Hg Jk Hh S7 -/
import Derived.Test.YtecgipilamefmaaLq
import Derived.Test.YtecgipilamefmaaSc
import Derived.Test.YtecgipilamefmaaGa
import Derived.Test.YtecgipilamefmaaFk
import Derived.Test.YtecgipilamefmaaSm
import Derived.Test.YtecgipilamefmaaDa
import Derived.Test.YtecgipilamefmaaSh
import Derived.Test.YtecgipilamefmaaLv
import Derived.StillTailTactics
import Derived.Deep.QuietTactic
import Derived.BigQuiet
import Derived.IntWalk
import Derived.Laws.CopyOwn
import Derived.Test.YtecgipilamefmaaFw
import Derived.Test.YtecgipilamefmaaFi
import Derived.Test.YtecgipilamefmaaSg
import Derived.Test.YtecgipilamefmaaL1
import Derived.Test.YtecgipilamefmaaSr
import Derived.Test.YtecgipilamefmaaWc
import Derived.Test.YtecgipilamefmaaFr
/- Dynamics: sizes, gains, clipped and bent numbers: both sides, modulo the bits of not-a-numbers. -/
set_option linter.unusedVariables false
set_option linter.unusedSimpArgs false
namespace Go.Proofs.Ytecgipilamefmaa
open Fl Go.RowKit
abbrev qu (a b : O) : O := opO .quo .f32 a b
def sizeO (x : O) : O := x.map sizeN
theorem sizeN_fv {b : Nat} {X : O} (h : Hid (Fv .f32 b X)) : Hid (Fv .f32 (sizeN b) (sizeO X)) := by
  obtain ⟨h1, h2⟩ := h
  refine Lib.hid ⟨sizeN_lt b, ?_⟩
  rw [← h2, ab32, ab32]
  unfold sizeN sizeO
  by_cases e : 2139095040 < b % 2147483648
  · rw [if_pos (by omega), if_pos e]; rfl
  · rw [if_neg (by omega), if_neg e]; rfl
/-- the model's size -/
def sizeS (b : Nat) : Nat := if nanB b then b else sizeN b
theorem sizeS_fv {b : Nat} {X : O} (h : Hid (Fv .f32 b X)) : Hid (Fv .f32 (sizeS b) (sizeO X)) := by
  unfold sizeS
  cases e : nanB b
  · exact sizeN_fv h
  · obtain ⟨h1, h2⟩ := h
    have h3 := ab_of_nan' e
    rw [h3] at h2
    subst h2
    exact Lib.hid ⟨h1, h3⟩
theorem sizeS_lt {b : Nat} (h : b < 4294967296) : sizeS b < 4294967296 := by unfold sizeS; split; exact h; exact sizeN_lt b
theorem ord_fv {k : FloatKind} {p q : Nat} {P Q : O} (hp : Hid (Fv k p P)) (hq : Hid (Fv k q Q)) : k.format.order p q = ordO k P Q := by rw [order_ab, hp.out.2, hq.out.2]
def gtO (x y : O) : Bool := ordO .f32 x y == some .gt
def ltO (x y : O) : Bool := ordO .f32 x y == some .lt
theorem gt_fv {p q : Nat} {P Q : O} (hp : Hid (Fv .f32 p P)) (hq : Hid (Fv .f32 q Q)) : (FloatKind.f32.format.order p q == some .gt) = gtO P Q := by rw [ord_fv hp hq]; rfl
theorem lt_fv {p q : Nat} {P Q : O} (hp : Hid (Fv .f32 p P)) (hq : Hid (Fv .f32 q Q)) : (FloatKind.f32.format.order p q == some .lt) = ltO P Q := by rw [ord_fv hp hq]; rfl
theorem fvc {b : Nat} (h : b < 4294967296) (h2 : b % 2147483648 ≤ 2139095040) : Hid (Fv .f32 b (some b)) := Lib.hid ⟨h, by rw [ab32, if_neg (by omega)]⟩
theorem fv0 : Hid (Fv .f32 0 (some 0)) := fvc (by decide) (by decide)
theorem fv1 : Hid (Fv .f32 1065353216 (some 1065353216)) := fvc (by decide) (by decide)
theorem fvm1 : Hid (Fv .f32 3212836864 (some 3212836864)) := fvc (by decide) (by decide)
theorem fvh : Hid (Fv .f32 1056964608 (some 1056964608)) := fvc (by decide) (by decide)
theorem fvoh : Hid (Fv .f32 1069547520 (some 1069547520)) := fvc (by decide) (by decide)
theorem negN_fv {b : Nat} {X : O} (h : Hid (Fv .f32 b X)) : Hid (Fv .f32 (negN b) (X.map negN)) := Lib.hid ⟨negN_lt h.out.1, by unfold negN; rw [ab_neg, h.out.2]⟩
theorem negN_big {b : Nat} (h : b < 4294967296) (h2 : 2147483648 ≤ b) : negN b = sizeN b := by
  unfold negN sizeN Op.negFloat
  have e2 := neg_mod .f32 b
  rw [sw32] at e2
  unfold Op.negFloat at e2
  have e3 : (b ^^^ (2 ^ (FloatKind.f32.format.exponentBits + FloatKind.f32.format.fractionBits))) / 2147483648 = 0 := by
    rw [show (2 : Nat) ^ (FloatKind.f32.format.exponentBits + FloatKind.f32.format.fractionBits) = 2 ^ 31 by decide, show (2147483648 : Nat) = 2 ^ 31 by decide, ← Nat.shiftRight_eq_div_pow, Nat.shiftRight_xor_distrib, Nat.shiftRight_eq_div_pow, show b / 2 ^ 31 = 1 by omega]
    rfl
  omega
/-- which of the two branches a size takes -/
theorem sizeS_case {b : Nat} (hb : b < 4294967296) : ((FloatKind.f32.format.order b 0 == some .lt) = true ∧ sizeS b = negN b) ∨ ((FloatKind.f32.format.order b 0 == some .lt) = false ∧ (((bitsO (ab .f32 b) : Int) == 2147483648) = true ∧ sizeS b = negN b ∨ ((bitsO (ab .f32 b) : Int) == 2147483648) = false ∧ sizeS b = b)) := by
  unfold sizeS
  cases e : nanB b
  · have h := ab_of_nan e
    have ho := ord_zero32 hb h
    rw [h]
    simp only [bitsO]
    by_cases h1 : b < 2147483648
    · refine .inr ⟨?_, .inr ⟨?_, ?_⟩⟩
      · rw [ho]; by_cases h2 : b % 2147483648 = 0
        · rw [if_pos h2]; rfl
        · rw [if_neg h2, if_pos h1]; rfl
      · simp; omega
      · simp only [Bool.false_eq_true, if_false]; unfold sizeN; omega
    · have hs : sizeN b = negN b := (negN_big hb (by omega)).symm
      by_cases h2 : b % 2147483648 = 0
      · refine .inr ⟨?_, .inl ⟨?_, hs⟩⟩
        · rw [ho, if_pos h2]; rfl
        · simp; omega
      · refine .inl ⟨?_, hs⟩
        rw [ho, if_neg h2, if_neg h1]; rfl
  · have h := ab_of_nan' e
    rw [ord_none h, h]
    exact .inr ⟨rfl, .inr ⟨rfl, rfl⟩⟩
/-- a gain, and a bent number -/
def gainO (l t r : O) : O := if gtO l t then qu (ad t (qu (su l t) r)) l else some 1065353216
/-- a clipped number -/
def clipO (x l : O) : O := if gtO (sizeO x) l then (if ltO x (some 0) then l.map negN else l) else x
/-- a bent number -/
def bendR (x : O) : O := mu x (su (some 1069547520) (mu (some 1056964608) (mu x x)))
def eqO (x y : O) : Bool := ordO .f32 x y == some .eq
theorem eq_fv {p q : Nat} {P Q : O} (hp : Hid (Fv .f32 p P)) (hq : Hid (Fv .f32 q Q)) : (FloatKind.f32.format.order p q == some .eq) = eqO P Q := by rw [ord_fv hp hq]; rfl
def geO (x y : O) : Bool := gtO x y || eqO x y
def leO (x y : O) : Bool := ltO x y || eqO x y
def bendO (x : O) : O := if geO x (some 1065353216) then some 1065353216 else if leO x (some 3212836864) then some 3212836864 else bendR x
end Go.Proofs.Ytecgipilamefmaa

/- Lines: what they have taken, as a stream; rings. Plain mathematics. -/
set_option linter.unusedVariables false
set_option linter.unusedSimpArgs false
namespace Go.Proofs.Ytecgipilamefmaa
namespace Ln
abbrev Ov := Option Nat
/-- the numbers of a line of length n + 1, and those that it takes behind them: v x b is taken where b is the oldest number -/
def st (n : Nat) (l : Nat → Ov) (v : Ov → Ov → Ov) (x : Nat → Ov) (j : Nat) : Ov :=
  if j < n + 1 then l j else v (x (j - (n + 1))) (st n l v x (j - (n + 1)))
termination_by j
decreasing_by omega
theorem st_old {n : Nat} {l : Nat → Ov} {v : Ov → Ov → Ov} {x : Nat → Ov} {j : Nat} (h : j < n + 1) : st n l v x j = l j := by rw [st, if_pos h]
theorem st_new {n : Nat} {l : Nat → Ov} {v : Ov → Ov → Ov} {x : Nat → Ov} (k : Nat) : st n l v x (n + 1 + k) = v (x k) (st n l v x k) := by
  rw [st, if_neg (by omega), show n + 1 + k - (n + 1) = k by omega]
/-- the place in the stream of what lies at place j of a ring of n behind k numbers -/
def ix (n k j : Nat) : Nat := k + (j + n - k % n) % n
theorem ix_lt {n k j : Nat} (hn : 0 < n) : k ≤ ix n k j ∧ ix n k j < k + n := by
  unfold ix
  have := Nat.mod_lt (j + n - k % n) hn
  omega
theorem ix_zero {n j : Nat} (hj : j < n) : ix n 0 j = j := by
  unfold ix
  rw [Nat.zero_mod, Nat.sub_zero, Nat.add_mod_right, Nat.mod_eq_of_lt hj]; omega
theorem ix_mod {n k j : Nat} (hj : j < n) : ix n k j % n = j := by
  unfold ix
  have hm := Nat.mod_lt k (show 0 < n by omega)
  have e : k = n * (k / n) + k % n := (Nat.div_add_mod k n).symm
  rcases Nat.lt_or_ge j (k % n) with h | h
  · rw [Nat.mod_eq_of_lt (show j + n - k % n < n by omega)]
    have e2 : k + (j + n - k % n) = j + n * (k / n + 1) := by rw [Nat.mul_add]; omega
    rw [e2, Nat.add_mul_mod_self_left, Nat.mod_eq_of_lt hj]
  · have e1 : j + n - k % n = (j - k % n) + n := by omega
    rw [e1, Nat.add_mod_right, Nat.mod_eq_of_lt (show j - k % n < n by omega)]
    have e2 : k + (j - k % n) = j + n * (k / n) := by omega
    rw [e2, Nat.add_mul_mod_self_left, Nat.mod_eq_of_lt hj]
/-- one number in each stretch of n has a remainder -/
theorem ix_of {n k m : Nat} (h1 : k ≤ m) (h2 : m < k + n) : ix n k (m % n) = m := by
  have hn : 0 < n := by omega
  have h3 := ix_mod (n := n) (k := k) (Nat.mod_lt m hn)
  have h4 := ix_lt (n := n) (k := k) (j := m % n) hn
  generalize ix n k (m % n) = a at *
  have ea := Nat.div_add_mod a n
  have em := Nat.div_add_mod m n
  have : a / n = m / n := by
    rcases Nat.lt_trichotomy (a / n) (m / n) with h | h | h
    · have : n * (a / n + 1) ≤ n * (m / n) := Nat.mul_le_mul_left _ h
      rw [Nat.mul_add] at this; omega
    · exact h
    · have : n * (m / n + 1) ≤ n * (a / n) := Nat.mul_le_mul_left _ h
      rw [Nat.mul_add] at this; omega
  rw [this] at ea; omega
theorem ix_step {n k j : Nat} (hj : j < n) : ix n (k + 1) j = if j = k % n then k + n else ix n k j := by
  have hn : 0 < n := by omega
  by_cases h : j = k % n
  · rw [if_pos h, h]
    have := ix_of (n := n) (k := k + 1) (m := k + n) (by omega) (by omega)
    rwa [Nat.add_mod_right] at this
  · rw [if_neg h]
    have h1 := ix_lt (n := n) (k := k) (j := j) hn
    have h2 := ix_mod (n := n) (k := k) hj
    have h3 : ix n k j ≠ k := fun e => h (by rw [← h2, e])
    have := ix_of (n := n) (k := k + 1) (m := ix n k j) (by omega) (by omega)
    rwa [h2] at this
theorem mod_step {n k : Nat} (hn : 0 < n) : (k % n + 1) % n = (k + 1) % n := by rw [Nat.add_mod, Nat.mod_mod, ← Nat.add_mod]
/-- place o + i of a ring (round) whose oldest place is o = k % n -/
theorem ix_at {n k i : Nat} (hi : i < n) : ix n k ((k % n + i) % n) = k + i := by
  rw [Nat.mod_add_mod]
  exact ix_of (by omega) (by omega)
/-- the oldest place -/
theorem ix_old {n k : Nat} (hn : 0 < n) : ix n k (k % n) = k := ix_of (Nat.le_refl _) (by omega)
end Ln
end Go.Proofs.Ytecgipilamefmaa

/- Delays: the model's lines. -/
set_option linter.unusedVariables false
set_option linter.unusedSimpArgs false
namespace Go.Proofs.Ytecgipilamefmaa
namespace Fl
/-- only block g, among those that there are, may have changed -/
def On (g : Nat) (w w' : World) : Prop := w.Since g w' ∧ ∀ b, b < w.heap.size → b ≠ g → w'.heap[b]? = w.heap[b]?
theorem On.refl (g : Nat) (w : World) : On g w w := ⟨World.Since.refl _ _, fun _ _ _ => rfl⟩
theorem On.trans {g : Nat} {a b c : World} (h : On g a b) (k : On g b c) : On g a c :=
  ⟨h.1.trans k.1, fun i hi hn => (k.2 i (Nat.lt_of_lt_of_le hi h.1.size) hn).trans (h.2 i hi hn)⟩
theorem On.drewN {g : Nat} {a b : World} (h : On g a b) (n : Nat) : On g a (b.drewN n) := ⟨since_drewN h.1 n, h.2⟩
theorem On.set {g : Nat} {a b : World} (h : On g a b) (o : Nat) (v : Value) : On g a (b.setCell ⟨g, o, none⟩ v) :=
  ⟨h.1.setCell (Nat.le_refl _) v, fun i hi hn => by rw [Go.Deep.blk_setCell_other _ _ _ _ hn]; exact h.2 i hi hn⟩
theorem On.alloc {g : Nat} {a b : World} (h : On g a b) (hg : g ≤ b.heap.size) (o : Obj) : On g a (b.alloc o) :=
  ⟨h.1.alloc hg o, fun i hi hn => by
    have hlt : i < b.heap.size := Nat.lt_of_lt_of_le hi h.1.size
    have e : (b.alloc o).heap[i]? = b.heap[i]? := by
      show (b.heap.push o)[i]? = _
      rw [Array.getElem?_push_lt hlt]; exact (Array.getElem?_eq_getElem hlt).symm
    rw [e]; exact h.2 i hi hn⟩
theorem On.since {g lo : Nat} {a b : World} (h : On g a b) (hl : lo ≤ g) : a.Since lo b := since_mono h.1 hl
theorem On.from {g lo : Nat} {w a b : World} (s : w.Since lo a) (h : On g a b) (hl : lo ≤ g) : w.Since lo b := s.trans (h.since hl)
theorem Gs.on {T : TypeId} {w w' : World} {lo n g : Nat} {A : Option Addr} {xs : List Nat} (h : Gs T w lo A n xs) (o : On g w w') (hd : ∀ s t, A ≠ some ⟨g, s, t⟩) : Gs T w' lo A n xs :=
  ⟨h.1, h.2.1, fun hn => by
    obtain ⟨b, cs, e, hb, hh, hc⟩ := h.2.2 hn
    refine ⟨b, cs, e, hb, (o.2 b (Array.getElem?_eq_some_iff.1 hh).1 ?_).trans hh, hc⟩
    rintro rfl
    exact hd _ _ e⟩
theorem Fs.on {w w' : World} {B n g : Nat} {A : Option Addr} {xs : List Nat} (h : Fs w B A n xs) (o : On g w w') (hB : B ≤ g) : Fs w' B A n xs := h.since (o.since hB)
theorem own_on {T : TypeId} {w w' : World} {lo n s g : Nat} {v : Value} {xs : List Value} (h : w.ownsRow lo T s v n xs) (o : On g w w') (hl : g < lo) : w'.ownsRow lo T s v n xs := by
  obtain ⟨h1, h2⟩ := h
  refine ⟨h1, ?_⟩
  rcases h2 with h2 | ⟨b, cap, cur, e, hb, hh, r⟩
  · exact .inl h2
  · exact .inr ⟨b, cap, cur, e, hb, (o.2 b (Array.getElem?_eq_some_iff.1 hh).1 (by omega)).trans hh, r⟩
/-- the words of a list stand for these -/
def Are' (n : Nat) (xs : List Nat) (f : Nat → Option Nat) : Prop := ∀ k, k < n → ab .f32 (wd xs k) = f k
theorem wd_shift {ys : List Nat} {x n : Nat} (h : ys.length = n) (hn : 0 < n) (j : Nat) (hj : j < n) : wd (ys.drop 1 ++ [x]) j = if j + 1 < n then wd ys (j + 1) else x := by
  rw [wd_snoc (n := n - 1) (by simp [h])]
  by_cases e : j + 1 < n
  · rw [if_pos (by omega), if_pos e]
    unfold wd
    simp [Nat.add_comm]
  · rw [if_neg (by omega), if_pos (by omega), if_neg e]
theorem Small.shift {ys : List Nat} {x : Nat} (h : Small ys) (hx : x < 4294967296) : Small (ys.drop 1 ++ [x]) := Small.snoc (fun y hy => h y (List.mem_of_mem_drop hy)) hx
end Fl
open Fl Go.RowKit
/-- a line whose first numbers have been moved -/
def shifted (ys : List Nat) (i j : Nat) : Value := if j + 1 < i then fv ys (j + 1) else fv ys j
def GCells (w : World) (g : Nat) (n : Nat) (f : Nat → Value) : Prop := ∃ cs, w.heap[g]? = some (.cells cs 22 (0, 0)) ∧ ∀ j, j < n → cs[j]? = some (f j)
theorem GCells.cell {w : World} {g n : Nat} {f : Nat → Value} (h : GCells w g n f) {j : Nat} (hj : j < n) : w.cell? ⟨g, j, none⟩ = some (f j) := by
  obtain ⟨cs, hb, hc⟩ := h
  simp only [World.cell?, hb]
  simpa using hc j hj
theorem GCells.free {w : World} {g n : Nat} {f : Nat → Value} (h : GCells w g n f) (j : Nat) : w.frozen? ⟨g, j, none⟩ = false := by
  obtain ⟨cs, hb, hc⟩ := h
  simp [World.frozen?, hb]
theorem GCells.set {w : World} {g n : Nat} {f : Nat → Value} (h : GCells w g n f) (k : Nat) (v : Value) : GCells (w.setCell ⟨g, k, none⟩ v) g n (fun j => if j = k then v else f j) := by
  obtain ⟨cs, hb, hc⟩ := h
  refine ⟨cs.setIfInBounds k v, by simp [World.setCell, Array.getElem?_modify, hb], fun j hj => ?_⟩
  rw [Array.getElem?_setIfInBounds]
  have hsz2 : j < cs.size := (Array.getElem?_eq_some_iff.1 (hc j hj)).1
  show _ = some (if j = k then v else f j)
  by_cases e : k = j
  · subst e; rw [if_pos rfl, if_pos hsz2, if_pos rfl]
  · rw [if_neg e, if_neg (Ne.symm e)]; exact hc j hj
theorem GCells.congr {w : World} {g n : Nat} {f f' : Nat → Value} (h : GCells w g n f) (e : ∀ j, j < n → f j = f' j) : GCells w g n f' := by
  obtain ⟨cs, hb, hc⟩ := h
  exact ⟨cs, hb, fun j hj => by rw [← e j hj]; exact hc j hj⟩
theorem GCells.drewN {w : World} {g n : Nat} {f : Nat → Value} (h : GCells w g n f) (k : Nat) : GCells (w.drewN k) g n f := h
theorem GCells.lt {w : World} {g n : Nat} {f : Nat → Value} (h : GCells w g n f) : g < w.heap.size := by
  obtain ⟨cs, hb, hc⟩ := h
  exact (Array.getElem?_eq_some_iff.1 hb).1

structure DelAt (w : World) (g : Nat) (d : DelN) : Prop where
  lt : g < w.heap.size
  l : w.cell? ⟨g, 0, none⟩ = some (.int .i64 d.l)
  fb : w.cell? ⟨g, 1, none⟩ = some (.float .f32 d.fb)
  dry : w.cell? ⟨g, 2, none⟩ = some (.float .f32 d.dry)
  wet : w.cell? ⟨g, 3, none⟩ = some (.float .f32 d.wet)
  fl : w.cell? ⟨g, 4, none⟩ = some (.bool d.fl)
theorem cell_of_block {w w' : World} {b : Nat} (h : w'.heap[b]? = w.heap[b]?) (o : Nat) : w'.cell? ⟨b, o, none⟩ = w.cell? ⟨b, o, none⟩ := by simp only [World.cell?, h]
theorem DelAt.of {w w' : World} {g : Nat} {d : DelN} (h : DelAt w g d) (hs : w.heap.size ≤ w'.heap.size) (e : w'.heap[g]? = w.heap[g]?) : DelAt w' g d :=
  ⟨Nat.lt_of_lt_of_le h.lt hs, (cell_of_block e _).trans h.l, (cell_of_block e _).trans h.fb, (cell_of_block e _).trans h.dry, (cell_of_block e _).trans h.wet, (cell_of_block e _).trans h.fl⟩
theorem DelAt.on {w w' : World} {g b : Nat} {d : DelN} (h : DelAt w g d) (o : On b w w') (hn : g ≠ b) : DelAt w' g d := h.of o.1.size (o.2 g h.lt hn)
/-- words of a delay stand for these -/
structure Del where
  fb : O
  dry : O
  wet : O
structure FvD (d : DelN) (D : Del) : Prop where
  fb : Hid (Fv .f32 d.fb D.fb)
  dry : Hid (Fv .f32 d.dry D.dry)
  wet : Hid (Fv .f32 d.wet D.wet)
def DelY (D : Del) (x b : O) : O := delY D.dry D.wet x b
def DelV (fu : Bool) (D : Del) (x b : O) : O := delV fu D.fb x b
/-- what a line is behind a number that it has taken -/
def took (n : Nat) (L : Nat → O) (v : O) (i : Nat) : O := if i + 1 < n then L (i + 1) else v

theorem on_cells {g b : Nat} {w w' : World} (h : On g w w') (hb : b < w.heap.size) (hn : b ≠ g) : (∀ o, w'.cell? ⟨b, o, none⟩ = w.cell? ⟨b, o, none⟩) ∧ (∀ o, w'.frozen? ⟨b, o, none⟩ = w.frozen? ⟨b, o, none⟩) :=
  ⟨fun o => cell_of_block (h.2 b hb hn) o, fun o => by simp only [World.frozen?, h.2 b hb hn]⟩
theorem DelAt.drewN {w : World} {g : Nat} {d : DelN} (h : DelAt w g d) (k : Nat) : DelAt (w.drewN k) g d := ⟨h.lt, h.l, h.fb, h.dry, h.wet, h.fl⟩
theorem Fl.On.before {g : Nat} {w w' : World} {m : Nat} (h : On g (w.drewN m) w') (n : Nat) : On g w (w'.drewN n) := ⟨⟨h.1.os, h.1.tape, h.1.output, h.1.size, h.1.block⟩, h.2⟩
theorem specDelay_end {w w1 : World} {lo g n r v : Nat} {ys : List Nat} {L : Nat → O} {Y V : O} {e : Ending} (he : e = .returned (.float .f32 r)) (hr : Hid (Fv .f32 r Y)) (h : Gs 22 w1 lo (some ⟨g, 0, none⟩) n (ys.drop 1 ++ [v]))
    (hl : ys.length = n) (h0 : 0 < n) (hL : Are' n ys L) (hv : Hid (Fv .f32 v V)) (ho : On g w w1) :
    ∃ (r : Nat) (zs : List Nat), e = .returned (.float .f32 r) ∧ Hid (Fv .f32 r Y) ∧ Gs 22 w1 lo (some ⟨g, 0, none⟩) n zs ∧ Are' n zs (took n L V) ∧ On g w w1 :=
  ⟨r, _, he, hr, h, fun i hi => by
    rw [wd_shift hl h0 i hi]
    unfold took
    by_cases e : i + 1 < n
    · rw [if_pos e, if_pos e]; exact hL _ e
    · rw [if_neg e, if_neg e]; exact hv.out.2, ho⟩

theorem fvl_one (xs : List Nat) : ∀ v ∈ fvl xs, v.oneCell' = true := fun v hv => by
  obtain ⟨x, _, rfl⟩ := List.mem_map.1 hv
  rfl
theorem fvl_cells {w w1 : World} {A : Option Addr} {n : Nat} {xs : List Nat} (h : Fs w w.heap.size A n xs) (s : w.Since w.heap.size w1) (h0 : 0 < n) : ∃ ad, A = some ad ∧ ∀ j v, (fvl xs)[j]? = some v → w1.cell? (ad.add j) = some v := by
  obtain ⟨g, off, rfl, hg, hc⟩ := h.2.2 h0
  refine ⟨_, rfl, fun j v hj => ?_⟩
  unfold fvl at hj
  rw [List.getElem?_map] at hj
  cases hx : xs[j]? with
  | none => rw [hx] at hj; cases hj
  | some x =>
    rw [hx] at hj
    injection hj with hj
    subst hj
    have hjn : j < n := by rw [← h.1]; exact (List.getElem?_eq_some_iff.1 hx).1
    have e : (({ block := g, off := off } : Addr).add j) = ⟨g, off + j, none⟩ := by simp [Addr.add]
    rw [e]
    refine (s.cell (a := ⟨g, off + j, none⟩) hg).trans ((hc j hjn).trans ?_)
    unfold fv wd
    simp [hx]
end Go.Proofs.Ytecgipilamefmaa

/- Delays: the model's run. -/
set_option linter.unusedVariables false
set_option linter.unusedSimpArgs false
namespace Go.Proofs.Ytecgipilamefmaa
open Fl Go.RowKit
/-- two lists and a yes -/
def PLLB (n0 : Nat) (f0 : Nat → Option Nat) (n1 : Nat) (f1 : Nat → Option Nat) (b : Bool) (w : World) (e : Ending) (w' : World) : Prop :=
  ∃ (p q : Ls) (c d : Nat), e = .returned (.tuple #[.slice p.A p.n c, .slice q.A q.n d, .bool b]) ∧ p.n = n0 ∧ q.n = n1 ∧ Gs 22 w' w.heap.size p.A p.n p.xs ∧ Gs 22 w' w.heap.size q.A q.n q.xs ∧ Are p f0 ∧ Are q f1 ∧ Dj p q ∧ w.Since w.heap.size w'
theorem PLLB.none_ {w w' : World} (s : w.Since w.heap.size w') (f0 f1 : Nat → Option Nat) : PLLB 0 f0 0 f1 false w (.returned (.tuple #[.slice none 0 0, .slice none 0 0, .bool false])) w' :=
  ⟨⟨none, 0, []⟩, ⟨none, 0, []⟩, 0, 0, rfl, rfl, rfl, Gs.nil_, Gs.nil_, (fun k hk => by simp at hk), (fun k hk => by simp at hk), (fun h => by simp at h), s⟩
def Sd (fu : Bool) (D : Del) (n : Nat) (xs ys : List Nat) : Nat → O := Ln.st (n - 1) (fun j => ab .f32 (wd xs j)) (DelV fu D) (fun j => ab .f32 (wd ys j))
theorem Sd_old {fu : Bool} {D : Del} {n : Nat} {xs ys : List Nat} {j : Nat} (h : j < n) : Sd fu D n xs ys j = ab .f32 (wd xs j) := Ln.st_old (by omega)
theorem Sd_new {fu : Bool} {D : Del} {n : Nat} {xs ys : List Nat} (hn : 0 < n) (k : Nat) : Sd fu D n xs ys (k + n) = DelV fu D (ab .f32 (wd ys k)) (Sd fu D n xs ys k) := by
  have := Ln.st_new (n := n - 1) (l := fun j => ab .f32 (wd xs j)) (v := DelV fu D) (x := fun j => ab .f32 (wd ys j)) k
  rw [show n - 1 + 1 + k = k + n by omega] at this
  exact this
theorem took_step {n k : Nat} {S : Nat → O} {V : O} (hV : S (k + n) = V) : ∀ i, i < n → took n (fun i => S (k + i)) V i = S (k + 1 + i) := fun i hi => by
  unfold took
  by_cases e : i + 1 < n
  · rw [if_pos e]
    show S (k + (i + 1)) = _
    rw [show k + (i + 1) = k + 1 + i by omega]
  · rw [if_neg e, ← hV, show k + 1 + i = k + n by omega]
theorem Gs.under {T : TypeId} {w w' : World} {lo n g B : Nat} {xs : List Nat} (h : Gs T w lo (some ⟨g, 0, none⟩) n xs) (s : w.Since B w') (hg : g < B) : Gs T w' lo (some ⟨g, 0, none⟩) n xs :=
  ⟨h.1, h.2.1, fun hn => by
    obtain ⟨b, cs, e, hb, hh, hc⟩ := h.2.2 hn
    injection e with e; injection e with e1 _ _; subst e1
    exact ⟨g, cs, rfl, hb, (s.block g hg).trans hh, hc⟩⟩
theorem since_mono_trans {B g C : Nat} {w a b c : World} (h : w.Since B a) (o : On g a b) (k : b.Since C c) (h1 : B ≤ g) (h2 : B ≤ C) : w.Since B c := (h.trans (o.since h1)).trans (since_mono k h2)
end Go.Proofs.Ytecgipilamefmaa

/- What the functions of a law give: lists, numbers, a yes or no. -/
set_option linter.unusedVariables false
set_option linter.unusedSimpArgs false
namespace Go.Proofs.Ytecgipilamefmaa
open Fl Go.RowKit
def PB (b : Bool) (w : World) (e : Ending) (w' : World) : Prop := e = .returned (.bool b) ∧ w.Since w.heap.size w'
def PVB (F : Option Nat) (b : Bool) (w : World) (e : Ending) (w' : World) : Prop := ∃ r, e = .returned (.tuple #[.float .f32 r, .bool b]) ∧ Hid (Fv .f32 r F) ∧ w.Since w.heap.size w'
def PIB (i : Int) (b : Bool) (w : World) (e : Ending) (w' : World) : Prop := e = .returned (.tuple #[.int .i64 i, .bool b]) ∧ w.Since w.heap.size w'
def PLB (n0 : Nat) (f0 : Nat → Option Nat) (b : Bool) (w : World) (e : Ending) (w' : World) : Prop :=
  ∃ (p : Ls) (c : Nat), e = .returned (.tuple #[.slice p.A p.n c, .bool b]) ∧ p.n = n0 ∧ Gs 22 w' w.heap.size p.A p.n p.xs ∧ Are p f0 ∧ w.Since w.heap.size w'
def PL (n0 : Nat) (f0 : Nat → Option Nat) (w : World) (e : Ending) (w' : World) : Prop :=
  ∃ (p : Ls) (c : Nat), e = .returned (.slice p.A p.n c) ∧ p.n = n0 ∧ Gs 22 w' w.heap.size p.A p.n p.xs ∧ Are p f0 ∧ w.Since w.heap.size w'
theorem PLB.none_ {w w' : World} (s : w.Since w.heap.size w') (f0 : Nat → Option Nat) : PLB 0 f0 false w (.returned (.tuple #[.slice none 0 0, .bool false])) w' :=
  ⟨⟨none, 0, []⟩, 0, rfl, rfl, Gs.nil_, (fun k hk => by simp at hk), s⟩
end Go.Proofs.Ytecgipilamefmaa

/- Rows of floats that a loop appends to, one number a round. -/
set_option linter.unusedVariables false
set_option linter.unusedSimpArgs false
namespace Go.Proofs.Ytecgipilamefmaa
open Fl Go.RowKit
/-- v is a row of the loop's own, from block lo on, whose k numbers stand for F -/
def Rw (lo : Nat) (w : World) (v : Value) (k : Nat) (F : Nat → O) : Prop := ∃ os, w.ownsRow lo 22 1 v k (fvl os) ∧ Small os ∧ ∀ j, j < k → ab .f32 (wd os j) = F j
theorem Rw.start (w : World) (lo : Nat) (h : lo ≤ w.heap.size) (F : Nat → O) : Rw lo (w.alloc (.cells #[] 22)) (.slice (some ⟨w.heap.size, 0, none⟩) 0 0) 0 F :=
  ⟨[], ⟨rfl, .inr ⟨w.heap.size, 0, #[], rfl, h, Go.Deep.blk_alloc_new _ _, Nat.le_refl _, Nat.zero_le _, rfl, rfl⟩⟩, (fun x hx => by cases hx), fun j hj => by omega⟩
theorem Rw.keep {lo : Nat} {w w' : World} {v : Value} {k : Nat} {F : Nat → O} (h : Rw lo w v k F) (e : ∀ b, lo ≤ b → b < w.heap.size → w'.heap[b]? = w.heap[b]?) : Rw lo w' v k F := by
  obtain ⟨os, ⟨h1, h2⟩, hs, hf⟩ := h
  refine ⟨os, ⟨h1, ?_⟩, hs, hf⟩
  rcases h2 with h2 | ⟨g, cap, cur, e1, h3, h4, r⟩
  · exact .inl h2
  · exact .inr ⟨g, cap, cur, e1, h3, (e g h3 (Array.getElem?_eq_some_iff.1 h4).1).trans h4, r⟩
theorem Rw.since {lo : Nat} {w w' : World} {v : Value} {k : Nat} {F : Nat → O} (h : Rw lo w v k F) (s : w.Since w.heap.size w') : Rw lo w' v k F := h.keep fun b _ hb => s.block b hb
theorem Rw.on {lo g : Nat} {w w' : World} {v : Value} {k : Nat} {F : Nat → O} (h : Rw lo w v k F) (o : On g w w') (hg : g < lo) : Rw lo w' v k F := h.keep fun b hb hl => o.2 b hl (by omega)
theorem Rw.drewN {lo : Nat} {w : World} {v : Value} {k : Nat} {F : Nat → O} (h : Rw lo w v k F) (n : Nat) : Rw lo (w.drewN n) v k F := h
theorem Rw.alloc {lo : Nat} {w : World} {v : Value} {k : Nat} {F : Nat → O} (h : Rw lo w v k F) (o : Obj) : Rw lo (w.alloc o) v k F := h.since ((World.Since.refl _ _).alloc (Nat.le_refl _) _)
/-- what it is in the end -/
theorem Rw.done {lo : Nat} {w : World} {v : Value} {k : Nat} {F : Nat → O} (h : Rw lo w v k F) : ∃ (p : Ls) (c : Nat), v = .slice p.A p.n c ∧ p.n = k ∧ Gs 22 w lo p.A p.n p.xs ∧ Are p F := by
  obtain ⟨os, h1, hs, hf⟩ := h
  have hf' : v = .slice none 0 0 ∧ k = 0 ∨ ∃ g cap, v = .slice (some ⟨g, 0, none⟩) k cap := by
    rcases h1.2 with h2 | ⟨g, cap, cur, e, _⟩
    · exact .inl h2
    · exact .inr ⟨g, cap, e⟩
  rcases hf' with ⟨rfl, rfl⟩ | ⟨g, cap, rfl⟩
  · exact ⟨⟨none, 0, os⟩, 0, rfl, rfl, Gs.of_own h1 hs, hf⟩
  · exact ⟨⟨some ⟨g, 0, none⟩, k, os⟩, cap, rfl, rfl, Gs.of_own h1 hs, hf⟩
theorem wpList_app1 {ops : Array Oper} {rest : List Oper} {o : Oper} {a : Act} {Q : Exit → Act → World → Prop} {w : World} (hgd : o.guard = none) (s x : Operand)
    (ho : o.op = .call { callee := .builtin .append, args := #[s, x], argTypes := #[36, 36] }) (lo : Nat) (v : Value) (k : Nat) (F : Nat → O) (hs : a.eval s = v) (b r : Nat)
    (hx : a.eval x = .slice (some ⟨b, 0, none⟩) 1 1) (hc : w.cell? ⟨b, 0, none⟩ = some (.float .f32 r)) (hk : k < 1048576) (hlo : lo ≤ w.heap.size) (hr : Hid (Fv .f32 r (F k))) (hR : Rw lo w v k F)
    (h : ∀ v' w', Hid (Rw lo w' v' (k + 1) F) → Hid (w.Since lo w') → wpList Try.prog ops Q rest (a.put o.dst v') w') : wpList Try.prog ops Q (o :: rest) a w := by
  obtain ⟨os, h1, h2, h3⟩ := hR
  obtain ⟨i0, hi, hz0, hz1, hz2⟩ := info_parts Try.infoF
  refine wpList_append_own (P := Try.prog) w hgd s x 36 ho lo 22 i0 (.float .f32 0) 1 4 Try.underlying36 hi hz0 hz1 hz2 rfl (by omega) v k (fvl os) hs h1 ⟨b, 0, none⟩ 1 1 [.float .f32 r] hx rfl ?_ ?_ ?_ ?_ hlo ?_
  · intro j u hj
    rcases j with _ | j
    · simp at hj; subst hj; simpa [Addr.add] using hc
    · simp at hj
  · intro u hu; simp at hu; subst hu; rfl
  · unfold maxLen; omega
  · omega
  · intro v' w' hown hg _
    refine h v' w' (Lib.hid ⟨os ++ [r], ?_, h2.snoc hr.out.1, fun j hj => ?_⟩) (Lib.hid ⟨hg.os, hg.tape, hg.output, hg.size, fun i hi => ?_⟩)
    · rw [← fvl_snoc]; exact hown
    · have hyl : os.length = k := by simpa [fvl] using h1.1
      rw [wd_snoc hyl]
      by_cases e : j < k
      · rw [if_pos e]; exact h3 j e
      · obtain rfl : j = k := by omega
        rw [if_neg e, if_pos rfl]; exact hr.out.2
    · refine hg.block i (by omega) fun e => ?_
      have := own_lo h1 i e.symm
      omega
end Go.Proofs.Ytecgipilamefmaa

/- Dynamics: the model's lists: clipped samples, a fade. -/
set_option linter.unusedVariables false
set_option linter.unusedSimpArgs false
namespace Go.Proofs.Ytecgipilamefmaa
open Fl Go.RowKit
end Go.Proofs.Ytecgipilamefmaa

/- Delays: the program's rings. -/
set_option linter.unusedVariables false
set_option linter.unusedSimpArgs false
namespace Go.Proofs.Ytecgipilamefmaa
open Fl Go.RowKit
theorem blk_set {w : World} {g k : Nat} {cs : List Value} {T : TypeId} {v : Value} (h : w.heap[g]? = some (.cells cs.toArray T (0, 0))) : (w.setCell ⟨g, k, none⟩ v).heap[g]? = some (.cells (cs.set k v).toArray T (0, 0)) := by
  simp [World.setCell, Array.getElem?_modify, h]
theorem tmodN (o n : Nat) : ((o : Int) + 1) % (n : Int) = (((o + 1) % n : Nat) : Int) := by rw [Int.natCast_emod]; rfl
theorem heap_drewN {w : World} {g : Nat} {x : Option Obj} (h : w.heap[g]? = x) (n : Nat) : (w.drewN n).heap[g]? = x := h
theorem below_drewN {B : Nat} {a w : World} (h : Below B a w) (n : Nat) : Below B a (w.drewN n) := ⟨h.os, h.tape, h.output, h.size, h.block⟩
theorem since_below {B : Nat} {w w' : World} (h : Below B w w') : w.Since B w' := ⟨h.os, h.tape, h.output, h.size, h.block⟩
theorem sl_own (B n o : Nat) (ho : o < n) (W : World) : ∃ P : Nat, (0 < o → P = n - o) ∧ ∀ W, (Instr.sliceAt 36 (.slice (some ⟨B, 0, none⟩) n n) (some (.int .i64 ((n - o : Nat) : Int))) none none).run Try.prog W = .ok (.slice (some ⟨B, P, none⟩) o o) W := by
  refine ⟨if o = 0 then 0 else n - o, fun h => by rw [if_neg (by omega)], fun W => ?_⟩
  have hs : ((sizeOf (Try.prog.elem 36)).run Try.prog W) = .ok 1 W := by kernel_rfl
  rw [run_sliceAt_slice W _ _ _ _ _ (by kernel_rfl), run_slice_l W _ _ _ _ (by kernel_rfl) .i64 _ (by omega) (by omega), hs]
  simp only [Result.andThen, sliced, Int.toNat_natCast]
  by_cases h : o = 0
  · subst h; simp
  · rw [if_neg h]
    have h1 : ¬ n = n - o := by omega
    have h2 : n - (n - o) = o := by omega
    simp [h1, h2, Addr.add]
    all_goals omega
theorem part_ring {n o : Nat} (ho : o < n) {f : Nat → Nat} {z : List Value} (hz : z.length = n) (i : Nat) (hi : i < n) :
    (splice (splice z 0 ((List.range (n - o)).map fun j => Value.float .f32 (f (o + j)))) (n - o) ((List.range o).map fun j => Value.float .f32 (f (0 + j))))[i]? = some (.float .f32 (f ((o + i) % n))) := by
  unfold splice
  simp only [List.take_zero, List.nil_append, List.length_map, List.length_range, Nat.zero_add]
  by_cases h : i < n - o
  · rw [List.getElem?_append_left (by simp <;> omega), List.getElem?_take_of_lt h, List.getElem?_append_left (by simp <;> omega)]
    rw [Nat.mod_eq_of_lt (show o + i < n by omega)]
    simp [h]
  · have e : (o + i) % n = i - (n - o) := by
      rw [show o + i = (i - (n - o)) + n by omega, Nat.add_mod_right]
      exact Nat.mod_eq_of_lt (by omega)
    rw [List.getElem?_append_right (by rw [List.length_take]; omega)]
    have e2 : (List.take (n - o) ((List.range (n - o)).map (fun j => Value.float .f32 (f (o + j))) ++ List.drop (n - o) z)).length = n - o := by rw [List.length_take]; simp <;> omega
    rw [e2, List.getElem?_append_left (by simp <;> omega), e]
    rw [List.getElem?_map, List.getElem?_range (by omega)]; simp
theorem floats_one {m : Nat} {q : Nat → Nat} : ∀ v ∈ (List.range m).map fun j => Value.float .f32 (q j), v.oneCell' = true := fun v hv => by
  obtain ⟨x, _, rfl⟩ := List.mem_map.1 hv
  rfl
end Go.Proofs.Ytecgipilamefmaa

/- What a step makes of all samples; lines of one kind. -/
set_option linter.unusedVariables false
set_option linter.unusedSimpArgs false
namespace Go.Proofs.Ytecgipilamefmaa
open Fl Go.RowKit
/-- words as a list -/
def lst (n : Nat) (r : Nat → Nat) : List Nat := (List.range n).map r
theorem lst_wd {n : Nat} {r : Nat → Nat} {i : Nat} (h : i < n) : wd (lst n r) i = r i := by unfold lst wd; simp [h]
theorem lst_len (n : Nat) (r : Nat → Nat) : (lst n r).length = n := by simp [lst]
theorem On.setNew {g p o : Nat} {a b : World} {v : Value} (h : On g a b) (hp : a.heap.size ≤ p) (hg : g ≤ p) : On g a (b.setCell ⟨p, o, none⟩ v) :=
  ⟨h.1.setCell hg v, fun i hi hn => by rw [Go.Deep.blk_setCell_other _ _ _ _ (show i ≠ p by omega)]; exact h.2 i hi hn⟩
theorem GCells.on {w w' : World} {g b n : Nat} {f : Nat → Value} (h : GCells w g n f) (o : On b w w') (hn : g ≠ b) : GCells w' g n f := by
  have hl := h.lt
  obtain ⟨cs, hb, hc⟩ := h
  exact ⟨cs, (o.2 g hl hn).trans hb, hc⟩
def partial_ (k : Nat) (r : Nat → Nat) (j : Nat) : Value := .float .f32 (if j < k then r j else 0)
end Go.Proofs.Ytecgipilamefmaa

/- Lines of one kind: the program's run of a delay. -/
set_option linter.unusedVariables false
set_option linter.unusedSimpArgs false
namespace Go.Proofs.Ytecgipilamefmaa
open Fl Go.RowKit
theorem implSamples_b (B : Option Addr) (m c : Nat) (b : Bool) (w : World) (h : decide ((m : Int) ≤ 256) = b) :
    Calls Try.prog 53 #[.slice B m c] w fun e w' => e = .returned (.bool b) ∧ w = w' := by
  go_enter Try.func53, Try.ntmps53
  go_wp2
  go_ret
  exact ⟨rfl, rfl⟩
theorem DelAt.of2 {w w' : World} {g : Nat} {d : DelN} (h : DelAt w g d) (hs : g < w'.heap.size) (e : w'.heap[g]? = w.heap[g]?) : DelAt w' g d :=
  ⟨hs, (cell_of_block e _).trans h.l, (cell_of_block e _).trans h.fb, (cell_of_block e _).trans h.dry, (cell_of_block e _).trans h.wet, (cell_of_block e _).trans h.fl⟩
theorem PLLB.up {n0 n1 : Nat} {f0 f1 : Nat → Option Nat} {b : Bool} {w w1 w2 : World} {e : Ending} (s : w.Since w.heap.size w1) (h : PLLB n0 f0 n1 f1 b w1 e w2) : PLLB n0 f0 n1 f1 b w e w2 := by
  obtain ⟨p, q, c, d, he, hp, hq, g1, g2, a1, a2, dj, hs⟩ := h
  exact ⟨p, q, c, d, he, hp, hq, g1.less s.size, g2.less s.size, a1, a2, dj, since_step s hs⟩
/-! where a run fails -/
end Go.Proofs.Ytecgipilamefmaa

/- Dynamics: the program's lists: clipped samples. -/
set_option linter.unusedVariables false
set_option linter.unusedSimpArgs false
namespace Go.Proofs.Ytecgipilamefmaa
open Fl Go.RowKit
end Go.Proofs.Ytecgipilamefmaa

/- What a step makes of all samples, for bound methods; products of samples and gains. -/
set_option linter.unusedVariables false
set_option linter.unusedSimpArgs false
namespace Go.Proofs.Ytecgipilamefmaa
open Fl Go.RowKit
end Go.Proofs.Ytecgipilamefmaa

/- Dynamics: fades. -/
set_option linter.unusedVariables false
set_option linter.unusedSimpArgs false
namespace Go.Proofs.Ytecgipilamefmaa
open Fl Go.RowKit
def fI (k : Int) : Nat := floatOfInt .f32 k
theorem fI_fv (k : Int) : Hid (Fv .f32 (floatOfInt .f32 k) (some (fI k))) := Lib.hid (fv_write .f32 (d := .number (decide (k < 0)) k.natAbs 0) rfl)
def fadeG (f t : O) (i n : Int) : O := ad f (mu (su t f) (qu (some (fI i)) (some (fI n))))
/-! the gate -/
def PLIB (n0 : Nat) (f0 : Nat → Option Nat) (i : Int) (b : Bool) (w : World) (e : Ending) (w' : World) : Prop :=
  ∃ (p : Ls) (c : Nat), e = .returned (.tuple #[.slice p.A p.n c, .int .i64 i, .bool b]) ∧ p.n = n0 ∧ Gs 22 w' w.heap.size p.A p.n p.xs ∧ Are p f0 ∧ w.Since w.heap.size w'
theorem PLIB.none_ {w w' : World} (s : w.Since w.heap.size w') (f0 : Nat → Option Nat) : PLIB 0 f0 0 false w (.returned (.tuple #[.slice none 0 0, .int .i64 0, .bool false])) w' :=
  ⟨⟨none, 0, []⟩, 0, rfl, rfl, Gs.nil_, (fun k hk => by simp at hk), s⟩
def gateH (X : Nat → O) (T : O) (hold held : Int) : Nat → Int
  | 0 => held
  | k + 1 => if geO (sizeO (X k)) T then hold else if 0 < gateH X T hold held k then gateH X T hold held k - 1 else gateH X T hold held k
def gateY (X : Nat → O) (T : O) (hold held : Int) (k : Nat) : O := if geO (sizeO (X k)) T then X k else if 0 < gateH X T hold held k then X k else some 0
theorem gateH_in {X : Nat → O} {T : O} {hold held : Int} (h1 : 0 ≤ held) (h2 : held ≤ hold) (k : Nat) : 0 ≤ gateH X T hold held k ∧ gateH X T hold held k ≤ hold := by
  induction k with
  | zero => exact ⟨h1, h2⟩
  | succ k ih => unfold gateH; split; omega; split <;> omega
def okHold (hold held : Int) : Bool := inB hold 0 10000 && inB held 0 hold
theorem allow_any (a b x : Int) (w : World) :
    Calls Try.prog 54 #[.agg #[.int .i64 a, .int .i64 b], .int .i64 x] w fun e w' => e = .returned (.bool (inB x a b)) ∧ w.Since w.heap.size w' := by
  by_cases h : a ≤ x
  all_goals
    go_enter Try.func54, Try.ntmps54
    go_wp2
    go_ret
    exact ⟨ret_bool (by simp [inB]; omega), by (repeat (first | (with_reducible refine Fl.sinDrew ?_) | (with_reducible refine World.Since.drew ?_) | (with_reducible refine Fl.sinSet ?_ ?_; rotate_left) | (with_reducible refine Fl.sinAlloc ?_ ?_; rotate_left) | with_reducible exact World.Since.refl _ _ | with_reducible assumption | (with_reducible refine Fl.sinStep (by with_reducible assumption) ?_))); all_goals (first | omega | (simp; done) | (simp; omega) | (simp [go_sem]; done) | (simp [go_sem]; omega))⟩
end Go.Proofs.Ytecgipilamefmaa

/- Floats that are whole multiples of a power of two: sums, differences, products and comparisons of them are exact. -/
set_option linter.unusedVariables false
set_option linter.unusedSimpArgs false
namespace Go.Proofs.Ytecgipilamefmaa
namespace Fl
open Ieee
/-- a finite word's number, in units of the least place -/
def sv (k : FloatKind) (b : Nat) : Int := sg (sgn k b) (zv k (rung k b))
theorem sv_abs (k : FloatKind) (b : Nat) : (sv k b).natAbs = zv k (rung k b) := by unfold sv sg; split <;> omega
theorem sg_xor (s t : Bool) (a b : Nat) : sg (s ^^ t) (a * b) = sg s a * sg t b := by
  cases s <;> cases t <;> simp [sg, Int.neg_mul, Int.mul_neg]
/-- rounding leaves a number that the format has -/
theorem nearest_exact (k : FloatKind) (neg : Bool) {mag r : Nat} {place b : Int} (hr : r < k.format.infRung) (hb : b ≤ place) (hbl : b ≤ k.format.leastPlace)
    (h : mag * 2 ^ (place - b).toNat = zv k r * 2 ^ (k.format.leastPlace - b).toNat) : rung k (k.format.nearest neg mag place) = r := by
  obtain ⟨m, e, hz, hform, hlt⟩ := rung_form k r
  have hN := nearest_rung k neg hr hz hform
  have he : (k.format.leastPlace + (e : Int) - b).toNat = e + (k.format.leastPlace - b).toNat := by omega
  have h2 : mag * 2 ^ (place - b).toNat = m * 2 ^ (k.format.leastPlace + (e : Int) - b).toNat := by
    rw [h, hz, he, Nat.pow_add, Nat.mul_assoc]
  have h3 := nearest_mono k neg neg (mag := mag) (mag' := m) (place := place) (place' := k.format.leastPlace + (e : Int)) (b := b) hb (by omega) hbl (Nat.le_of_eq h2)
  have h4 := nearest_mono k neg neg (mag := m) (mag' := mag) (place := k.format.leastPlace + (e : Int)) (place' := place) (b := b) (by omega) hb hbl (Nat.le_of_eq h2.symm)
  rw [hN] at h3 h4
  omega
theorem sv_nearest (k : FloatKind) (neg : Bool) {mag r : Nat} {place : Int} (h : rung k (k.format.nearest neg mag place) = r) : sv k (k.format.nearest neg mag place) = sg neg (zv k r) := by
  unfold sv
  rw [sgn_nearest, h]
theorem sum_scaled (s t : Bool) (m n e f c : Nat) (h1 : c ≤ e) (h2 : c ≤ f) : (signed s m (e - c) + signed t n (f - c)) * (2 ^ c : Nat) = sg s (m * 2 ^ e) + sg t (n * 2 ^ f) := by
  have sgd : ∀ (s : Bool) (a u : Nat), signed s a u = sg s (a * 2 ^ u) := by intro s a u; simp only [signed, sg, Nat.shiftLeft_eq]
  rw [sgd, sgd, Int.add_mul, ← sg_mul, ← sg_mul, Nat.mul_assoc, Nat.mul_assoc, ← Nat.pow_add, ← Nat.pow_add, Nat.sub_add_cancel h1, Nat.sub_add_cancel h2]
/-- A SUM THAT THE FORMAT HAS -/
theorem add_exact (k : FloatKind) {x y r : Nat} (hx : Fin k x) (hy : Fin k y) (hr : r < k.format.infRung) (h : (sv k x + sv k y).natAbs = zv k r) :
    ∃ z, floatBits .add k x y = some z ∧ Fin k z ∧ sv k z = sv k x + sv k y := by
  obtain ⟨m, e, hm, hz⟩ := read_fin k hx
  obtain ⟨n, f, hn, hz2⟩ := read_fin k hy
  simp only [floatBits, Format.add, hm, hn, Datum.sum, Option.map_some]
  refine ⟨_, rfl, ?_⟩
  have e2 : min (k.format.leastPlace + (e : Int)) (k.format.leastPlace + (f : Int)) = k.format.leastPlace + ((min e f : Nat) : Int) := by omega
  rw [e2]
  have e3 : (k.format.leastPlace + (e : Int) - (k.format.leastPlace + ((min e f : Nat) : Int))).toNat = e - min e f := by omega
  have e4 : (k.format.leastPlace + (f : Int) - (k.format.leastPlace + ((min e f : Nat) : Int))).toNat = f - min e f := by omega
  rw [e3, e4]
  have hS := sum_scaled (sgn k x) (sgn k y) m n e f (min e f) (Nat.min_le_left ..) (Nat.min_le_right ..)
  rw [← hz, ← hz2] at hS
  change _ = sv k x + sv k y at hS
  generalize signed (sgn k x) m (e - min e f) + signed (sgn k y) n (f - min e f) = T at *
  generalize min e f = c at *
  have hpos : 0 < 2 ^ c := Nat.two_pow_pos c
  have hab : T.natAbs * 2 ^ c = zv k r := by rw [← h, ← hS, Int.natAbs_mul, Int.natAbs_natCast]
  have hrung := nearest_exact k (if T = 0 then sgn k x && sgn k y else decide (T < 0)) (mag := T.natAbs) (r := r) (place := k.format.leastPlace + (c : Int)) (b := k.format.leastPlace) hr (by omega) (Int.le_refl _) (by
    rw [show (k.format.leastPlace + (c : Int) - k.format.leastPlace).toNat = c by omega, show (k.format.leastPlace - k.format.leastPlace).toNat = 0 by omega, Nat.pow_zero, Nat.mul_one]; exact hab)
  show Fin k (k.format.nearest _ _ _) ∧ sv k (k.format.nearest _ _ _) = _
  refine ⟨by unfold Fin; rw [hrung]; exact hr, ?_⟩
  rw [sv_nearest k _ hrung, ← hS, ← hab]
  by_cases h0 : T = 0
  · subst h0
    rw [if_pos rfl]
    cases sgn k x && sgn k y <;> simp [sg]
  · rw [if_neg h0]
    by_cases h1 : T < 0
    · rw [decide_eq_true h1]
      simp only [sg, if_true]
      rw [Int.natCast_mul, ← Int.neg_mul]
      congr 1; omega
    · rw [decide_eq_false h1]
      simp only [sg, Bool.false_eq_true, if_false]
      rw [Int.natCast_mul]
      congr 1; omega
/-- A PRODUCT THAT THE FORMAT HAS (P: the least place) -/
theorem mul_exact (k : FloatKind) {x y r : Nat} (hx : Fin k x) (hy : Fin k y) (hr : r < k.format.infRung) (P : Nat) (hP : (P : Int) = -k.format.leastPlace) (h : (sv k x * sv k y).natAbs = zv k r * 2 ^ P) :
    ∃ z, floatBits .mul k x y = some z ∧ Fin k z ∧ sv k z * ((2 ^ P : Nat) : Int) = sv k x * sv k y := by
  obtain ⟨m, e, hm, hz⟩ := read_fin k hx
  obtain ⟨n, f, hn, hz2⟩ := read_fin k hy
  simp only [floatBits, Format.mul, hm, hn, Datum.product, Option.map_some]
  refine ⟨_, rfl, ?_⟩
  have hprod : (m * n) * 2 ^ (e + f) = zv k r * 2 ^ P := by
    rw [← h, Int.natAbs_mul, sv_abs, sv_abs, hz, hz2, Nat.pow_add]; ac_rfl
  have hrung := nearest_exact k (sgn k x ^^ sgn k y) (mag := m * n) (r := r) (place := k.format.leastPlace + (e : Int) + (k.format.leastPlace + (f : Int))) (b := k.format.leastPlace + k.format.leastPlace) hr (by omega) (by omega) (by
    rw [show (k.format.leastPlace + (e : Int) + (k.format.leastPlace + (f : Int)) - (k.format.leastPlace + k.format.leastPlace)).toNat = e + f by omega, show (k.format.leastPlace - (k.format.leastPlace + k.format.leastPlace)).toNat = P by omega]; exact hprod)
  show Fin k (k.format.nearest _ _ _) ∧ sv k (k.format.nearest _ _ _) * _ = _
  refine ⟨by unfold Fin; rw [hrung]; exact hr, ?_⟩
  rw [sv_nearest k _ hrung, ← sg_mul, ← hprod]
  unfold sv
  rw [← sg_xor, hz, hz2]
  congr 1
  rw [Nat.pow_add]; ac_rfl
theorem opp_neg (k : FloatKind) {y : Nat} (hy : Fin k y) (hl : y < 2 ^ k.format.width) : ∃ n e s, k.format.read y = .number s n e := by
  obtain ⟨n, f, hn, hz2⟩ := read_fin k hy
  exact ⟨_, _, _, hn⟩
/-- A DIFFERENCE THAT THE FORMAT HAS -/
theorem sub_exact (k : FloatKind) {x y r : Nat} (hx : Fin k x) (hy : Fin k y) (hr : r < k.format.infRung) (h : (sv k x - sv k y).natAbs = zv k r) :
    ∃ z, floatBits .sub k x y = some z ∧ Fin k z ∧ sv k z = sv k x - sv k y := by
  obtain ⟨m, e, hm, hz⟩ := read_fin k hx
  obtain ⟨n, f, hn, hz2⟩ := read_fin k hy
  simp only [floatBits, Format.sub, hm, hn, Datum.opposite, Datum.sum, Option.map_some]
  refine ⟨_, rfl, ?_⟩
  have e2 : min (k.format.leastPlace + (e : Int)) (k.format.leastPlace + (f : Int)) = k.format.leastPlace + ((min e f : Nat) : Int) := by omega
  rw [e2]
  have e3 : (k.format.leastPlace + (e : Int) - (k.format.leastPlace + ((min e f : Nat) : Int))).toNat = e - min e f := by omega
  have e4 : (k.format.leastPlace + (f : Int) - (k.format.leastPlace + ((min e f : Nat) : Int))).toNat = f - min e f := by omega
  rw [e3, e4]
  have hS := sum_scaled (sgn k x) (!(sgn k y)) m n e f (min e f) (Nat.min_le_left ..) (Nat.min_le_right ..)
  rw [← hz, ← hz2] at hS
  have hopp : sg (!(sgn k y)) (zv k (rung k y)) = - sv k y := by unfold sv; cases sgn k y <;> simp [sg]
  have hS : _ = sv k x - sv k y := hS.trans (by rw [hopp]; rfl)
  generalize signed (sgn k x) m (e - min e f) + signed (!(sgn k y)) n (f - min e f) = T at *
  generalize min e f = c at *
  have hpos : 0 < 2 ^ c := Nat.two_pow_pos c
  have hab : T.natAbs * 2 ^ c = zv k r := by rw [← h, ← hS, Int.natAbs_mul, Int.natAbs_natCast]
  have hrung := nearest_exact k (if T = 0 then sgn k x && !(sgn k y) else decide (T < 0)) (mag := T.natAbs) (r := r) (place := k.format.leastPlace + (c : Int)) (b := k.format.leastPlace) hr (by omega) (Int.le_refl _) (by
    rw [show (k.format.leastPlace + (c : Int) - k.format.leastPlace).toNat = c by omega, show (k.format.leastPlace - k.format.leastPlace).toNat = 0 by omega, Nat.pow_zero, Nat.mul_one]; exact hab)
  show Fin k (k.format.nearest _ _ _) ∧ sv k (k.format.nearest _ _ _) = _
  refine ⟨by unfold Fin; rw [hrung]; exact hr, ?_⟩
  rw [sv_nearest k _ hrung, ← hS, ← hab]
  by_cases h0 : T = 0
  · subst h0
    rw [if_pos rfl]
    cases sgn k x && !(sgn k y) <;> simp [sg]
  · rw [if_neg h0]
    by_cases h1 : T < 0
    · rw [decide_eq_true h1]
      simp only [sg, if_true]
      rw [Int.natCast_mul, ← Int.neg_mul]
      congr 1; omega
    · rw [decide_eq_false h1]
      simp only [sg, Bool.false_eq_true, if_false]
      rw [Int.natCast_mul]
      congr 1; omega
/-- what the format has: few digits, and not too great -/
theorem rep (k : FloatKind) {m e : Nat} (hm : m < 2 ^ (k.format.fractionBits + 1)) (he : (e + 2) * k.format.binade ≤ k.format.infRung) : ∃ r, r < k.format.infRung ∧ zv k r = m * 2 ^ e := by
  have hB : k.format.binade = 2 ^ k.format.fractionBits := rfl
  have hp := bin_pos k
  by_cases h0 : m = 0
  · subst h0; exact ⟨0, by have := bin_le k; omega, by rw [zv_zero, Nat.zero_mul]⟩
  · have hl1 : 2 ^ m.log2 ≤ m := Nat.log2_self_le h0
    have hl2 : m < 2 ^ (m.log2 + 1) := Nat.lt_log2_self
    have hl : m.log2 ≤ k.format.fractionBits := log2_lt hm
    generalize m.log2 = l at *
    by_cases hc : l + e < k.format.fractionBits
    · have h1 : m * 2 ^ e < k.format.binade := by
        rw [hB]
        calc m * 2 ^ e < 2 ^ (l + 1) * 2 ^ e := Nat.mul_lt_mul_of_pos_right hl2 (Nat.two_pow_pos _)
          _ = 2 ^ (l + 1 + e) := (Nat.pow_add ..).symm
          _ ≤ 2 ^ k.format.fractionBits := Nat.pow_le_pow_right (by omega) (by omega)
      refine ⟨m * 2 ^ e, by have := bin_le k; omega, ?_⟩
      unfold zv; rw [if_pos h1]
    · have k1 : k.format.binade ≤ m * 2 ^ (k.format.fractionBits - l) := by
        have := Nat.mul_le_mul_right (2 ^ (k.format.fractionBits - l)) hl1
        rw [← Nat.pow_add, show l + (k.format.fractionBits - l) = k.format.fractionBits by omega] at this
        exact this
      have k2 : m * 2 ^ (k.format.fractionBits - l) < 2 * k.format.binade := by
        have := Nat.mul_lt_mul_of_pos_right hl2 (Nat.two_pow_pos (k.format.fractionBits - l))
        rw [← Nat.pow_add, show l + 1 + (k.format.fractionBits - l) = k.format.fractionBits + 1 by omega, Nat.pow_succ, ← hB] at this
        omega
      have hK : m * 2 ^ (k.format.fractionBits - l) * 2 ^ (e - (k.format.fractionBits - l)) = m * 2 ^ e := by
        rw [Nat.mul_assoc, ← Nat.pow_add, show k.format.fractionBits - l + (e - (k.format.fractionBits - l)) = e by omega]
      generalize m * 2 ^ (k.format.fractionBits - l) = M at *
      generalize hE : e - (k.format.fractionBits - l) = E at *
      have hEe : E ≤ e := by omega
      refine ⟨(E + 1) * k.format.binade + (M - k.format.binade), ?_, ?_⟩
      · have h5 := Nat.mul_le_mul_right k.format.binade (show E + 2 ≤ e + 2 by omega)
        rw [show E + 2 = E + 1 + 1 from rfl, Nat.succ_mul] at h5
        omega
      · unfold zv
        rw [if_neg (by rw [Nat.succ_mul]; omega)]
        have hmod : ((E + 1) * k.format.binade + (M - k.format.binade)) % k.format.binade = M - k.format.binade := by
          rw [Nat.mul_comm, Nat.mul_add_mod, Nat.mod_eq_of_lt (by omega)]
        have hdiv : ((E + 1) * k.format.binade + (M - k.format.binade)) / k.format.binade = E + 1 := by
          rw [Nat.mul_comm, Nat.mul_add_div hp, Nat.div_eq_of_lt (by omega), Nat.add_zero]
        rw [hmod, hdiv, show k.format.binade + (M - k.format.binade) = M by omega, Nat.add_sub_cancel, hK]
end Fl
end Go.Proofs.Ytecgipilamefmaa

/- A float made whole, to the nearest even: it keeps to whole bounds. -/
set_option linter.unusedVariables false
set_option linter.unusedSimpArgs false
namespace Go.Proofs.Ytecgipilamefmaa
namespace Fl
open Ieee
/-- a 64-bit word rounded to a whole number -/
def rneW (x : Nat) : Nat := match FloatKind.f64.decode x with
  | .nan _ _ => x
  | d => FloatKind.f64.encode (d.integral .even)
def fd (c : Int) : Nat := floatOfInt .f64 c
theorem cutze (s : Bool) (n d : Nat) : Toward.zero.cut s n d ≤ n / 2 ^ d := by
  unfold Toward.cut
  dsimp only
  rw [Nat.shiftLeft_eq, Nat.one_mul]
  show n / 2 ^ min d (n.log2 + 2) + 0 ≤ _
  rcases Nat.le_total d (n.log2 + 2) with h1 | h1
  · rw [Nat.min_eq_left h1]; exact Nat.le_refl _
  · rw [Nat.min_eq_right h1, Nat.div_eq_of_lt (Nat.lt_trans Nat.lt_log2_self (Nat.pow_lt_pow_right (by decide) (by omega)))]
    exact Nat.zero_le _
/-- what lies within 2^20 goes into an integer -/
theorem toInt_some {y : Nat} (h : rung .f64 y ≤ 1043 * 4503599627370496) : ∃ v, floatToIntVal .f64 y .i64 = some v := by
  have hf : rung .f64 y < FloatKind.f64.format.infRung := Nat.lt_of_le_of_lt h (by decide)
  obtain ⟨m, e, hr, hz⟩ := read_fin .f64 hf
  obtain ⟨D, hD⟩ : ∃ D : Nat, D = 1074 := ⟨_, rfl⟩
  have h1 : zv .f64 (1043 * 4503599627370496) = 2 ^ 20 * 2 ^ D := by rw [hD]; decide +kernel
  have h2 : FloatKind.f64.format.leastPlace = -(D : Int) := by rw [hD]; decide
  have h3 : m * 2 ^ e ≤ 2 ^ 20 * 2 ^ D := by rw [← hz, ← h1]; exact (zv_le .f64).2 h
  clear hD h1
  have hd : FloatKind.f64.decode y = .number (sgn .f64 y) m (-(D : Int) + e) := by rw [← h2]; exact hr
  have hc : Toward.zero.cut (sgn .f64 y) (m <<< (-(D : Int) + e).toNat) (-(-(D : Int) + e)).toNat ≤ 1048576 := by
    refine Nat.le_trans (cutze _ _ _) ?_
    rw [Nat.shiftLeft_eq, Nat.div_le_iff_le_mul_add_pred (Nat.two_pow_pos _)]
    rcases Nat.le_total e D with h4 | h4
    · rw [show (-(D : Int) + e).toNat = 0 by omega, show (-(-(D : Int) + e)).toNat = D - e by omega, Nat.pow_zero, Nat.mul_one]
      have h5 : 2 ^ D = 2 ^ (D - e) * 2 ^ e := by rw [← Nat.pow_add]; congr 1; omega
      rw [h5, ← Nat.mul_assoc] at h3
      have := Nat.le_of_mul_le_mul_right h3 (Nat.two_pow_pos e)
      rw [Nat.mul_comm] at this
      exact Nat.le_trans this (Nat.le_add_right _ _)
    · rw [show (-(D : Int) + e).toNat = e - D by omega, show (-(-(D : Int) + e)).toNat = 0 by omega]
      have h5 : 2 ^ e = 2 ^ (e - D) * 2 ^ D := by rw [← Nat.pow_add]; congr 1; omega
      rw [h5, ← Nat.mul_assoc] at h3
      have := Nat.le_of_mul_le_mul_right h3 (Nat.two_pow_pos D)
      simp only [Nat.pow_zero, Nat.one_mul]
      omega
  have hi : ∃ v : Int, (Datum.number (sgn .f64 y) m (-(D : Int) + e)).toInt .zero = some v ∧ -1048576 ≤ v ∧ v ≤ 1048576 := by
    unfold Datum.toInt Datum.integral
    dsimp only
    generalize Toward.zero.cut (sgn .f64 y) (m <<< (-(D : Int) + e).toNat) (-(-(D : Int) + e)).toNat = c at *
    refine ⟨_, rfl, ?_, ?_⟩ <;> (unfold signed; rw [Nat.shiftLeft_zero]; split <;> omega)
  obtain ⟨v, hv, v1, v2⟩ := hi
  refine ⟨v, ?_⟩
  unfold floatToIntVal
  rw [hd, hv]
  dsimp only
  have r1 : IntKind.i64.min ≤ v := by show (-9223372036854775808 : Int) ≤ v; omega
  have r2 : v ≤ IntKind.i64.max := by show v ≤ (9223372036854775807 : Int); omega
  rw [if_pos ⟨r1, r2⟩]
theorem sgn_word0 (k : FloatKind) {r : Nat} (h : r ≤ k.format.infRung) : sgn k (k.format.word false r) = false := by
  have h1 := k.format.infRung_lt
  have e : k.format.word false r = r := by unfold Format.word; simp
  rw [e]
  unfold sgn
  rw [Nat.div_eq_of_lt (by omega)]
  rfl

theorem sgn_wordR (k : FloatKind) (s : Bool) {r : Nat} (h : r ≤ k.format.infRung) : sgn k (k.format.word s r) = s := by
  have h1 := k.format.infRung_lt
  have h0 := sw_pos k
  cases s
  · exact sgn_word0 k h
  · have e : k.format.word true r = k.format.signWeight + r := by unfold Format.word; simp
    rw [e]
    unfold sgn
    rw [Nat.add_div_left _ h0, Nat.div_eq_of_lt (by omega)]
    rfl
theorem sgn_nearR (k : FloatKind) (s : Bool) (mag : Nat) (place : Int) : sgn k (k.format.nearest s mag place) = s := by
  unfold Format.nearest
  dsimp only
  split
  · exact sgn_wordR k s (Nat.zero_le _)
  · exact sgn_wordR k s (Nat.min_le_right ..)
theorem rne_fin {x : Nat} (h : rung .f64 x < FloatKind.f64.format.infRung) (D : Nat) (hD : FloatKind.f64.format.leastPlace = -(D : Int)) : ∃ m e : Nat, zv .f64 (rung .f64 x) = m * 2 ^ e ∧
    rneW x = FloatKind.f64.format.nearest (sgn .f64 x) (Toward.even.cut (sgn .f64 x) (m * 2 ^ (e - D)) (D - e)) 0 := by
  obtain ⟨m, e, hr, hz⟩ := read_fin .f64 h
  refine ⟨m, e, hz, ?_⟩
  have hd : FloatKind.f64.decode x = .number (sgn .f64 x) m (-(D : Int) + e) := by rw [← hD]; exact hr
  unfold rneW
  rw [hd]
  dsimp only
  show FloatKind.f64.format.nearest _ _ _ = _
  rw [Nat.shiftLeft_eq, show (-(D : Int) + e).toNat = e - D by omega, show (-(-(D : Int) + e)).toNat = D - e by omega]
theorem rne_inf {x : Nat} (h : rung .f64 x = FloatKind.f64.format.infRung) : rneW x = FloatKind.f64.format.word (sgn .f64 x) FloatKind.f64.format.infRung := by
  have hd : FloatKind.f64.decode x = .infinity (sgn .f64 x) := read_inf .f64 h
  unfold rneW
  rw [hd]
  rfl
/-- c stands for the whole number C -/
def Whl (c C : Nat) : Prop := rung .f64 c = rung .f64 (FloatKind.f64.format.nearest false C 0) ∧ zv .f64 (rung .f64 c) = C * 2 ^ 1074
theorem rne_ge {x c C : Nat} (hx : rung .f64 x ≤ FloatKind.f64.format.infRung) (hc : Whl c C) (h : rung .f64 c ≤ rung .f64 x) : rung .f64 c ≤ rung .f64 (rneW x) := by
  obtain ⟨D, hD⟩ : ∃ D : Nat, D = 1074 := ⟨_, rfl⟩
  obtain ⟨hc1, hc2⟩ := hc
  rw [← hD] at hc2
  have h2 : FloatKind.f64.format.leastPlace = -(D : Int) := by rw [hD]; decide
  clear hD
  rcases Nat.lt_or_eq_of_le hx with h1 | h1
  · obtain ⟨m, e, hz, hr⟩ := rne_fin h1 D h2
    have h3 : C * 2 ^ D ≤ m * 2 ^ e := by rw [← hz, ← hc2]; exact (zv_le .f64).2 h
    rw [hr, hc1]
    refine nearest_mono .f64 _ _ (b := FloatKind.f64.format.leastPlace) (by have := lp_neg .f64; omega) (by have := lp_neg .f64; omega) (Int.le_refl _) (Nat.mul_le_mul_right _ ?_)
    have h4 := cut_mono false (sgn .f64 x) (n := C) (d := 0) (n' := m * 2 ^ (e - D)) (d' := D - e) (by
      rw [Nat.pow_zero, Nat.mul_one]
      rcases Nat.le_total e D with h4 | h4
      · rw [show e - D = 0 by omega, Nat.pow_zero, Nat.mul_one]
        have h5 : 2 ^ D = 2 ^ (D - e) * 2 ^ e := by rw [← Nat.pow_add]; congr 1; omega
        rw [h5, ← Nat.mul_assoc] at h3
        exact Nat.le_of_mul_le_mul_right h3 (Nat.two_pow_pos e)
      · rw [show D - e = 0 by omega, Nat.pow_zero, Nat.mul_one]
        have h5 : 2 ^ e = 2 ^ (e - D) * 2 ^ D := by rw [← Nat.pow_add]; congr 1; omega
        rw [h5, ← Nat.mul_assoc] at h3
        exact Nat.le_of_mul_le_mul_right h3 (Nat.two_pow_pos D))
    rw [cut_zero] at h4
    exact h4
  · rw [rne_inf h1]
    have h5 : rung .f64 (FloatKind.f64.format.word (sgn .f64 x) FloatKind.f64.format.infRung) = FloatKind.f64.format.infRung := by unfold rung; rw [word_rung_mod _ _ (Nat.le_refl _)]
    omega
theorem rne_le {x c C : Nat} (hx : rung .f64 x ≤ FloatKind.f64.format.infRung) (hc : Whl c C) (hcf : rung .f64 c < FloatKind.f64.format.infRung) (h : rung .f64 x ≤ rung .f64 c) : rung .f64 (rneW x) ≤ rung .f64 c := by
  obtain ⟨D, hD⟩ : ∃ D : Nat, D = 1074 := ⟨_, rfl⟩
  obtain ⟨hc1, hc2⟩ := hc
  rw [← hD] at hc2
  have h2 : FloatKind.f64.format.leastPlace = -(D : Int) := by rw [hD]; decide
  clear hD
  have h1 : rung .f64 x < FloatKind.f64.format.infRung := by omega
  obtain ⟨m, e, hz, hr⟩ := rne_fin h1 D h2
  have h3 : m * 2 ^ e ≤ C * 2 ^ D := by rw [← hz, ← hc2]; exact (zv_le .f64).2 h
  rw [hr, hc1]
  refine nearest_mono .f64 _ _ (b := FloatKind.f64.format.leastPlace) (by have := lp_neg .f64; omega) (by have := lp_neg .f64; omega) (Int.le_refl _) (Nat.mul_le_mul_right _ ?_)
  have h4 := cut_mono (sgn .f64 x) false (n := m * 2 ^ (e - D)) (d := D - e) (n' := C) (d' := 0) (by
    rw [Nat.pow_zero, Nat.mul_one]
    rcases Nat.le_total e D with h4 | h4
    · rw [show e - D = 0 by omega, Nat.pow_zero, Nat.mul_one]
      have h5 : 2 ^ D = 2 ^ (D - e) * 2 ^ e := by rw [← Nat.pow_add]; congr 1; omega
      rw [h5, ← Nat.mul_assoc] at h3
      exact Nat.le_of_mul_le_mul_right h3 (Nat.two_pow_pos e)
    · rw [show D - e = 0 by omega, Nat.pow_zero, Nat.mul_one]
      have h5 : 2 ^ e = 2 ^ (e - D) * 2 ^ D := by rw [← Nat.pow_add]; congr 1; omega
      rw [h5, ← Nat.mul_assoc] at h3
      exact Nat.le_of_mul_le_mul_right h3 (Nat.two_pow_pos D))
  rw [cut_zero] at h4
  exact h4
theorem rne_sgn {x : Nat} (hx : rung .f64 x ≤ FloatKind.f64.format.infRung) : sgn .f64 (rneW x) = sgn .f64 x := by
  rcases Nat.lt_or_eq_of_le hx with h1 | h1
  · obtain ⟨m, e, hz, hr⟩ := rne_fin h1 1074 (by decide)
    rw [hr]; exact sgn_nearR _ _ _ _
  · rw [rne_inf h1]; exact sgn_wordR _ _ (Nat.le_refl _)
theorem rne_fits {x : Nat} (hx : rung .f64 x ≤ FloatKind.f64.format.infRung) : rung .f64 (rneW x) ≤ FloatKind.f64.format.infRung ∧ rneW x < 2 ^ 64 := by
  rcases Nat.lt_or_eq_of_le hx with h1 | h1
  · obtain ⟨m, e, hz, hr⟩ := rne_fin h1 1074 (by decide)
    rw [hr]
    exact ⟨nearest_fin _ _ _ _, (fv_write .f64 (d := .number (sgn .f64 x) _ 0) rfl).1⟩
  · rw [rne_inf h1]
    refine ⟨?_, (fv_write .f64 (d := .infinity (sgn .f64 x)) rfl).1⟩
    unfold rung; rw [word_rung_mod _ _ (Nat.le_refl _)]; exact Nat.le_refl _
theorem ab_of_rung {x : Nat} (h : rung .f64 x ≤ FloatKind.f64.format.infRung) : ab .f64 x = some x := by
  unfold ab rung at *
  rw [if_neg (by omega)]
end Fl
end Go.Proofs.Ytecgipilamefmaa

/- Lists of int64 as a law holds them: copied, compared, marked. -/
set_option linter.unusedVariables false
set_option linter.unusedSimpArgs false
namespace Go.Proofs.Ytecgipilamefmaa
namespace Fl
def wi (xs : List Int) (j : Nat) : Int := xs.getD j 0
def iv (xs : List Int) (j : Nat) : Value := .int .i64 (wi xs j)
def mki (k n : Nat) : List Int := (List.range n).map fun j => ((k + j : Nat) : Int)
theorem mki_wi {k n j : Nat} (h : j < n) : wi (mki k n) j = ((k + j : Nat) : Int) := by unfold wi mki; simp [h]
theorem mki_len (k n : Nat) : (mki k n).length = n := by unfold mki; simp
def Is (w : World) (B : Nat) (A : Option Addr) (n : Nat) (xs : List Int) : Prop :=
  xs.length = n ∧ (0 < n → ∃ g off, A = some ⟨g, off, none⟩ ∧ g < B ∧ ∀ k, k < n → w.cell? ⟨g, off + k, none⟩ = some (iv xs k))

theorem Is.keep {w w' : World} {B : Nat} {A : Option Addr} {n : Nat} {xs : List Int} (h : Is w B A n xs) (hk : ∀ g o, g < B → w'.cell? ⟨g, o, none⟩ = w.cell? ⟨g, o, none⟩) : Is w' B A n xs :=
  ⟨h.1, fun hn => by
    obtain ⟨g, off, e, hg, hc⟩ := h.2 hn
    exact ⟨g, off, e, hg, fun k hk' => (hk g _ hg).trans (hc k hk')⟩⟩
theorem Is.more {w : World} {B B' : Nat} {A : Option Addr} {n : Nat} {xs : List Int} (h : Is w B A n xs) (hB : B ≤ B') : Is w B' A n xs :=
  ⟨h.1, fun hn => by
    obtain ⟨g, off, e, hg, hc⟩ := h.2 hn
    exact ⟨g, off, e, by omega, hc⟩⟩
theorem Is.since {w w' : World} {B : Nat} {A : Option Addr} {n : Nat} {xs : List Int} (h : Is w B A n xs) (hs : w.Since B w') : Is w' B A n xs :=
  h.keep fun g o hg => hs.cell (a := ⟨g, o, none⟩) hg
theorem Is.drewN {w : World} {B : Nat} {A : Option Addr} {n : Nat} {xs : List Int} (h : Is w B A n xs) (k : Nat) : Is (w.drewN k) B A n xs := h
theorem Is.now {w w1 : World} {A : Option Addr} {n : Nat} {xs : List Int} (h : Is w w.heap.size A n xs) (s : w.Since w.heap.size w1) : Is w1 w1.heap.size A n xs := (h.since s).more s.size
theorem Is.of_row {w : World} {g : Nat} {t : TypeId} {n : Nat} {xs : List Int} {B : Nat} (h : w.rowIs g t n (iv xs)) (hl : xs.length = n) (hg : g < B) : Is w B (some ⟨g, 0, none⟩) n xs :=
  ⟨hl, fun _ => ⟨g, 0, rfl, hg, fun k hk => by rw [Nat.zero_add]; exact h.cell hk⟩⟩

def IGs (T : TypeId) (w : World) (lo : Nat) (A : Option Addr) (n : Nat) (xs : List Int) : Prop :=
  xs.length = n ∧ (0 < n → ∃ g cs, A = some ⟨g, 0, none⟩ ∧ lo ≤ g ∧ w.heap[g]? = some (.cells cs T (0, 0)) ∧ ∀ k, k < n → cs[k]? = some (iv xs k))
section
variable {T : TypeId} {w w' : World} {lo n : Nat} {A : Option Addr} {xs : List Int}
theorem IGs.read (h : IGs T w lo A n xs) : Is w w.heap.size A n xs :=
  ⟨h.1, fun hn => by
    obtain ⟨g, cs, e, hg, hb, hc⟩ := h.2 hn
    refine ⟨g, 0, e, (Array.getElem?_eq_some_iff.1 hb).1, fun k hk => ?_⟩
    simp only [World.cell?, hb, Nat.zero_add]
    simpa using hc k hk⟩
theorem IGs.since (h : IGs T w lo A n xs) (hs : w.Since w.heap.size w') : IGs T w' lo A n xs :=
  ⟨h.1, fun hn => by
    obtain ⟨g, cs, e, hg, hb, hc⟩ := h.2 hn
    exact ⟨g, cs, e, hg, (hs.block g (Array.getElem?_eq_some_iff.1 hb).1).trans hb, hc⟩⟩
theorem IGs.drewN (h : IGs T w lo A n xs) (k : Nat) : IGs T (w.drewN k) lo A n xs := h
theorem IGs.less (h : IGs T w lo A n xs) {l : Nat} (hl : l ≤ lo) : IGs T w l A n xs :=
  ⟨h.1, fun hn => by
    obtain ⟨g, cs, e, hg, hb, hc⟩ := h.2 hn
    exact ⟨g, cs, e, by omega, hb, hc⟩⟩
theorem IGs.of_row {g : Nat} (h : w.rowIs g T n (iv xs)) (hl : xs.length = n) (hg : lo ≤ g) : IGs T w lo (some ⟨g, 0, none⟩) n xs :=
  ⟨hl, fun _ => by
    obtain ⟨cs, hb, _, hc⟩ := h
    exact ⟨g, cs, rfl, hg, hb, hc⟩⟩
theorem IGs.nil_ : IGs T w lo none 0 [] := ⟨rfl, (fun h => by omega)⟩
end
end Fl
open Fl Go.RowKit
theorem Try.infoI : (Try.prog.info? 2).map (fun i => (i.zero, i.size, i.bytes)) = some (some (.int .i64 0), 1, 8) := by kernel_rfl

def ipart (xs : List Int) (k j : Nat) : Value := if j < k then iv xs j else .int .i64 0

def imarked (k : Nat) (xs : List Int) (i j : Nat) : Value := if j < i then .int .i64 ((k + j : Nat) : Int) else iv xs j

end Go.Proofs.Ytecgipilamefmaa

/- Lists of any one-cell kind that a law holds, apart from one another. -/
set_option linter.unusedVariables false
set_option linter.unusedSimpArgs false
namespace Go.Proofs.Ytecgipilamefmaa
namespace Fl
/-- a list: its elements' type, where it lies, how many cells, its cells -/
structure Lx where
  T : TypeId
  A : Option Addr
  n : Nat
  f : Nat → Value
  ok : Prop
/-- it lies in a block of the law's own, from lo on -/
def Gx (w : World) (lo : Nat) (p : Lx) : Prop := p.ok ∧ (0 < p.n → ∃ g cs, p.A = some ⟨g, 0, none⟩ ∧ lo ≤ g ∧ w.heap[g]? = some (.cells cs p.T (0, 0)) ∧ ∀ k, k < p.n → cs[k]? = some (p.f k))
theorem Gx.since {w w' : World} {lo : Nat} {p : Lx} (h : Gx w lo p) (hs : w.Since w.heap.size w') : Gx w' lo p := ⟨h.1, fun hn => by
  obtain ⟨g, cs, e, hg, hb, hc⟩ := h.2 hn
  exact ⟨g, cs, e, hg, (hs.block g (Array.getElem?_eq_some_iff.1 hb).1).trans hb, hc⟩⟩
theorem Gx.less {w : World} {lo l : Nat} {p : Lx} (h : Gx w lo p) (hl : l ≤ lo) : Gx w l p := ⟨h.1, fun hn => by
  obtain ⟨g, cs, e, hg, hb, hc⟩ := h.2 hn
  exact ⟨g, cs, e, by omega, hb, hc⟩⟩
theorem Gx.block {w : World} {lo : Nat} {p : Lx} (h : Gx w lo p) (hn : 0 < p.n) : ∃ g, p.A = some ⟨g, 0, none⟩ ∧ lo ≤ g ∧ g < w.heap.size := by
  obtain ⟨g, cs, e, hg, hb, _⟩ := h.2 hn
  exact ⟨g, e, hg, (Array.getElem?_eq_some_iff.1 hb).1⟩
/-- lists of floats, of integers -/
def fx (A : Option Addr) (n : Nat) (xs : List Nat) : Lx := ⟨22, A, n, fv xs, xs.length = n ∧ Small xs⟩
def ix64 (A : Option Addr) (n : Nat) (xs : List Int) : Lx := ⟨2, A, n, iv xs, xs.length = n⟩
theorem Gs.toX {w : World} {lo n : Nat} {A : Option Addr} {xs : List Nat} (h : Gs 22 w lo A n xs) : Gx w lo (fx A n xs) := ⟨⟨h.1, h.2.1⟩, h.2.2⟩
theorem Gx.toF {w : World} {lo n : Nat} {A : Option Addr} {xs : List Nat} (h : Gx w lo (fx A n xs)) : Gs 22 w lo A n xs := ⟨h.1.1, h.1.2, h.2⟩
theorem IGs.toX {w : World} {lo n : Nat} {A : Option Addr} {xs : List Int} (h : IGs 2 w lo A n xs) : Gx w lo (ix64 A n xs) := h
theorem Gx.toI {w : World} {lo n : Nat} {A : Option Addr} {xs : List Int} (h : Gx w lo (ix64 A n xs)) : IGs 2 w lo A n xs := h
/-- two lists with something in them lie in two blocks -/
def Dx (p q : Lx) : Prop := 0 < p.n → 0 < q.n → ∀ g o s o' s', p.A = some ⟨g, o, s⟩ → q.A = some ⟨g, o', s'⟩ → False
theorem Dx.symm {p q : Lx} (h : Dx p q) : Dx q p := fun a b g o s o' s' e e' => h b a g o' s' o s e' e
def Hx (B : Nat) (v : World) : List Lx → Prop
  | [] => True
  | p :: r => (Gx v B p ∧ ∀ q ∈ r, Dx p q) ∧ Hx B v r
section
variable {B : Nat} {v v' : World} {p q : Lx} {r : List Lx}
theorem Hx.at_ : ∀ {r : List Lx} (h : Hx B v r) {p : Lx}, p ∈ r → Gx v B p
  | _ :: _, h, _, .head _ => h.1.1
  | _ :: _, h, _, .tail _ hp => Hx.at_ h.2 hp
theorem Hx.since : ∀ {r : List Lx} (h : Hx B v r) (hs : v.Since v.heap.size v'), Hx B v' r
  | [], _, _ => trivial
  | _ :: _, h, hs => ⟨⟨h.1.1.since hs, h.1.2⟩, Hx.since h.2 hs⟩
theorem Hx.new (h : Hx B v r) (hs : v.Since v.heap.size v') (g : Gx v' v.heap.size p) (hB : B ≤ v.heap.size) : Hx B v' (p :: r) :=
  ⟨⟨g.less hB, fun q hq a b c o s o' s' e e' => by
    obtain ⟨g1, e1, h1, h2⟩ := g.block a
    obtain ⟨g2, e2, h3, h4⟩ := (h.at_ hq).block b
    rw [e1] at e; rw [e2] at e'
    injection e with e; injection e with e _ _
    injection e' with e'; injection e' with e' _ _
    omega⟩, h.since hs⟩
theorem Hx.new2 (h : Hx B v r) (hs : v.Since v.heap.size v') (g : Gx v' v.heap.size p) (k : Gx v' v.heap.size q) (hd : Dx p q) (hB : B ≤ v.heap.size) : Hx B v' (p :: q :: r) := by
  have h1 := h.new hs g hB
  have h2 := h.new hs k hB
  refine ⟨⟨h1.1.1, fun s hs => ?_⟩, h2⟩
  rcases List.mem_cons.1 hs with rfl | hs
  · exact hd
  · exact h1.1.2 s hs
/-- what a mark leaves: this list's cells, all else as it was -/
theorem Hx.mark_hd {p' : Lx} (h : Hx B v (p :: r)) (g : Gx v' B p') (hA : p'.A = p.A) (hN : p'.n = p.n) (ho : ∀ g, (0 < p.n → ∀ g', p.A = some ⟨g', 0, none⟩ → g ≠ g') → v'.heap[g]? = v.heap[g]?) : Hx B v' (p' :: r) := by
  refine ⟨⟨g, fun q hq a b g o s o' s' e e' => h.1.2 q hq (hN ▸ a) b g o s o' s' (hA ▸ e) e'⟩, ?_⟩
  have hd := h.1.2
  have ht := h.2
  clear h
  induction r with
  | nil => trivial
  | cons q r ih =>
    refine ⟨⟨?_, ht.1.2⟩, ih (fun q' hq' => hd q' (.tail _ hq')) ht.2⟩
    have hq := ht.1.1
    refine ⟨hq.1, fun hn => ?_⟩
    obtain ⟨b, cs, e, hb, hh, hc⟩ := hq.2 hn
    refine ⟨b, cs, e, hb, (ho b fun hp g' e' he => ?_).trans hh, hc⟩
    subst he
    exact hd q (.head _) hp hn b 0 none 0 none e' e
theorem Hx.swap (h : Hx B v (p :: q :: r)) : Hx B v (q :: p :: r) := by
  obtain ⟨⟨h1, h2⟩, ⟨h3, h4⟩, h5⟩ := h
  refine ⟨⟨h3, fun s hs => ?_⟩, ⟨h1, fun s hs => h2 s (.tail _ hs)⟩, h5⟩
  rcases List.mem_cons.1 hs with rfl | hs
  · exact (h2 q (.head _)).symm
  · exact h4 s hs
theorem Hx.front {l : List Lx} : ∀ (k : List Lx), Hx B v (k ++ p :: l) → Hx B v (p :: (k ++ l))
  | [], h => h
  | q :: k, h => by
    have h2 : Hx B v (p :: (k ++ l)) := Hx.front k h.2
    have h3 : Hx B v (q :: p :: (k ++ l)) := ⟨⟨h.1.1, fun s hs => h.1.2 s (by
      rcases List.mem_cons.1 hs with rfl | hs
      · simp
      · rcases List.mem_append.1 hs with h4 | h4
        · simp [h4]
        · simp [h4])⟩, h2⟩
    exact h3.swap
end
end Fl
open Fl Go.RowKit
end Go.Proofs.Ytecgipilamefmaa

/- Dynamics: the gate. -/
set_option linter.unusedVariables false
set_option linter.unusedSimpArgs false
namespace Go.Proofs.Ytecgipilamefmaa
open Fl Go.RowKit
/-- what the closure of a gate finds in its boxes -/
structure GateI (b t : Nat) (hold H : Int) (W : World) : Prop where
  lt : b + 1 + 1 < W.heap.size
  t : W.cell? ⟨b, 0, none⟩ = some (.float .f32 t)
  ho : W.cell? ⟨b + 1, 0, none⟩ = some (.int .i64 hold)
  he : W.heap[b + 1 + 1]? = some (.cells #[.int .i64 H] 2 (0, 0))
theorem GateI.of {b t : Nat} {hold H : Int} {W W' : World} (h : GateI b t hold H W) (hs : W.heap.size ≤ W'.heap.size) (e : ∀ i, i ≤ b + 1 + 1 → W'.heap[i]? = W.heap[i]?) : GateI b t hold H W' :=
  ⟨Nat.lt_of_lt_of_le h.lt hs, (cell_of_block (e _ (by omega)) _).trans h.t, (cell_of_block (e _ (by omega)) _).trans h.ho, (e _ (by omega)).trans h.he⟩
theorem GateI.set {b t : Nat} {hold H H' : Int} {W : World} (h : GateI b t hold H W) : GateI b t hold H' (W.setCell ⟨b + 1 + 1, 0, none⟩ (.int .i64 H')) :=
  ⟨by rw [Go.Deep.nblk_setCell]; exact h.lt, (cell_of_block (Go.Deep.blk_setCell_other _ _ _ _ (show b ≠ b + 1 + 1 by omega)) _).trans h.t, (cell_of_block (Go.Deep.blk_setCell_other _ _ _ _ (show b + 1 ≠ b + 1 + 1 by omega)) _).trans h.ho, by
    simp [World.setCell, Array.getElem?_modify, h.he]⟩
end Go.Proofs.Ytecgipilamefmaa

/- Dynamics: a follower's step, both sides. -/
set_option linter.unusedVariables false
set_option linter.unusedSimpArgs false
namespace Go.Proofs.Ytecgipilamefmaa
open Fl Go.RowKit
/-- a follower's three words lie in block g from place o on -/
structure FolAt (w : World) (g : Nat) (a r l : Nat) : Prop where
  lt : g < w.heap.size
  a : w.cell? ⟨g, 0, none⟩ = some (.float .f32 a)
  r : w.cell? ⟨g, 1, none⟩ = some (.float .f32 r)
  l : w.cell? ⟨g, 2, none⟩ = some (.float .f32 l)
theorem FolAt.of {w w' : World} {g a r l : Nat} (h : FolAt w g a r l) (hs : w.heap.size ≤ w'.heap.size) (e : w'.heap[g]? = w.heap[g]?) : FolAt w' g a r l :=
  ⟨Nat.lt_of_lt_of_le h.lt hs, (cell_of_block e _).trans h.a, (cell_of_block e _).trans h.r, (cell_of_block e _).trans h.l⟩
theorem flushH {x : Nat} {F : O} (h : Hid (Fv .f32 x F)) : Hid (Fv .f32 (flushN x) (F.map flushN)) := Lib.hid (flushN_fv h.out)
/-- a level behind a sample -/
def folO (A R L X : O) : O := (ad L (mu (if gtO (sizeO X) L then A else R) (su (sizeO X) L))).map flushN
end Go.Proofs.Ytecgipilamefmaa

/- Dynamics: levels, the model's. -/
set_option linter.unusedVariables false
set_option linter.unusedSimpArgs false
namespace Go.Proofs.Ytecgipilamefmaa
namespace Lo
open Fl Ieee
section
variable {P : Program} {ops : Array Oper} {rest : List Oper} {o : Oper} {a : Act} {Q : Act → Prop} {ds : List Nat}
theorem keeps (ts : List Nat) (vs : List Value) (hv : ts.map (fun t => a.tmps.getD t undef) = vs) (ht : ts.all (fun t => !ds.contains t) = true) (b : Act) (h : AR (fun i => ds.contains i) a b) : (ts.map Operand.tmp).map b.eval = vs := by
  subst hv
  rw [List.map_map]
  refine List.map_congr_left fun t hm => ?_
  have h1 := List.all_eq_true.1 ht t hm
  exact (h.2.2 t).2 (by simpa using h1)
/-- a call of a Go function, of nothing that the statement computes, which gives a float -/
theorem wpL_callF {w : World} (hg : o.guard = none) (f : FuncId) (ys : List Operand) (vs : List Value) (tys : Array TypeId) (hop : o.op = Op.call ⟨.value (.func f), ys.toArray, tys⟩) (hd : ∀ d, o.dst = some d → ds.contains d = true)
    (henter : ∀ args w2, (callFunc f args).run P w2 = .ok (.enter f args) w2)
    (k2 : FloatKind) (F : Option Nat) (hys : ∀ b, AR (fun i => ds.contains i) a b → ys.map b.eval = vs)
    (hc : ∀ m, Calls P f vs.toArray (w.drewN m) fun e w2 => ∃ r n, e = .returned (.float k2 r) ∧ Fv k2 r F ∧ w2 = w.drewN n)
    (hex : ∃ r, Fv k2 r F)
    (hK : ∀ r, RowKit.Hid (Fv k2 r F) → wpL P ops (fun v => ∃ n, v = w.drewN n) (fun i => ds.contains i) Q rest (a.put o.dst (.float k2 r))) :
    wpL P ops (fun v => ∃ n, v = w.drewN n) (fun i => ds.contains i) Q (o :: rest) a := by
  obtain ⟨r, hr⟩ := hex
  refine wpL_of_loose hg (fun b hab w2 hw => ?_) (hK r hr)
  have e : (execOp b.eval o).run P w2 = .ok (.enter f vs.toArray) w2 := by
    have h1 := hys b hab
    have ef : b.eval (.func f) = .func (.func f) #[] #[] := rfl
    simp [execOp, hop, resolve, ef, h1, invoke, Deferred.ofValue, henter, Result.andThen]
  rw [e]
  obtain ⟨m, rfl⟩ := hw
  refine ⟨⟨m, rfl⟩, (hc m).mono fun e2 w3 ⟨r2, n, he, hr2, hw3⟩ => ⟨_, he, ⟨.inr ⟨k2, r, r2, rfl, rfl, hr.1, hr2.1, by rw [hr.2, hr2.2]⟩, fun d hd2 hf2 => by have := hd d hd2; simp_all⟩, n, hw3⟩⟩
end
end Lo
open Fl Go.RowKit
theorem FolAt.drewN {w : World} {g a r l : Nat} (h : FolAt w g a r l) (m : Nat) : FolAt (w.drewN m) g a r l := ⟨h.lt, h.a, h.r, h.l⟩
theorem _root_.Go.Proofs.Ytecgipilamefmaa.Fl.Gs.onLow {T : TypeId} {w w' : World} {lo n g : Nat} {A : Option Addr} {xs : List Nat} (h : Gs T w lo A n xs) (o : On g w w') (hd : g < lo) : Gs T w' lo A n xs :=
  ⟨h.1, h.2.1, fun hn => by
    obtain ⟨b, cs, e, hb, hh, hc⟩ := h.2.2 hn
    exact ⟨b, cs, e, hb, (o.2 b (Array.getElem?_eq_some_iff.1 hh).1 (by omega)).trans hh, hc⟩⟩
theorem blk_keep {w : World} {b : Nat} (o : Obj) (h : b < w.heap.size) : (w.alloc o).heap[b]? = w.heap[b]? := ((World.Since.refl w.heap.size w).alloc (Nat.le_refl _) o).block b h
structure FolN where
  a : Nat
  r : Nat
  l : Nat
structure Fol where
  a : O
  r : O
  l : O
def FolN.val (d : FolN) : Value := .agg #[.float .f32 d.a, .float .f32 d.r, .float .f32 d.l]
structure FvFol (d : FolN) (D : Fol) : Prop where
  a : Hid (Fv .f32 d.a D.a)
  r : Hid (Fv .f32 d.r D.r)
  l : Hid (Fv .f32 d.l D.l)
def PLFB (n0 : Nat) (f0 : Nat → Option Nat) (S : Fol) (b : Bool) (w : World) (e : Ending) (w' : World) : Prop :=
  ∃ (p : Ls) (c : Nat) (s : FolN), e = .returned (.tuple #[.slice p.A p.n c, s.val, .bool b]) ∧ p.n = n0 ∧ Gs 22 w' w.heap.size p.A p.n p.xs ∧ Are p f0 ∧ FvFol s S ∧ w.Since w.heap.size w'
def levO (D : Fol) (X : Nat → O) : Nat → O
  | 0 => D.l
  | k + 1 => folO D.a D.r (levO D X k) (X k)
theorem folO_ex {A R L X : O} {a r l x : Nat} (ha : Hid (Fv .f32 a A)) (hr : Hid (Fv .f32 r R)) (hl : Hid (Fv .f32 l L)) (hx : Hid (Fv .f32 x X)) : ∃ q, Fv .f32 q (folO A R L X) := by
  unfold folO
  obtain ⟨d, hd⟩ := Lo.fv_ex (op := .sub) rfl .f32 _ _ _ _ (sizeN_fv hx).out hl.out
  cases gtO (sizeO X) L
  · obtain ⟨p, hp⟩ := Lo.fv_ex (op := .mul) rfl .f32 _ _ _ _ hr.out hd
    obtain ⟨s, hs⟩ := Lo.fv_ex (op := .add) rfl .f32 _ _ _ _ hl.out hp
    exact ⟨_, flushN_fv hs⟩
  · obtain ⟨p, hp⟩ := Lo.fv_ex (op := .mul) rfl .f32 _ _ _ _ ha.out hd
    obtain ⟨s, hs⟩ := Lo.fv_ex (op := .add) rfl .f32 _ _ _ _ hl.out hp
    exact ⟨_, flushN_fv hs⟩
end Go.Proofs.Ytecgipilamefmaa

/- Dynamics: levels, the program's. -/
set_option linter.unusedVariables false
set_option linter.unusedSimpArgs false
namespace Go.Proofs.Ytecgipilamefmaa
open Fl Go.RowKit
end Go.Proofs.Ytecgipilamefmaa

/- Lists of any kind that a law holds: compared and held; structs in boxes of a law. -/
set_option linter.unusedVariables false
set_option linter.unusedSimpArgs false
namespace Go.Proofs.Ytecgipilamefmaa
open Fl Go.RowKit
theorem Fl.Gx.readF {w : World} {lo n : Nat} {A : Option Addr} {xs : List Nat} (h : Gx w lo (fx A n xs)) : Fs w w.heap.size A n xs := h.toF.read
/-- a struct of floats in a box of its own -/
def bx (T : TypeId) (g : Nat) (xs : List Nat) : Lx := ⟨T, some ⟨g, 0, none⟩, xs.length, fv xs, True⟩
theorem Fl.Gx.box {w : World} {T : TypeId} {lo g : Nat} {xs : List Nat} (h : Gx w lo (bx T g xs)) (i : Nat) (hi : i < xs.length) : w.cell? ⟨g, i, none⟩ = some (.float .f32 (wd xs i)) := by
  obtain ⟨g', cs, e, hg, hb, hc⟩ := h.2 (by show 0 < xs.length; omega)
  injection e with e; injection e with e _ _; subst e
  have h1 := hc i hi
  simp only [World.cell?, hb]
  simpa [bx, fv] using h1
theorem cells3 {w : World} {T : TypeId} {g : Nat} {x y z a r l : Value} (h : w.heap[g]? = some (.cells #[x, y, z] T (0, 0))) : (((w.setCell ⟨g, 0, none⟩ a).setCell ⟨g, 1, none⟩ r).setCell ⟨g, 2, none⟩ l).heap[g]? = some (.cells #[a, r, l] T (0, 0)) := by
  simp [World.setCell, Array.getElem?_modify, h]
theorem cells5 {w : World} {T : TypeId} {g : Nat} {x0 x1 x2 x3 x4 a b c d e : Value} (h : w.heap[g]? = some (.cells #[x0, x1, x2, x3, x4] T (0, 0))) : (((((w.setCell ⟨g, 0, none⟩ a).setCell ⟨g, 1, none⟩ b).setCell ⟨g, 2, none⟩ c).setCell ⟨g, 3, none⟩ d).setCell ⟨g, 4, none⟩ e).heap[g]? = some (.cells #[a, b, c, d, e] T (0, 0)) := by
  simp [World.setCell, Array.getElem?_modify, h]
/-- a box made and filled with three floats -/
theorem box3 (v : World) (T : TypeId) (a b c : Nat) (z : Value) : ∃ V, V = (((v.alloc (.cells #[z, z, z] T)).setCell ⟨v.heap.size, 0, none⟩ (.float .f32 a)).setCell ⟨v.heap.size, 1, none⟩ (.float .f32 b)).setCell ⟨v.heap.size, 2, none⟩ (.float .f32 c) ∧ v.Since v.heap.size V ∧ Gx V v.heap.size (bx T v.heap.size [a, b, c]) := by
  refine ⟨_, rfl, ((((World.Since.refl _ _).alloc (Nat.le_refl _) _).setCell (Nat.le_refl _) _).setCell (Nat.le_refl _) _).setCell (Nat.le_refl _) _, trivial, fun _ => ⟨v.heap.size, #[.float .f32 a, .float .f32 b, .float .f32 c], rfl, Nat.le_refl _, ?_, fun k hk => ?_⟩⟩
  · exact cells3 (Go.Deep.blk_alloc_new v (.cells #[z, z, z] T))
  · simp only [bx, List.length_cons, List.length_nil] at hk
    match k, hk with
    | 0, _ => rfl
    | 1, _ => rfl
    | 2, _ => rfl
theorem box5 (v : World) (T : TypeId) (a b c d e : Nat) (z : Value) : ∃ V, V = (((((v.alloc (.cells #[z, z, z, z, z] T)).setCell ⟨v.heap.size, 0, none⟩ (.float .f32 a)).setCell ⟨v.heap.size, 1, none⟩ (.float .f32 b)).setCell ⟨v.heap.size, 2, none⟩ (.float .f32 c)).setCell ⟨v.heap.size, 3, none⟩ (.float .f32 d)).setCell ⟨v.heap.size, 4, none⟩ (.float .f32 e) ∧ v.Since v.heap.size V ∧ Gx V v.heap.size (bx T v.heap.size [a, b, c, d, e]) := by
  refine ⟨_, rfl, ((((((World.Since.refl _ _).alloc (Nat.le_refl _) _).setCell (Nat.le_refl _) _).setCell (Nat.le_refl _) _).setCell (Nat.le_refl _) _).setCell (Nat.le_refl _) _).setCell (Nat.le_refl _) _, trivial, fun _ => ⟨v.heap.size, #[.float .f32 a, .float .f32 b, .float .f32 c, .float .f32 d, .float .f32 e], rfl, Nat.le_refl _, ?_, fun k hk => ?_⟩⟩
  · exact cells5 (Go.Deep.blk_alloc_new v (.cells #[z, z, z, z, z] T))
  · simp only [bx, List.length_cons, List.length_nil] at hk
    match k, hk with
    | 0, _ => rfl
    | 1, _ => rfl
    | 2, _ => rfl
    | 3, _ => rfl
    | 4, _ => rfl
/-- a box made with its floats in it -/
theorem boxa (v : World) (T : TypeId) (xs : List Nat) : ∃ V, V = v.alloc (.cells (xs.map fun x => Value.float .f32 x).toArray T) ∧ v.Since v.heap.size V ∧ Gx V v.heap.size (bx T v.heap.size xs) :=
  ⟨_, rfl, (World.Since.refl _ _).alloc (Nat.le_refl _) _, trivial, fun _ => ⟨v.heap.size, _, rfl, Nat.le_refl _, Go.Deep.blk_alloc_new _ _, fun k hk => by
    simp only [bx] at hk ⊢
    unfold fv wd
    simp [hk]⟩⟩
/-! followers as a law holds them -/
def zFol : Fol := ⟨some 0, some 0, some 0⟩
theorem PLFB.none_ {w w' : World} (s : w.Since w.heap.size w') (f0 : Nat → Option Nat) : PLFB 0 f0 zFol false w (.returned (.tuple #[.slice none 0 0, .agg #[.float .f32 0, .float .f32 0, .float .f32 0], .bool false])) w' :=
  ⟨⟨none, 0, []⟩, 0, ⟨0, 0, 0⟩, rfl, rfl, Gs.nil_, (fun k hk => by simp at hk), ⟨fv0, fv0, fv0⟩, s⟩
end Go.Proofs.Ytecgipilamefmaa

/- Lists of int64 that functions give: contracts, looked at, held; rows of integers that a loop appends to. -/
set_option linter.unusedVariables false
set_option linter.unusedSimpArgs false
namespace Go.Proofs.Ytecgipilamefmaa
open Fl Go.RowKit
namespace Fl
/-- a list of integers: where it lies, how long, its numbers -/
structure Li where
  A : Option Addr
  n : Nat
  xs : List Int
end Fl
theorem Fl.Gx.readI {w : World} {lo n : Nat} {A : Option Addr} {xs : List Int} (h : Gx w lo (ix64 A n xs)) : Is w w.heap.size A n xs := h.toI.read
def PJB (n0 : Nat) (f0 : List Int) (b : Bool) (w : World) (e : Ending) (w' : World) : Prop :=
  ∃ (p : Li) (c : Nat), e = .returned (.tuple #[.slice p.A p.n c, .bool b]) ∧ p.n = n0 ∧ IGs 2 w' w.heap.size p.A p.n p.xs ∧ p.xs = f0 ∧ w.Since w.heap.size w'
theorem PJB.none_ {w w' : World} (s : w.Since w.heap.size w') : PJB 0 [] false w (.returned (.tuple #[.slice none 0 0, .bool false])) w' :=
  ⟨⟨none, 0, []⟩, 0, rfl, rfl, IGs.nil_, rfl, s⟩
def PJVB (n0 : Nat) (f0 : List Int) (o : O) (b : Bool) (w : World) (e : Ending) (w' : World) : Prop :=
  ∃ (p : Li) (c r : Nat), e = .returned (.tuple #[.slice p.A p.n c, .float .f32 r, .bool b]) ∧ p.n = n0 ∧ IGs 2 w' w.heap.size p.A p.n p.xs ∧ p.xs = f0 ∧ Hid (Fv .f32 r o) ∧ w.Since w.heap.size w'
/-! rows of integers that a loop appends to -/
namespace Fl
def ivl (os : List Int) : List Value := os.map fun x => Value.int .i64 x
theorem ivl_snoc (xs : List Int) (x : Int) : ivl xs ++ [Value.int .i64 x] = ivl (xs ++ [x]) := by unfold ivl; simp
theorem IGs.of_own {w : World} {lo n c : Nat} {A : Option Addr} {xs : List Int} (h : w.ownsRow lo 2 1 (.slice A n c) n (ivl xs)) : IGs 2 w lo A n xs := by
  have hl : xs.length = n := by simpa [ivl] using h.1
  refine ⟨hl, fun hn => ?_⟩
  rcases h.2 with ⟨hv, h0⟩ | ⟨g, cap, cur, hv, hg, hb, hnc, _, hsz, htk⟩
  · omega
  · injection hv with h1 _ _
    subst h1
    refine ⟨g, cur, rfl, hg, hb, fun k hk => ?_⟩
    have e1 : (cur.toList.take (n * 1))[k]? = (ivl xs)[k]? := by rw [htk]
    rw [List.getElem?_take_of_lt (by omega)] at e1
    rw [Array.getElem?_toList] at e1
    rw [e1]
    unfold ivl iv wi
    simp [List.getD_eq_getElem?_getD, List.getElem?_eq_getElem (show k < xs.length by omega)]
end Fl
/-- v is a row of the loop's own, from block lo on, whose numbers are these -/
def RwI (lo : Nat) (w : World) (v : Value) (os : List Int) : Prop := w.ownsRow lo 2 1 v os.length (ivl os)
theorem RwI.start (w : World) (lo : Nat) (h : lo ≤ w.heap.size) : RwI lo (w.alloc (.cells #[] 2)) (.slice (some ⟨w.heap.size, 0, none⟩) 0 0) [] :=
  ⟨rfl, .inr ⟨w.heap.size, 0, #[], rfl, h, Go.Deep.blk_alloc_new _ _, Nat.le_refl _, Nat.zero_le _, rfl, rfl⟩⟩
theorem RwI.keep {lo : Nat} {w w' : World} {v : Value} {os : List Int} (h : RwI lo w v os) (e : ∀ b, lo ≤ b → b < w.heap.size → w'.heap[b]? = w.heap[b]?) : RwI lo w' v os := by
  obtain ⟨h1, h2⟩ := h
  refine ⟨h1, ?_⟩
  rcases h2 with h2 | ⟨g, cap, cur, e1, h3, h4, r⟩
  · exact .inl h2
  · exact .inr ⟨g, cap, cur, e1, h3, (e g h3 (Array.getElem?_eq_some_iff.1 h4).1).trans h4, r⟩
theorem RwI.since {lo : Nat} {w w' : World} {v : Value} {os : List Int} (h : RwI lo w v os) (s : w.Since w.heap.size w') : RwI lo w' v os := h.keep fun b _ hb => s.block b hb
theorem RwI.drewN {lo : Nat} {w : World} {v : Value} {os : List Int} (h : RwI lo w v os) (n : Nat) : RwI lo (w.drewN n) v os := h
theorem RwI.alloc {lo : Nat} {w : World} {v : Value} {os : List Int} (h : RwI lo w v os) (o : Obj) : RwI lo (w.alloc o) v os := h.since ((World.Since.refl _ _).alloc (Nat.le_refl _) _)
theorem RwI.done {lo : Nat} {w : World} {v : Value} {os : List Int} (h : RwI lo w v os) : ∃ (p : Li) (c : Nat), v = .slice p.A p.n c ∧ p.n = os.length ∧ IGs 2 w lo p.A p.n p.xs ∧ p.xs = os := by
  have hf' : v = .slice none 0 0 ∧ os.length = 0 ∨ ∃ g cap, v = .slice (some ⟨g, 0, none⟩) os.length cap := by
    rcases h.2 with h2 | ⟨g, cap, cur, e, _⟩
    · exact .inl h2
    · exact .inr ⟨g, cap, e⟩
  rcases hf' with ⟨rfl, h0⟩ | ⟨g, cap, rfl⟩
  · obtain rfl : os = [] := List.eq_nil_of_length_eq_zero h0
    exact ⟨⟨none, 0, []⟩, 0, rfl, rfl, IGs.nil_, rfl⟩
  · exact ⟨⟨some ⟨g, 0, none⟩, os.length, os⟩, cap, rfl, rfl, IGs.of_own h, rfl⟩
theorem wpList_app1I {ops : Array Oper} {rest : List Oper} {o : Oper} {a : Act} {Q : Exit → Act → World → Prop} {w : World} (hgd : o.guard = none) (s x : Operand)
    (ho : o.op = .call { callee := .builtin .append, args := #[s, x], argTypes := #[38, 38] }) (lo : Nat) (v : Value) (os : List Int) (hs : a.eval s = v) (b : Nat) (r : Int)
    (hx : a.eval x = .slice (some ⟨b, 0, none⟩) 1 1) (hc : w.cell? ⟨b, 0, none⟩ = some (.int .i64 r)) (hk : os.length < 1048576) (hlo : lo ≤ w.heap.size) (hR : RwI lo w v os)
    (h : ∀ v' w', Hid (RwI lo w' v' (os ++ [r])) → Hid (w.Since lo w') → wpList Try.prog ops Q rest (a.put o.dst v') w') : wpList Try.prog ops Q (o :: rest) a w := by
  have h1 := hR
  obtain ⟨i0, hi, hz0, hz1, hz2⟩ := info_parts Try.infoI
  refine wpList_append_own (P := Try.prog) w hgd s x 38 ho lo 2 i0 (.int .i64 0) 1 8 Try.underlying38 hi hz0 hz1 hz2 rfl (by omega) v os.length (ivl os) hs h1 ⟨b, 0, none⟩ 1 1 [.int .i64 r] hx rfl ?_ ?_ ?_ ?_ hlo ?_
  · intro j u hj
    rcases j with _ | j
    · simp at hj; subst hj; simpa [Addr.add] using hc
    · simp at hj
  · intro u hu; simp at hu; subst hu; rfl
  · unfold maxLen; omega
  · omega
  · intro v' w' hown hg _
    refine h v' w' (Lib.hid ?_) (Lib.hid ⟨hg.os, hg.tape, hg.output, hg.size, fun i hi => ?_⟩)
    · show w'.ownsRow lo 2 1 v' (os ++ [r]).length (ivl (os ++ [r]))
      rw [← ivl_snoc, List.length_append]; exact hown
    · refine hg.block i (by omega) fun e => ?_
      have := own_lo h1 i e.symm
      omega
end Go.Proofs.Ytecgipilamefmaa

/- Rates: factors; samples picked, both. -/
set_option linter.unusedVariables false
set_option linter.unusedSimpArgs false
namespace Go.Proofs.Ytecgipilamefmaa
open Fl Go.RowKit
theorem allowR_any (a b x : Int) (w : World) :
    Calls Try.prog 54 #[.agg #[.int .i64 a, .int .i64 b], .int .i64 x] w fun e w' => e = .returned (.bool (inB x a b)) ∧ w.alloc (.cells #[.int .i64 a, .int .i64 b] 55) = w' := by
  by_cases h : a ≤ x
  all_goals
    go_enter Try.func54, Try.ntmps54
    go_wp2
    go_ret
    exact ⟨ret_bool (by simp [inB]; omega), rfl⟩
theorem allowR (a b x : Int) (bb : Bool) (w : World) (h : inB x a b = bb) :
    Calls Try.prog 54 #[.agg #[.int .i64 a, .int .i64 b], .int .i64 x] w fun e w' => e = .returned (.bool bb) ∧ w.alloc (.cells #[.int .i64 a, .int .i64 b] 55) = w' := by subst h; exact allowR_any a b x w
/-- how many samples are picked, from t on, each f-th -/
def cntP (n f t : Nat) : Nat := (n + f - 1 - t) / f
theorem cntP_lt {n f t k : Nat} (hf : 1 ≤ f) (ht : t < f) : k < cntP n f t ↔ t + k * f < n := by
  unfold cntP
  rw [← Nat.succ_le_iff, Nat.le_div_iff_mul_le (by omega), Nat.succ_mul]
  omega
theorem cntP_le {n f t : Nat} (hf : 1 ≤ f) : cntP n f t ≤ n + f := by
  unfold cntP
  exact Nat.le_trans (Nat.div_le_self _ _) (by omega)
def pickF (xs : List Nat) (f t : Nat) (k : Nat) : O := ab .f32 (wd xs (t + k * f))
def okPick (f t : Int) (n : Nat) : Bool := inB f 1 8 && inB t 0 (f - 1) && decide (n ≤ 256)
theorem okPick_nat {f t : Int} {n : Nat} (h : okPick f t n = true) : ∃ f' t' : Nat, f = f' ∧ t = t' ∧ 1 ≤ f' ∧ f' ≤ 8 ∧ t' < f' ∧ n ≤ 256 := by
  simp only [okPick, inB, Bool.and_eq_true, decide_eq_true_eq] at h
  exact ⟨f.toNat, t.toNat, by omega, by omega, by omega, by omega, by omega, by omega⟩
theorem PL.toB {n0 : Nat} {f0 : Nat → O} {w w' : World} {e : Ending} (h : PL n0 f0 w e w') : ∃ (p : Ls) (c : Nat), e = .returned (.slice p.A p.n c) ∧ Hid (p.n = n0) ∧ Hid (Gs 22 w' w.heap.size p.A p.n p.xs) ∧ Hid (Are p f0) ∧ Hid (w.Since w.heap.size w') := by
  obtain ⟨p, c, h1, h2, h3, h4, h5⟩ := h
  exact ⟨p, c, h1, Lib.hid h2, Lib.hid h3, Lib.hid h4, Lib.hid h5⟩
end Go.Proofs.Ytecgipilamefmaa

/- Bits: the most of bits, a coder, codes that are codes. -/
set_option linter.unusedVariables false
set_option linter.unusedSimpArgs false
namespace Go.Proofs.Ytecgipilamefmaa
open Fl Go.RowKit
def mst (b : Nat) : Nat := 2 ^ (b - 1)
theorem mst_le {b : Nat} (h1 : 2 ≤ b) (h2 : b ≤ 16) : 2 ≤ mst b ∧ mst b ≤ 32768 := by
  obtain rfl | rfl | rfl | rfl | rfl | rfl | rfl | rfl | rfl | rfl | rfl | rfl | rfl | rfl | rfl : b = 2 ∨ b = 3 ∨ b = 4 ∨ b = 5 ∨ b = 6 ∨ b = 7 ∨ b = 8 ∨ b = 9 ∨ b = 10 ∨ b = 11 ∨ b = 12 ∨ b = 13 ∨ b = 14 ∨ b = 15 ∨ b = 16 := by omega
  all_goals (unfold mst; decide)
def codV (m : Nat) : Value := .agg #[.int .i64 (-(m : Int)), .int .i64 ((m : Int) - 1), .float .f32 (floatOfInt .f32 (m : Int))]
def codZ : Value := .agg #[.int .i64 0, .int .i64 0, .float .f32 0]
def PC (v : Value) (b : Bool) (w : World) (e : Ending) (w' : World) : Prop := e = .returned (.tuple #[v, .bool b]) ∧ w.Since w.heap.size w'
end Go.Proofs.Ytecgipilamefmaa

/- The code nearest to a number: the model's and the program's. -/
set_option linter.unusedVariables false
set_option linter.unusedSimpArgs false
namespace Go.Proofs.Ytecgipilamefmaa
open Fl Go.RowKit
/-- what is asked of the greatest and of the least code as 64-bit numbers -/
structure Cst (m : Nat) : Prop where
  wM : Whl (fd ((m : Int) - 1)) (m - 1)
  wL : Whl (fd (-(m : Int))) m
  sM : sgn .f64 (fd ((m : Int) - 1)) = false
  sL : sgn .f64 (fd (-(m : Int))) = true
  pM : 0 < rung .f64 (fd ((m : Int) - 1))
  pL : 0 < rung .f64 (fd (-(m : Int)))
  zM : rung .f64 (fd ((m : Int) - 1)) ≤ 1042 * 4503599627370496
  zL : rung .f64 (fd (-(m : Int))) ≤ 1042 * 4503599627370496
  iM : floatToIntVal .f64 (fd ((m : Int) - 1)) .i64 = some ((m : Int) - 1)
  iL : floatToIntVal .f64 (fd (-(m : Int))) .i64 = some (-(m : Int))
set_option maxRecDepth 10000 in
theorem cst_of {b : Nat} (h1 : 2 ≤ b) (h2 : b ≤ 16) : Cst (mst b) := by
  obtain rfl | rfl | rfl | rfl | rfl | rfl | rfl | rfl | rfl | rfl | rfl | rfl | rfl | rfl | rfl : b = 2 ∨ b = 3 ∨ b = 4 ∨ b = 5 ∨ b = 6 ∨ b = 7 ∨ b = 8 ∨ b = 9 ∨ b = 10 ∨ b = 11 ∨ b = 12 ∨ b = 13 ∨ b = 14 ∨ b = 15 ∨ b = 16 := by omega
  all_goals exact ⟨⟨by decide +kernel, by decide +kernel⟩, ⟨by decide +kernel, by decide +kernel⟩, by decide +kernel, by decide +kernel, by decide +kernel, by decide +kernel, by decide +kernel, by decide +kernel, by decide +kernel, by decide +kernel⟩
def codO (m : Nat) : O → Int
  | none => 0
  | some x => if key .f64 (fd ((m : Int) - 1)) ≤ key .f64 x then (m : Int) - 1 else if key .f64 x ≤ key .f64 (fd (-(m : Int))) then -(m : Int) else (floatToIntVal .f64 (rneW x) .i64).getD 0
theorem key_pos {x : Nat} (h : sgn .f64 x = false) : key .f64 x = (rung .f64 x : Int) := by unfold key; rw [h]; rfl
theorem key_neg {x : Nat} (h : sgn .f64 x = true) : key .f64 x = -(rung .f64 x : Int) := by unfold key; rw [h]; rfl
theorem rne_hi {m x : Nat} (C : Cst m) (hx : rung .f64 x ≤ FloatKind.f64.format.infRung) : (key .f64 (fd ((m : Int) - 1)) ≤ key .f64 x → key .f64 (fd ((m : Int) - 1)) ≤ key .f64 (rneW x)) ∧ (key .f64 x ≤ key .f64 (fd ((m : Int) - 1)) → key .f64 (rneW x) ≤ key .f64 (fd ((m : Int) - 1))) := by
  have h1 := rne_sgn hx
  have p := C.pM
  have hf : rung .f64 (fd ((m : Int) - 1)) < FloatKind.f64.format.infRung := Nat.lt_of_le_of_lt C.zM (by decide)
  have h2 := rne_ge (x := x) hx C.wM
  have h3 := rne_le (x := x) hx C.wM hf
  rw [key_pos C.sM]
  cases hs : sgn .f64 x
  · rw [hs] at h1; rw [key_pos hs, key_pos h1]
    exact ⟨fun h => by have := h2 (by omega); omega, fun h => by have := h3 (by omega); omega⟩
  · rw [hs] at h1; rw [key_neg hs, key_neg h1]
    exact ⟨fun h => by omega, fun h => by omega⟩
theorem rne_lo {m x : Nat} (C : Cst m) (hx : rung .f64 x ≤ FloatKind.f64.format.infRung) : (key .f64 (fd (-(m : Int))) ≤ key .f64 x → key .f64 (fd (-(m : Int))) ≤ key .f64 (rneW x)) ∧ (key .f64 x ≤ key .f64 (fd (-(m : Int))) → key .f64 (rneW x) ≤ key .f64 (fd (-(m : Int)))) := by
  have h1 := rne_sgn hx
  have p := C.pL
  have hf : rung .f64 (fd (-(m : Int))) < FloatKind.f64.format.infRung := Nat.lt_of_le_of_lt C.zL (by decide)
  have h2 := rne_ge (x := x) hx C.wL
  have h3 := rne_le (x := x) hx C.wL hf
  rw [key_neg C.sL]
  cases hs : sgn .f64 x
  · rw [hs] at h1; rw [key_pos hs, key_pos h1]
    exact ⟨fun h => by omega, fun h => by omega⟩
  · rw [hs] at h1; rw [key_neg hs, key_neg h1]
    exact ⟨fun h => by have := h3 (by omega); omega, fun h => by have := h2 (by omega); omega⟩
theorem key_inj {x y : Nat} (hx : x < 2 ^ 64) (hy : y < 2 ^ 64) (h : key .f64 x = key .f64 y) (h0 : rung .f64 y ≠ 0) : x = y := by
  rw [← word_of .f64 (b := x) hx, ← word_of .f64 (b := y) hy]
  cases hs : sgn .f64 x <;> cases ht : sgn .f64 y
  · rw [key_pos hs, key_pos ht] at h; rw [show rung .f64 x = rung .f64 y by omega]
  · rw [key_pos hs, key_neg ht] at h; omega
  · rw [key_neg hs, key_pos ht] at h; omega
  · rw [key_neg hs, key_neg ht] at h; rw [show rung .f64 x = rung .f64 y by omega]
theorem rne_int {m x : Nat} (C : Cst m) (hx : rung .f64 x ≤ FloatKind.f64.format.infRung) (h1 : key .f64 (fd (-(m : Int))) ≤ key .f64 x) (h2 : key .f64 x ≤ key .f64 (fd ((m : Int) - 1))) : floatToIntVal .f64 (rneW x) .i64 = some ((floatToIntVal .f64 (rneW x) .i64).getD 0) := by
  have h3 := (rne_hi C hx).2 h2
  have h4 := (rne_lo C hx).1 h1
  have zM := C.zM; have zL := C.zL
  rw [key_pos C.sM] at h3; rw [key_neg C.sL] at h4
  obtain ⟨v, hv⟩ := toInt_some (y := rneW x) (by
    cases hs : sgn .f64 (rneW x)
    · rw [key_pos hs] at h3; omega
    · rw [key_neg hs] at h4; omega)
  rw [hv]; rfl
theorem fd_fits (c : Int) : ab .f64 (fd c) = some (fd c) ∧ fd c < 2 ^ 64 := ⟨(fv_write .f64 (d := .number (decide (c < 0)) c.natAbs 0) rfl).2, (fv_write .f64 (d := .number (decide (c < 0)) c.natAbs 0) rfl).1⟩
end Go.Proofs.Ytecgipilamefmaa

/- The code nearest to a number: both. -/
set_option linter.unusedVariables false
set_option linter.unusedSimpArgs false
namespace Go.Proofs.Ytecgipilamefmaa
open Fl Go.RowKit
theorem run_rne {P : Program} (x : Nat) (hx : ab .f64 x = some x) (w : World) : (Extern.MathFloor.toIntegral "math.RoundToEven" .even #[.float .f64 x]).run P w = .ok (.float .f64 (rneW x)) w := by
  have hn : (FloatKind.f64.decode x).isNaN = false := by
    have := read_nan (k := .f64) (b := x)
    rw [hx] at this
    exact this
  unfold rneW
  change Sem.run P (match FloatKind.f64.decode x with
    | .nan s t => if FloatKind.f64.format.quiet t = t then pure (Value.float .f64 x) else do
      let kept ← choose (.extern "math.Floor,Ceil,Trunc,RoundToEven.signallingNaN kept" 2)
      pure (Value.float .f64 (if kept == 1 then x else FloatKind.f64.encode (.nan s (FloatKind.f64.format.quiet t))))
    | d => pure (Value.float .f64 (FloatKind.f64.encode (d.integral .even)))) w = _
  cases hd : FloatKind.f64.decode x with
  | nan s t => rw [hd] at hn; cases hn
  | number s m e => rfl
  | infinity s => rfl
theorem codO_some (m x : Nat) : codO m (some x) = if key .f64 (fd ((m : Int) - 1)) ≤ key .f64 x then (m : Int) - 1 else if key .f64 x ≤ key .f64 (fd (-(m : Int))) then -(m : Int) else (floatToIntVal .f64 (rneW x) .i64).getD 0 := rfl
theorem callRne (x : Nat) (hx : ab .f64 x = some x) (w : World) : (callFunc 43 #[.float .f64 x]).run Try.prog w = .ok (.value (.float .f64 (rneW x))) w := by
  rw [run_callFunc_extern (P := Try.prog) (fn := Try.f43) (e := Extern.MathFloor.toIntegral "math.RoundToEven" .even) (by kernel_rfl) (by kernel_rfl) (by kernel_rfl) (by kernel_rfl) (by kernel_rfl), run_rne x hx]
  rfl
theorem ord_of {x c : Nat} (hx : ab .f64 x = some x) (hc : ab .f64 c = some c) : (key .f64 x < key .f64 c ∧ FloatKind.f64.format.order x c = some .lt) ∨ (key .f64 x = key .f64 c ∧ FloatKind.f64.format.order x c = some .eq) ∨ (key .f64 c < key .f64 x ∧ FloatKind.f64.format.order x c = some .gt) := by
  rw [order_key .f64 hx hc, cmp_def]
  rcases Int.lt_trichotomy (key .f64 x) (key .f64 c) with h | h | h
  · exact .inl ⟨h, by rw [if_pos h]⟩
  · exact .inr (.inl ⟨h, by rw [if_neg (by omega), if_pos h]⟩)
  · exact .inr (.inr ⟨h, by rw [if_neg (by omega), if_neg (by omega)]⟩)
end Go.Proofs.Ytecgipilamefmaa

/- The code nearest to a number: the program's. -/
set_option linter.unusedVariables false
set_option linter.unusedSimpArgs false
namespace Go.Proofs.Ytecgipilamefmaa
open Fl Go.RowKit
theorem isNaN_nan (x : Nat) (h : FloatKind.f64.format.order x x = none) (w : World) : Calls Try.prog 67 #[.float .f64 x] w fun e w' => e = .returned (.bool true) ∧ w = w' := by
  go_enter Try.func67, Try.ntmps67
  go_wp2
  go_ret
  exact ⟨rfl, rfl⟩
theorem isNaN_num (x : Nat) (h : FloatKind.f64.format.order x x = some .eq) (w : World) : Calls Try.prog 67 #[.float .f64 x] w fun e w' => e = .returned (.bool false) ∧ w = w' := by
  go_enter Try.func67, Try.ntmps67
  go_wp2
  go_ret
  exact ⟨rfl, rfl⟩
theorem run_max {P : Program} (ts : Array TypeId) (t : TypeId) (x y r : Nat) (h : (FloatKind.f64.format.order x y = some .lt ∧ r = y) ∨ (FloatKind.f64.format.order x y = some .gt ∧ r = x) ∨ (FloatKind.f64.format.order x y = some .eq ∧ x = y ∧ r = x)) (W : World) :
    (Builtin.max_ ts t #[.float .f64 x, .float .f64 y]).run P W = .ok (.float .f64 r) W := by
  rcases h with ⟨h, rfl⟩ | ⟨h, rfl⟩ | ⟨h, rfl, rfl⟩
  · simp [Builtin.max_, Builtin.max2, h]
  · simp [Builtin.max_, Builtin.max2, h]
  · simp [Builtin.max_, Builtin.max2, h]
theorem run_min {P : Program} (ts : Array TypeId) (t : TypeId) (x y r : Nat) (h : (FloatKind.f64.format.order x y = some .lt ∧ r = x) ∨ (FloatKind.f64.format.order x y = some .gt ∧ r = y) ∨ (FloatKind.f64.format.order x y = some .eq ∧ x = y ∧ r = x)) (W : World) :
    (Builtin.min_ ts t #[.float .f64 x, .float .f64 y]).run P W = .ok (.float .f64 r) W := by
  rcases h with ⟨h, rfl⟩ | ⟨h, rfl⟩ | ⟨h, rfl, rfl⟩
  · simp [Builtin.min_, Builtin.min2, h]
  · simp [Builtin.min_, Builtin.min2, h]
  · simp [Builtin.min_, Builtin.min2, h]
/-- the rounded number, brought between the bounds, as an integer -/
theorem clamp_num {m x : Nat} (C : Cst m) (hab : ab .f64 x = some x) :
    ∃ r1 r2, ((FloatKind.f64.format.order (rneW x) (fd (-(m : Int))) = some .lt ∧ r1 = fd (-(m : Int))) ∨ (FloatKind.f64.format.order (rneW x) (fd (-(m : Int))) = some .gt ∧ r1 = rneW x) ∨ (FloatKind.f64.format.order (rneW x) (fd (-(m : Int))) = some .eq ∧ rneW x = fd (-(m : Int)) ∧ r1 = rneW x)) ∧
      ((FloatKind.f64.format.order r1 (fd ((m : Int) - 1)) = some .lt ∧ r2 = r1) ∨ (FloatKind.f64.format.order r1 (fd ((m : Int) - 1)) = some .gt ∧ r2 = fd ((m : Int) - 1)) ∨ (FloatKind.f64.format.order r1 (fd ((m : Int) - 1)) = some .eq ∧ r1 = fd ((m : Int) - 1) ∧ r2 = r1)) ∧
      floatToIntVal .f64 r2 .i64 = some (codO m (some x)) := by
  have hr := rung_of_ab .f64 hab
  have hR := rne_fits hr
  have hRa := ab_of_rung hR.1
  have fM := fd_fits ((m : Int) - 1)
  have fL := fd_fits (-(m : Int))
  have hi := rne_hi C hr
  have lo := rne_lo C hr
  have kM := key_pos C.sM; have pM := C.pM
  have kL := key_neg C.sL; have pL := C.pL
  have hML : FloatKind.f64.format.order (fd (-(m : Int))) (fd ((m : Int) - 1)) = some .lt := by
    rcases ord_of fL.1 fM.1 with ⟨h, h2⟩ | ⟨h, h2⟩ | ⟨h, h2⟩
    · exact h2
    · omega
    · omega
  rw [codO_some]
  rcases ord_of hRa fL.1 with ⟨h1, o1⟩ | ⟨h1, o1⟩ | ⟨h1, o1⟩
  · refine ⟨fd (-(m : Int)), fd (-(m : Int)), .inl ⟨o1, rfl⟩, .inl ⟨hML, rfl⟩, ?_⟩
    rw [C.iL, if_neg (by omega), if_pos (by omega)]
  · have e := key_inj hR.2 fL.2 h1 (by omega)
    refine ⟨rneW x, rneW x, .inr (.inr ⟨o1, e, rfl⟩), .inl ⟨by rw [e]; exact hML, rfl⟩, ?_⟩
    rw [if_neg (by omega)]
    split
    · rw [e]; exact C.iL
    · exact rne_int C hr (by omega) (by omega)
  · rcases ord_of hRa fM.1 with ⟨h2, o2⟩ | ⟨h2, o2⟩ | ⟨h2, o2⟩
    · refine ⟨rneW x, rneW x, .inr (.inl ⟨o1, rfl⟩), .inl ⟨o2, rfl⟩, ?_⟩
      rw [if_neg (by omega), if_neg (by omega)]
      exact rne_int C hr (by omega) (by omega)
    · have e := key_inj hR.2 fM.2 h2 (by omega)
      refine ⟨rneW x, rneW x, .inr (.inl ⟨o1, rfl⟩), .inr (.inr ⟨o2, e, rfl⟩), ?_⟩
      split
      · rw [e]; exact C.iM
      · rw [if_neg (by omega)]
        exact rne_int C hr (by omega) (by omega)
    · refine ⟨rneW x, fd ((m : Int) - 1), .inr (.inl ⟨o1, rfl⟩), .inr (.inl ⟨o2, rfl⟩), ?_⟩
      rw [C.iM, if_pos (by omega)]
end Go.Proofs.Ytecgipilamefmaa

/- Products with powers of two: the code of the product in 32 bits is that of the product in 64 bits. -/
set_option linter.unusedVariables false
set_option linter.unusedSimpArgs false
namespace Go.Proofs.Ytecgipilamefmaa
namespace Fl
open Ieee
theorem nearest_exactJ (k : FloatKind) (neg : Bool) {r mag : Nat} {place b : Int} (hr : r < k.format.infRung) (hb : b ≤ place) (hbl : b ≤ k.format.leastPlace)
    (h : zv k r * 2 ^ (k.format.leastPlace - b).toNat = mag * 2 ^ (place - b).toNat) : rung k (k.format.nearest neg mag place) = r := by
  obtain ⟨m, e, hz, hme, _⟩ := rung_form k r
  have h0 := nearest_rung k neg hr hz hme
  have h1 : m * 2 ^ (k.format.leastPlace + (e : Int) - b).toNat = mag * 2 ^ (place - b).toNat := by
    rw [← h, hz, Nat.mul_assoc, ← Nat.pow_add]
    congr 2
    omega
  have a := nearest_mono k neg neg (mag := m) (mag' := mag) (place := k.format.leastPlace + e) (place' := place) (b := b) (by omega) hb hbl (Nat.le_of_eq h1)
  have a' := nearest_mono k neg neg (mag := mag) (mag' := m) (place := place) (place' := k.format.leastPlace + e) (b := b) hb (by omega) hbl (Nat.le_of_eq h1.symm)
  omega
theorem zv_dbl1 (k : FloatKind) (r : Nat) : ∃ r', zv k r' = zv k r * 2 := by
  have hp := bin_pos k
  by_cases h : r < k.format.binade
  · refine ⟨2 * r, ?_⟩
    by_cases h2 : 2 * r < k.format.binade
    · unfold zv; rw [if_pos h2, if_pos h]; omega
    · have e1 : 2 * r / k.format.binade = 1 := by
        rw [Nat.div_eq_sub_div hp (by omega), Nat.div_eq_of_lt (by omega)]
      have e2 : 2 * r % k.format.binade = 2 * r - k.format.binade := by
        rw [Nat.mod_eq_sub_mod (by omega), Nat.mod_eq_of_lt (by omega)]
      unfold zv
      rw [if_neg h2, if_pos h, e1, e2]
      simp
      omega
  · refine ⟨r + k.format.binade, ?_⟩
    have e1 : (r + k.format.binade) / k.format.binade = r / k.format.binade + 1 := Nat.add_div_right _ hp
    have e2 : (r + k.format.binade) % k.format.binade = r % k.format.binade := Nat.add_mod_right _ _
    have hq : 1 ≤ r / k.format.binade := (Nat.one_le_div_iff hp).2 (by omega)
    unfold zv
    rw [if_neg (by omega), if_neg h, e1, e2, Nat.mul_assoc, ← Nat.pow_succ]
    congr 2
    omega
theorem zv_dbl (k : FloatKind) (r : Nat) : ∀ j, ∃ r', zv k r' = zv k r * 2 ^ j
  | 0 => ⟨r, by rw [Nat.pow_zero, Nat.mul_one]⟩
  | j + 1 => by
    obtain ⟨s, hs⟩ := zv_dbl k r j
    obtain ⟨t, ht⟩ := zv_dbl1 k s
    exact ⟨t, by rw [ht, hs, Nat.pow_succ, Nat.mul_assoc]⟩
/-- a product that is exact -/
theorem mul_exactJ (k : FloatKind) {x c r m : Nat} (hx : rung k x < k.format.infRung) (hc : rung k c < k.format.infRung) (sc : sgn k c = false) (P : Nat) (hP : k.format.leastPlace = -(P : Int)) (hzc : zv k (rung k c) = m * 2 ^ P) (hr : r < k.format.infRung)
    (hzr : zv k r = zv k (rung k x) * m) : ∃ q, floatBits .mul k x c = some q ∧ rung k q = r ∧ sgn k q = sgn k x := by
  obtain ⟨mx, ex, h1, h2⟩ := read_fin k hx
  obtain ⟨mc, ec, h3, h4⟩ := read_fin k hc
  simp only [floatBits, Format.mul, h1, h3, Datum.product, Option.map_some]
  refine ⟨_, rfl, ?_, ?_⟩
  · show rung k (k.format.nearest _ _ _) = r
    refine nearest_exactJ k _ (b := k.format.leastPlace + k.format.leastPlace) hr (by omega) (by omega) ?_
    rw [show (k.format.leastPlace - (k.format.leastPlace + k.format.leastPlace)).toNat = P by omega,
      show (k.format.leastPlace + (ex : Int) + (k.format.leastPlace + (ec : Int)) - (k.format.leastPlace + k.format.leastPlace)).toNat = ex + ec by omega, hzr, h2, Nat.pow_add]
    have e : mx * mc * (2 ^ ex * 2 ^ ec) = (mx * 2 ^ ex) * (mc * 2 ^ ec) := by rw [Nat.mul_assoc, Nat.mul_assoc, Nat.mul_left_comm mc]
    rw [e, ← h4, hzc, Nat.mul_assoc]
  · show sgn k (k.format.nearest _ _ _) = _
    rw [sgn_nearest, sc]
    cases sgn k x <;> rfl
/-- a product with a number without sign, at least 1, is not less, and has the sign -/
theorem mul_big (k : FloatKind) {x c o t : Nat} (hx : rung k x < k.format.infRung) (hc : rung k c < k.format.infRung) (sc : sgn k c = false) (ht : rung k t < k.format.infRung) (ho : rung k o < k.format.infRung) (h1 : rung k t ≤ rung k x) (h2 : rung k o ≤ rung k c)
    (h3 : (floatBits .mul k t o).map (fun r => decide (rung k t ≤ rung k r)) = some true) : ∃ q, floatBits .mul k x c = some q ∧ rung k t ≤ rung k q ∧ sgn k q = sgn k x ∧ rung k q ≤ k.format.infRung := by
  obtain ⟨r, q, e1, e2, e3⟩ := mul_size k ht ho hx hc h1 h2
  rw [e1] at h3
  simp only [Option.map_some, Option.some.injEq, decide_eq_true_eq] at h3
  refine ⟨q, e2, by omega, ?_⟩
  obtain ⟨mx, ex, g1, g2⟩ := read_fin k hx
  obtain ⟨mc, ec, g3, g4⟩ := read_fin k hc
  simp only [floatBits, Format.mul, g1, g3, Datum.product, Option.map_some] at e2
  injection e2 with e2
  rw [← e2]
  refine ⟨?_, nearest_fin _ _ _ _⟩
  show sgn k (k.format.nearest _ _ _) = _
  rw [sgn_nearest, sc]
  cases sgn k x <;> rfl
end Fl
open Fl Go.RowKit Ieee
/-- what is asked of m as a number of 32 and of 64 bits -/
structure Pw (m : Nat) : Prop where
  f3 : rung .f32 (fI (m : Int)) < FloatKind.f32.format.infRung
  f6 : rung .f64 (fd (m : Int)) < FloatKind.f64.format.infRung
  s3 : sgn .f32 (fI (m : Int)) = false
  s6 : sgn .f64 (fd (m : Int)) = false
  z3 : zv .f32 (rung .f32 (fI (m : Int))) = m * 2 ^ 149
  z6 : zv .f64 (rung .f64 (fd (m : Int))) = m * 2 ^ 1074
  o3 : rung .f32 1065353216 ≤ rung .f32 (fI (m : Int))
  o6 : rung .f64 4607182418800017408 ≤ rung .f64 (fd (m : Int))
  i3 : ∀ s : Bool, (Datum.infinity s).product (FloatKind.f32.format.read (fI (m : Int))) = some (.infinity s)
  i6 : ∀ s : Bool, (Datum.infinity s).product (FloatKind.f64.format.read (fd (m : Int))) = some (.infinity s)
set_option maxRecDepth 10000 in
theorem pw_of {b : Nat} (h1 : 2 ≤ b) (h2 : b ≤ 16) : Pw (mst b) := by
  obtain rfl | rfl | rfl | rfl | rfl | rfl | rfl | rfl | rfl | rfl | rfl | rfl | rfl | rfl | rfl : b = 2 ∨ b = 3 ∨ b = 4 ∨ b = 5 ∨ b = 6 ∨ b = 7 ∨ b = 8 ∨ b = 9 ∨ b = 10 ∨ b = 11 ∨ b = 12 ∨ b = 13 ∨ b = 14 ∨ b = 15 ∨ b = 16 := by omega
  all_goals exact ⟨by decide +kernel, by decide +kernel, by decide +kernel, by decide +kernel, by decide +kernel, by decide +kernel, by decide +kernel, by decide +kernel, by decide +kernel, by decide +kernel⟩
def t32 : Nat := 147 * 8388608
def t64 : Nat := 1043 * 4503599627370496
theorem cod_sat {m y : Nat} (C : Cst m) (h : rung .f64 t64 ≤ rung .f64 y) : codO m (some y) = if sgn .f64 y then -(m : Int) else (m : Int) - 1 := by
  have kM := key_pos C.sM; have kL := key_neg C.sL
  have zM := C.zM; have zL := C.zL; have pM := C.pM
  have ht : rung .f64 t64 = 1043 * 4503599627370496 := by decide
  rw [codO_some]
  cases hs : sgn .f64 y
  · have ky := key_pos hs
    rw [if_pos (by omega)]; rfl
  · have ky := key_neg hs
    rw [if_neg (by omega), if_pos (by omega)]; rfl
theorem wide_some (x : Nat) : wide (some x) = some (FloatKind.f64.encode (FloatKind.f32.decode x)) := rfl
theorem opO_some (op : BinOp) (k : FloatKind) (x y : Nat) : opO op k (some x) (some y) = floatBits op k x y := rfl
theorem wide_big {p : Nat} (hp : rung .f32 p ≤ FloatKind.f32.format.infRung) (h : rung .f32 t32 ≤ rung .f32 p) : rung .f64 t64 ≤ rung .f64 (FloatKind.f64.encode (FloatKind.f32.decode p)) ∧ sgn .f64 (FloatKind.f64.encode (FloatKind.f32.decode p)) = sgn .f32 p := by
  obtain ⟨D, hD⟩ : ∃ D : Nat, D = 925 := ⟨_, rfl⟩
  rcases Nat.lt_or_eq_of_le hp with h1 | h1
  · obtain ⟨a, b⟩ := wide_zv h1 D hD
    refine ⟨?_, a⟩
    have h2 := wide_zv (b := t32) (by decide) D hD
    rw [show FloatKind.f64.encode (FloatKind.f32.decode t32) = t64 by decide +kernel] at h2
    refine (zv_le .f64).1 ?_
    rw [h2.2, b]
    exact Nat.mul_le_mul_right _ ((zv_le .f32).2 h)
  · have hr : FloatKind.f32.decode p = .infinity (sgn .f32 p) := read_inf .f32 h1
    rw [hr]
    cases sgn .f32 p <;> decide +kernel
theorem sg_word_inj {x y : Nat} (hx : x < 2 ^ 64) (hy : y < 2 ^ 64) (h1 : rung .f64 x = rung .f64 y) (h2 : sgn .f64 x = sgn .f64 y) : x = y := by
  rw [← word_of .f64 (b := x) hx, ← word_of .f64 (b := y) hy, h1, h2]
theorem op_lt {op : BinOp} {k : FloatKind} {x y q : Nat} (h : floatBits op k x y = some q) : q < 2 ^ k.format.width := by
  cases op <;> simp only [floatBits] at h <;> first | (cases h; done) | skip
  all_goals
    simp only [Format.add, Format.sub, Format.mul, Format.div, Option.map_eq_some_iff] at h
    obtain ⟨d, hd, rfl⟩ := h
    exact k.format.write_lt d
set_option maxHeartbeats 1000000 in
theorem cod_mul {m j : Nat} (hj : m = 2 ^ j) (hm : m ≤ 32768) (C : Cst m) (W : Pw m) (X : O) (hX : ∀ x, X = some x → rung .f32 x ≤ FloatKind.f32.format.infRung) :
    codO m (wide (opO .mul .f32 X (some (fI (m : Int))))) = codO m (opO .mul .f64 (wide X) (some (fd (m : Int)))) := by
  cases X with
  | none => rfl
  | some x =>
    have hx := hX x rfl
    rw [wide_some, opO_some, opO_some]
    have one6 : rung .f64 4607182418800017408 < FloatKind.f64.format.infRung := by decide
    have one3 : rung .f32 1065353216 < FloatKind.f32.format.infRung := by decide
    rcases Nat.lt_or_eq_of_le hx with h1 | h1
    · obtain ⟨D, hD⟩ : ∃ D : Nat, D = 925 := ⟨_, rfl⟩
      obtain ⟨sx, zx⟩ := wide_zv h1 D hD
      have hD3 : zv .f32 FloatKind.f32.format.infRung * 2 ^ D ≤ zv .f64 FloatKind.f64.format.infRung := by rw [hD]; decide +kernel
      have hwf : rung .f64 (FloatKind.f64.encode (FloatKind.f32.decode x)) < FloatKind.f64.format.infRung := by
        refine (zv_lt .f64).1 ?_
        rw [zx]
        have h2 : zv .f32 (rung .f32 x) < zv .f32 FloatKind.f32.format.infRung := (zv_lt .f32).2 h1
        exact Nat.lt_of_lt_of_le (Nat.mul_lt_mul_of_pos_right h2 (Nat.two_pow_pos _)) hD3
      rcases Nat.lt_or_ge (rung .f32 x) (rung .f32 t32) with h2 | h2
      · -- small: both products are exact
        obtain ⟨r, hr⟩ := zv_dbl .f32 (rung .f32 x) j
        rw [← hj] at hr
        have hrf : r < FloatKind.f32.format.infRung := by
          refine (zv_lt .f32).1 ?_
          rw [hr]
          have h3 : zv .f32 (rung .f32 x) < zv .f32 (rung .f32 t32) := (zv_lt .f32).2 h2
          have h4 : zv .f32 (rung .f32 t32) * 32768 ≤ zv .f32 FloatKind.f32.format.infRung := by decide +kernel
          have h5 : zv .f32 (rung .f32 x) * m ≤ zv .f32 (rung .f32 x) * 32768 := Nat.mul_le_mul_left _ hm
          omega
        obtain ⟨p, e1, e2, e3⟩ := mul_exactJ .f32 h1 W.f3 W.s3 149 (by decide) W.z3 hrf hr
        have hpf : rung .f32 p < FloatKind.f32.format.infRung := by rw [e2]; exact hrf
        obtain ⟨sp, zp⟩ := wide_zv hpf D hD
        have hpw : rung .f64 (FloatKind.f64.encode (FloatKind.f32.decode p)) < FloatKind.f64.format.infRung := by
          refine (zv_lt .f64).1 ?_
          rw [zp]
          have h2 : zv .f32 (rung .f32 p) < zv .f32 FloatKind.f32.format.infRung := (zv_lt .f32).2 hpf
          exact Nat.lt_of_lt_of_le (Nat.mul_lt_mul_of_pos_right h2 (Nat.two_pow_pos _)) hD3
        obtain ⟨q, g1, g2, g3⟩ := mul_exactJ .f64 hwf W.f6 W.s6 1074 (by decide) W.z6 hpw (by rw [zp, e2, hr, zx, Nat.mul_assoc, Nat.mul_comm m, ← Nat.mul_assoc])
        rw [e1, g1, wide_some]
        have : FloatKind.f64.encode (FloatKind.f32.decode p) = q := sg_word_inj (FloatKind.f64.format.write_lt _) (op_lt g1) g2.symm (by rw [sp, e3, g3, sx])
        rw [this]
      · obtain ⟨p, e1, e2, e3, e4⟩ := mul_big .f32 (t := t32) (o := 1065353216) h1 W.f3 W.s3 (by decide) one3 h2 W.o3 (by decide +kernel)
        obtain ⟨w1, w2⟩ := wide_big hx h2
        obtain ⟨q, g1, g2, g3, g4⟩ := mul_big .f64 (t := t64) (o := 4607182418800017408) hwf W.f6 W.s6 (by decide) one6 w1 W.o6 (by decide +kernel)
        obtain ⟨v1, v2⟩ := wide_big e4 e2
        rw [e1, g1, wide_some, cod_sat C v1, cod_sat C g2, v2, e3, g3, w2]
    · have hr : FloatKind.f32.format.read x = .infinity (sgn .f32 x) := read_inf .f32 h1
      have hd : FloatKind.f32.decode x = .infinity (sgn .f32 x) := hr
      have e1 : floatBits .mul .f32 x (fI (m : Int)) = some (FloatKind.f32.format.word (sgn .f32 x) FloatKind.f32.format.infRung) := by
        simp only [floatBits, Format.mul, hr, W.i3, Option.map_some]; rfl
      have hr6 : FloatKind.f64.format.read (FloatKind.f64.encode (FloatKind.f32.decode x)) = .infinity (sgn .f32 x) := by
        rw [hd]; cases sgn .f32 x <;> decide +kernel
      have e2 : floatBits .mul .f64 (FloatKind.f64.encode (FloatKind.f32.decode x)) (fd (m : Int)) = some (FloatKind.f64.format.word (sgn .f32 x) FloatKind.f64.format.infRung) := by
        simp only [floatBits, Format.mul, hr6, W.i6, Option.map_some]; rfl
      rw [e1, e2, wide_some]
      cases sgn .f32 x
      · rw [show FloatKind.f64.encode (FloatKind.f32.decode (FloatKind.f32.format.word false FloatKind.f32.format.infRung)) = FloatKind.f64.format.word false FloatKind.f64.format.infRung by decide +kernel]
      · rw [show FloatKind.f64.encode (FloatKind.f32.decode (FloatKind.f32.format.word true FloatKind.f32.format.infRung)) = FloatKind.f64.format.word true FloatKind.f64.format.infRung by decide +kernel]
end Go.Proofs.Ytecgipilamefmaa

/- Whole parts of floats: what goes into an integer, and what is left of it. -/
set_option linter.unusedVariables false
set_option linter.unusedSimpArgs false
namespace Go.Proofs.Ytecgipilamefmaa
namespace Fl
open Ieee
theorem cutz_eq (s : Bool) (n d : Nat) : Toward.zero.cut s n d = n / 2 ^ d := by
  unfold Toward.cut
  dsimp only
  rw [Nat.shiftLeft_eq, Nat.one_mul]
  show n / 2 ^ min d (n.log2 + 2) + 0 = _
  rcases Nat.le_total d (n.log2 + 2) with h1 | h1
  · rw [Nat.min_eq_left h1]; rfl
  · have h2 : n < 2 ^ (n.log2 + 2) := Nat.lt_trans Nat.lt_log2_self (Nat.pow_lt_pow_right (by decide) (by omega))
    rw [Nat.min_eq_right h1, Nat.div_eq_of_lt h2, Nat.div_eq_of_lt (Nat.lt_of_lt_of_le h2 (Nat.pow_le_pow_right (by decide) h1))]
/-- the whole part of a finite number's size -/
def whl (D y : Nat) : Nat := zv .f64 (rung .f64 y) / 2 ^ D
theorem toInt_whole {y D : Nat} (hD : D = 1074) (hf : rung .f64 y < FloatKind.f64.format.infRung) (hlt : whl D y < 4611686018427387904) : floatToIntVal .f64 y .i64 = some (sg (sgn .f64 y) (whl D y)) := by
  obtain ⟨m, e, hr, hz⟩ := read_fin .f64 hf
  have h2 : FloatKind.f64.format.leastPlace = -(D : Int) := by rw [hD]; decide
  clear hD
  have hd : FloatKind.f64.decode y = .number (sgn .f64 y) m (-(D : Int) + e) := by rw [← h2]; exact hr
  have hc : Toward.zero.cut (sgn .f64 y) (m <<< (-(D : Int) + e).toNat) (-(-(D : Int) + e)).toNat = whl D y := by
    rw [cutz_eq, Nat.shiftLeft_eq]
    unfold whl
    rw [hz]
    rcases Nat.le_total e D with h4 | h4
    · rw [show (-(D : Int) + e).toNat = 0 by omega, show (-(-(D : Int) + e)).toNat = D - e by omega, Nat.pow_zero, Nat.mul_one]
      have h5 : 2 ^ D = 2 ^ (D - e) * 2 ^ e := by rw [← Nat.pow_add]; congr 1; omega
      rw [h5, Nat.mul_div_mul_right _ _ (Nat.two_pow_pos e)]
    · rw [show (-(D : Int) + e).toNat = e - D by omega, show (-(-(D : Int) + e)).toNat = 0 by omega, Nat.pow_zero, Nat.div_one]
      have h5 : 2 ^ e = 2 ^ (e - D) * 2 ^ D := by rw [← Nat.pow_add]; congr 1; omega
      rw [h5, ← Nat.mul_assoc, Nat.mul_div_cancel _ (Nat.two_pow_pos D)]
  have hi : (Datum.number (sgn .f64 y) m (-(D : Int) + e)).toInt .zero = some (sg (sgn .f64 y) (whl D y)) := by
    unfold Datum.toInt Datum.integral
    dsimp only
    rw [hc]
    simp only [signed, sg, Nat.shiftLeft_zero]
  unfold floatToIntVal
  rw [hd, hi]
  dsimp only
  have r1 : IntKind.i64.min ≤ sg (sgn .f64 y) (whl D y) := by show (-9223372036854775808 : Int) ≤ _; unfold sg; split <;> omega
  have r2 : sg (sgn .f64 y) (whl D y) ≤ IntKind.i64.max := by show _ ≤ (9223372036854775807 : Int); unfold sg; split <;> omega
  rw [if_pos ⟨r1, r2⟩]
theorem zv_low {C : Nat} (h : C < 9007199254740992) : zv .f64 C = C := by
  have hb : FloatKind.f64.format.binade = 4503599627370496 := by decide
  unfold zv
  rw [hb]
  by_cases h1 : C < 4503599627370496
  · rw [if_pos h1]
  · have e1 : C / 4503599627370496 = 1 := by omega
    have e2 : C % 4503599627370496 = C - 4503599627370496 := by omega
    rw [if_neg h1, e1, e2]
    simp
    omega
theorem fd_whole {C D : Nat} {s : Bool} (hD : D = 1074) (h : C < 9007199254740992) : rung .f64 (fd (sg s C)) < FloatKind.f64.format.infRung ∧ zv .f64 (rung .f64 (fd (sg s C))) = C * 2 ^ D ∧ (C ≠ 0 → sgn .f64 (fd (sg s C)) = s) := by
  obtain ⟨r, hr⟩ := zv_dbl .f64 C D
  rw [zv_low h] at hr
  have h2 : FloatKind.f64.format.leastPlace = -(D : Int) := by rw [hD]; decide
  have hbig : zv .f64 (1076 * 4503599627370496) = 9007199254740992 * 2 ^ D := by rw [hD]; decide +kernel
  have hfin : 1076 * 4503599627370496 < FloatKind.f64.format.infRung := by decide
  have hri : r < FloatKind.f64.format.infRung := by
    refine Nat.lt_trans ((zv_lt .f64).1 ?_) hfin
    rw [hr, hbig]
    exact Nat.mul_lt_mul_of_pos_right h (Nat.two_pow_pos D)
  clear hD hbig
  have hn : (sg s C).natAbs = C := by unfold sg; split <;> omega
  have e : fd (sg s C) = FloatKind.f64.format.nearest (decide (sg s C < 0)) C 0 := by
    show FloatKind.f64.format.nearest (decide (sg s C < 0)) (sg s C).natAbs 0 = _
    rw [hn]
  have hrr : rung .f64 (fd (sg s C)) = r := by
    rw [e]
    refine nearest_exactJ .f64 _ (b := -(D : Int)) hri (by omega) (by omega) ?_
    rw [h2, show (-(D : Int) - -(D : Int)).toNat = 0 by omega, show ((0 : Int) - -(D : Int)).toNat = D by omega, Nat.pow_zero, Nat.mul_one, hr]
  refine ⟨by rw [hrr]; exact hri, by rw [hrr, hr], fun h0 => ?_⟩
  rw [e, sgn_nearR]
  unfold sg
  cases s
  · simp
  · simp; omega
theorem sub_whole {x D : Nat} (hD : D = 1074) (hf : rung .f64 x < FloatKind.f64.format.infRung) (hlt : whl D x < 9007199254740992) : ∃ d, floatBits .sub .f64 x (fd (sg (sgn .f64 x) (whl D x))) = some d ∧ rung .f64 d ≤ 4607182418800017408 := by
  obtain ⟨hv1, hv2, hv3⟩ := fd_whole (s := sgn .f64 x) hD hlt
  have h2 : FloatKind.f64.format.leastPlace = -(D : Int) := by rw [hD]; decide
  have hone : rung .f64 (FloatKind.f64.format.nearest false 1 0) = 4607182418800017408 := by decide
  clear hD
  obtain ⟨m, e, hm, hz⟩ := read_fin .f64 hf
  obtain ⟨n, f, hn, hz2⟩ := read_fin .f64 hv1
  have hdm : zv .f64 (rung .f64 x) = whl D x * 2 ^ D + zv .f64 (rung .f64 x) % 2 ^ D := by unfold whl; rw [Nat.mul_comm]; exact (Nat.div_add_mod _ _).symm
  have hmod := Nat.mod_lt (zv .f64 (rung .f64 x)) (Nat.two_pow_pos D)
  obtain ⟨C, hC⟩ : ∃ C, C = whl D x := ⟨_, rfl⟩
  rw [← hC] at hv1 hv2 hv3 hn hz2 hdm hlt ⊢
  simp only [floatBits, Format.sub, hm, hn, Datum.opposite, Datum.sum, Option.map_some]
  refine ⟨_, rfl, ?_⟩
  rw [← hone]
  refine nearest_mono .f64 _ _ (b := FloatKind.f64.format.leastPlace) (by omega) (by omega) (by omega) ?_
  rw [h2]
  have e1 : (min (-(D : Int) + (e : Int)) (-(D : Int) + (f : Int)) - -(D : Int)).toNat = min e f := by omega
  have e3 : (-(D : Int) + (e : Int) - min (-(D : Int) + (e : Int)) (-(D : Int) + (f : Int))).toNat = e - min e f := by omega
  have e4 : (-(D : Int) + (f : Int) - min (-(D : Int) + (e : Int)) (-(D : Int) + (f : Int))).toNat = f - min e f := by omega
  have e5 : ((0 : Int) - -(D : Int)).toNat = D := by omega
  rw [e1, e3, e4, e5]
  have sgd : ∀ (s : Bool) (a u : Nat), signed s a u = sg s (a * 2 ^ u) := by intro s a u; simp only [signed, sg, Nat.shiftLeft_eq]
  rw [sgd, sgd]
  have a1 : m * 2 ^ (e - min e f) * 2 ^ min e f = C * 2 ^ D + zv .f64 (rung .f64 x) % 2 ^ D := by
    rw [Nat.mul_assoc, ← Nat.pow_add, Nat.sub_add_cancel (Nat.min_le_left ..), ← hz]; exact hdm
  have a2 : n * 2 ^ (f - min e f) * 2 ^ min e f = C * 2 ^ D := by
    rw [Nat.mul_assoc, ← Nat.pow_add, Nat.sub_add_cancel (Nat.min_le_right ..), ← hz2]; exact hv2
  generalize zv .f64 (rung .f64 x) % 2 ^ D = R at *
  generalize m * 2 ^ (e - min e f) = M at *
  generalize n * 2 ^ (f - min e f) = N' at *
  have hle : N' ≤ M := Nat.le_of_mul_le_mul_right (show N' * 2 ^ min e f ≤ M * 2 ^ min e f by rw [a1, a2]; omega) (Nat.two_pow_pos _)
  have hdiff : (M - N') * 2 ^ min e f = R := by rw [Nat.sub_mul, a1, a2]; omega
  have hab : (sg (sgn .f64 x) M + sg (!sgn .f64 (fd (sg (sgn .f64 x) C))) N').natAbs = M - N' := by
    by_cases h0 : C = 0
    · have hN : N' = 0 := by
        rw [h0, Nat.zero_mul] at a2
        rcases Nat.mul_eq_zero.1 a2 with h | h
        · exact h
        · have := Nat.two_pow_pos (min e f); omega
      rw [hN]
      unfold sg
      generalize sgn .f64 (fd (sg (sgn .f64 x) C)) = t
      generalize sgn .f64 x = u
      cases u <;> cases t <;> simp
    · rw [hv3 h0]
      unfold sg
      cases sgn .f64 x
      · simp; omega
      · simp; omega
  rw [hab, hdiff, Nat.one_mul]
  exact Nat.le_of_lt hmod
end Fl
end Go.Proofs.Ytecgipilamefmaa

/- Signs of sums, products, quotients; the part of a spread in which a number is. -/
set_option linter.unusedVariables false
set_option linter.unusedSimpArgs false
namespace Go.Proofs.Ytecgipilamefmaa
namespace Fl
open Ieee
theorem add_sign (k : FloatKind) {x y : Nat} (hx : Fin k x) (hy : Fin k y) (sy : sgn k y = false) (h : sgn k x = false ∨ rung k x ≤ rung k y) :
    ∃ r, floatBits .add k x y = some r ∧ sgn k r = false := by
  obtain ⟨m, e, hm, hz⟩ := read_fin k hx
  obtain ⟨n, f, hn, hz2⟩ := read_fin k hy
  rw [sy] at hn
  simp only [floatBits, Format.add, hm, hn, Datum.sum, Option.map_some]
  refine ⟨_, rfl, ?_⟩
  refine (sgn_nearest k _ _ _).trans ?_
  have e1 : (min (k.format.leastPlace + (e : Int)) (k.format.leastPlace + (f : Int)) - k.format.leastPlace).toNat = min e f := by omega
  have e3 : (k.format.leastPlace + (e : Int) - min (k.format.leastPlace + (e : Int)) (k.format.leastPlace + (f : Int))).toNat = e - min e f := by omega
  have e4 : (k.format.leastPlace + (f : Int) - min (k.format.leastPlace + (e : Int)) (k.format.leastPlace + (f : Int))).toNat = f - min e f := by omega
  rw [e3, e4]
  have sgd : ∀ (s : Bool) (a u : Nat), signed s a u = sg s (a * 2 ^ u) := by intro s a u; simp only [signed, sg, Nat.shiftLeft_eq]
  rw [sgd, sgd]
  have hge : 0 ≤ sg (sgn k x) (m * 2 ^ (e - min e f)) + sg false (n * 2 ^ (f - min e f)) := by
    rcases h with h | h
    · rw [h]
      generalize m * 2 ^ (e - min e f) = p1
      generalize n * 2 ^ (f - min e f) = p2
      simp only [sg]; simp; omega
    · have c := (zv_le k).2 h
      rw [hz, hz2] at c
      have c2 : m * 2 ^ (e - min e f) ≤ n * 2 ^ (f - min e f) := by
        have hp : 0 < 2 ^ min e f := Nat.two_pow_pos _
        refine Nat.le_of_mul_le_mul_right ?_ hp
        rw [Nat.mul_assoc, Nat.mul_assoc, ← Nat.pow_add, ← Nat.pow_add, Nat.sub_add_cancel (Nat.min_le_left ..), Nat.sub_add_cancel (Nat.min_le_right ..)]
        exact c
      generalize m * 2 ^ (e - min e f) = p1 at *
      generalize n * 2 ^ (f - min e f) = p2 at *
      cases sgn k x <;> simp only [sg] <;> simp <;> omega
  split
  · simp
  · exact decide_eq_false (by omega)
theorem mul_sign (k : FloatKind) {x y : Nat} (hx : Fin k x) (hy : Fin k y) : ∃ r, floatBits .mul k x y = some r ∧ sgn k r = (sgn k x ^^ sgn k y) := by
  obtain ⟨m, e, hm, hz⟩ := read_fin k hx
  obtain ⟨n, f, hn, hz2⟩ := read_fin k hy
  simp only [floatBits, Format.mul, hm, hn, Datum.product, Option.map_some]
  exact ⟨_, rfl, sgn_nearest k _ _ _⟩
theorem div_sign (k : FloatKind) {x y : Nat} (hx : Fin k x) (hy : Fin k y) (hy0 : rung k y ≠ 0) : ∃ r, floatBits .quo k x y = some r ∧ sgn k r = (sgn k x ^^ sgn k y) := by
  obtain ⟨m, e, hm, hz⟩ := read_fin k hx
  obtain ⟨n, f, hn, hz2⟩ := read_fin k hy
  have hn0 : n ≠ 0 := by
    intro e0
    subst e0
    rw [Nat.zero_mul] at hz2
    exact hy0 ((zv_inj k (r := rung k y) (s := 0)).1 (by rw [zv_zero]; exact hz2))
  simp only [floatBits, Format.div, hm, hn, Datum.quotient, if_neg hn0, Option.map_some]
  exact ⟨_, rfl, sgn_nearest k _ _ _⟩
def cA : Nat := 4607182418263146496
def cO : Nat := 4607182418800017408
def cT : Nat := 4611686018427387904
def cS : Nat := 4611686018158952448
def cH : Nat := 4607182418531581952
theorem part_tab : ∀ p : _root_.Fin 65, 1 ≤ p.val → (match floatBits .mul .f64 cH (fd (p.val : Nat)) with | some u => decide (zv .f64 (rung .f64 u) < p.val * 2 ^ 1074) && decide (rung .f64 u < FloatKind.f64.format.infRung) | none => false) = true := by decide +kernel
theorem fd_tab : ∀ p : _root_.Fin 65, rung .f64 (fd (p.val : Nat)) < FloatKind.f64.format.infRung ∧ sgn .f64 (fd (p.val : Nat)) = false ∧ ab .f64 (fd (p.val : Nat)) = some (fd (p.val : Nat)) := by decide +kernel
theorem part_sum {b : Nat} (hb : ab .f32 b = some b) (h : rung .f32 b ≤ 1065353216) (h2 : rung .f32 b ≤ 1065353215 ∨ b = 3212836864) :
    ∃ s, floatBits .add .f64 (FloatKind.f64.encode (FloatKind.f32.decode b)) cO = some s ∧ sgn .f64 s = false ∧ rung .f64 s ≤ rung .f64 cS := by
  have inf32 : FloatKind.f32.format.infRung = 2139095040 := by decide
  obtain ⟨D, hD⟩ : ∃ D : Nat, D = 925 := ⟨_, rfl⟩
  obtain ⟨w1, w2⟩ := wide_zv (b := b) (by omega) D hD
  obtain ⟨o1, o2⟩ := wide_zv (b := 1065353216) (by decide) D hD
  obtain ⟨a1, a2⟩ := wide_zv (b := 1065353215) (by decide) D hD
  have eO : FloatKind.f64.encode (FloatKind.f32.decode 1065353216) = cO := by decide +kernel
  have eA : FloatKind.f64.encode (FloatKind.f32.decode 1065353215) = cA := by decide +kernel
  rw [eO] at o2; rw [eA] at a2
  have le1 : rung .f64 (FloatKind.f64.encode (FloatKind.f32.decode b)) ≤ rung .f64 cO := (zv_le .f64).1 (by rw [w2, o2]; exact Nat.mul_le_mul_right _ ((zv_le .f32).2 (by rw [show rung .f32 1065353216 = 1065353216 by decide]; exact h)))
  have fO : Fin .f64 cO := by unfold Fin; decide
  have fW : Fin .f64 (FloatKind.f64.encode (FloatKind.f32.decode b)) := by unfold Fin at fO ⊢; omega
  obtain ⟨s, hs, hsg⟩ := add_sign .f64 fW fO (by decide) (.inr le1)
  refine ⟨s, hs, hsg, ?_⟩
  rcases h2 with h2 | rfl
  · have le2 : rung .f64 (FloatKind.f64.encode (FloatKind.f32.decode b)) ≤ rung .f64 cA := (zv_le .f64).1 (by rw [w2, a2]; exact Nat.mul_le_mul_right _ ((zv_le .f32).2 (by rw [show rung .f32 1065353215 = 1065353215 by decide]; exact h2)))
    obtain ⟨r, t, h3, h4, h5⟩ := add_size .f64 fW fO (c := cA) (d := cO) (by unfold Fin; decide) fO (by decide) (by decide) le2 (Nat.le_refl _)
    rw [hs] at h3; cases h3
    have e4 : floatBits .add .f64 cA cO = some cS := by decide +kernel
    rw [e4] at h4; cases h4
    exact h5
  · have e4 : floatBits .add .f64 (FloatKind.f64.encode (FloatKind.f32.decode 3212836864)) cO = some 0 := by decide +kernel
    rw [hs] at e4; cases e4
    decide
theorem part_of {b p : Nat} (hb32 : b < 4294967296) (hge : geO (ab .f32 b) (some 3212836864) = true) (hlt : ltO (ab .f32 b) (some 1065353216) = true) (hp : 1 ≤ p) (hp2 : p ≤ 64) :
    ∃ s h m q : Nat, opO .add .f64 (wide (ab .f32 b)) (some cO) = some s ∧ opO .quo .f64 (some s) (some cT) = some h ∧ opO .mul .f64 (some h) (some (fd (p : Nat))) = some m ∧ floatToIntVal .f64 m .i64 = some (q : Int) ∧ q < p := by
  have hb : ab .f32 b = some b := by
    cases e : ab .f32 b with
    | none => rw [e] at hlt; exact absurd hlt (by decide)
    | some c => rw [ab_some e]
  have hc1 : ab .f32 1065353216 = some 1065353216 := by decide
  have hc2 : ab .f32 3212836864 = some 3212836864 := by decide
  rw [hb] at hge hlt ⊢
  have k1 := order_key .f32 hb hc1
  have k2 := order_key .f32 hb hc2
  have e1 : key .f32 1065353216 = 1065353216 := by decide
  have e2 : key .f32 3212836864 = -1065353216 := by decide
  rw [e1] at k1; rw [e2] at k2
  have l1 : key .f32 b < 1065353216 := by
    have h1 : (FloatKind.f32.format.order b 1065353216 == some .lt) = true := hlt
    rw [k1] at h1
    simp only [beq_iff_eq, Option.some.injEq] at h1
    exact Int.compare_eq_lt.1 h1
  have l2 : -1065353216 ≤ key .f32 b := by
    have h1 : (FloatKind.f32.format.order b 3212836864 == some .gt || FloatKind.f32.format.order b 3212836864 == some .eq) = true := hge
    rw [k2] at h1
    simp only [Bool.or_eq_true, beq_iff_eq, Option.some.injEq] at h1
    rcases h1 with h | h
    · have := Int.compare_eq_gt.1 h; omega
    · have := Int.compare_eq_eq.1 h; omega
  have hr : rung .f32 b ≤ 1065353216 ∧ (rung .f32 b ≤ 1065353215 ∨ b = 3212836864) := by
    unfold key sg at l1 l2
    cases hs : sgn .f32 b
    · rw [hs] at l1; simp at l1; omega
    · rw [hs] at l2; simp at l2
      have hs2 := hs
      unfold sgn at hs2
      rw [sw32] at hs2
      have hd : b / 2147483648 % 2 = 1 := by simpa using hs2
      have hrr : rung .f32 b = b % 2147483648 := by unfold rung; rw [sw32]
      omega
  obtain ⟨s, h3, h4, h5⟩ := part_sum hb hr.1 hr.2
  have inf64 : FloatKind.f64.format.infRung = 9218868437227405312 := by decide
  have rS : rung .f64 cS = 4611686018158952448 := by decide
  have rT : rung .f64 cT = 4611686018427387904 := by decide
  have rH : rung .f64 cH = 4607182418531581952 := by decide
  have fs : Fin .f64 s := by unfold Fin; omega
  have fT : Fin .f64 cT := by unfold Fin; omega
  have fH : Fin .f64 cH := by unfold Fin; omega
  obtain ⟨h, q1, q2⟩ := div_sign .f64 fs fT (by omega)
  obtain ⟨D, hD⟩ : ∃ D : Nat, D = 1074 := ⟨_, rfl⟩
  obtain ⟨h', q3, q4⟩ := div_size .f64 fs fT fH (by omega) D (by rw [hD]; decide) (by
    have c1 := (zv_le .f64).2 h5
    have c2 : zv .f64 (rung .f64 cS) * 2 ^ D ≤ zv .f64 (rung .f64 cH) * zv .f64 (rung .f64 cT) := by rw [hD]; decide +kernel
    exact Nat.le_trans (Nat.mul_le_mul_right _ c1) c2)
  rw [q1] at q3; cases q3
  have sT : sgn .f64 cT = false := by decide
  rw [h4, sT] at q2
  have fh : Fin .f64 h := by unfold Fin; omega
  obtain ⟨fp1, fp2, fp3⟩ := fd_tab ⟨p, by omega⟩
  have tb := part_tab ⟨p, by omega⟩ hp
  dsimp only at fp1 fp2 fp3 tb
  obtain ⟨m, q5, q6⟩ := mul_sign .f64 fh (show Fin .f64 (fd (p : Nat)) from fp1)
  obtain ⟨m', u, q7, q8, q9⟩ := mul_size .f64 fh (show Fin .f64 (fd (p : Nat)) from fp1) fH (show Fin .f64 (fd (p : Nat)) from fp1) q4 (Nat.le_refl _)
  rw [q5] at q7; cases q7
  rw [q8] at tb
  simp only [Bool.and_eq_true, decide_eq_true_eq] at tb
  have q2' : sgn .f64 h = false := q2
  rw [q2', fp2] at q6
  have fm : rung .f64 m < FloatKind.f64.format.infRung := by omega
  have hw : whl D m < p := by
    unfold whl
    have c3 := (zv_le .f64).2 q9
    have tb1 : zv .f64 (rung .f64 u) < p * 2 ^ D := by rw [hD]; exact tb.1
    clear tb
    exact Nat.div_lt_of_lt_mul (by rw [Nat.mul_comm]; exact Nat.lt_of_le_of_lt c3 tb1)
  have hti := toInt_whole hD fm (by omega)
  have q6' : sgn .f64 m = false := q6
  rw [q6'] at hti
  have aw : ab .f64 (FloatKind.f64.encode (FloatKind.f32.decode b)) = some (FloatKind.f64.encode (FloatKind.f32.decode b)) := ab_wide hb
  refine ⟨s, h, m, whl D m, ?_, q1, q5, ?_, hw⟩
  · have hwd : wide (some b) = some (FloatKind.f64.encode (FloatKind.f32.decode b)) := rfl
    rw [hwd]
    exact h3
  · rw [hti]; simp [sg]
end Fl
end Go.Proofs.Ytecgipilamefmaa

/- Quarters between neighbours: halving sums in 64 bits is exact, and narrowing takes the nearer one. -/
set_option linter.unusedVariables false
set_option linter.unusedSimpArgs false
namespace Go.Proofs.Ytecgipilamefmaa
namespace Fl
open Ieee
theorem zv_succ {r m e : Nat} (hme : (r < FloatKind.f32.format.binade ∧ m = r ∧ e = 0) ∨ (¬ r < FloatKind.f32.format.binade ∧ m = FloatKind.f32.format.binade + r % FloatKind.f32.format.binade ∧ e = r / FloatKind.f32.format.binade - 1)) : zv .f32 (r + 1) = (m + 1) * 2 ^ e := by
  have hb : FloatKind.f32.format.binade = 8388608 := by decide
  unfold zv
  rw [hb] at hme ⊢
  rcases hme with ⟨h, rfl, rfl⟩ | ⟨h, rfl, rfl⟩
  · by_cases h1 : m + 1 < 8388608
    · rw [if_pos h1]; simp
    · have : m + 1 = 8388608 := by omega
      rw [if_neg h1, this]
  · rw [if_neg (by omega)]
    by_cases h1 : r % 8388608 + 1 < 8388608
    · rw [show (r + 1) % 8388608 = r % 8388608 + 1 by omega, show (r + 1) / 8388608 = r / 8388608 by omega]
      congr 1
    · rw [show (r + 1) % 8388608 = 0 by omega, show (r + 1) / 8388608 = r / 8388608 + 1 by omega, show r % 8388608 = 8388607 by omega]
      obtain ⟨q, hq⟩ : ∃ q, r / 8388608 = q + 1 := ⟨r / 8388608 - 1, by omega⟩
      rw [hq, show q + 1 + 1 - 1 = q + 1 by omega, show q + 1 - 1 = q by omega, Nat.pow_succ]
      generalize 2 ^ q = p
      omega
/-- the quarter points between two neighbours, rounded -/
theorem near_quarter {r m e j : Nat} (s : Bool) (hr : r + 1 < FloatKind.f32.format.infRung) (hj : j = 1 ∨ j = 2 ∨ j = 3) (hm : m < 2 ^ (FloatKind.f32.format.fractionBits + 1))
    (hme : (r < FloatKind.f32.format.binade ∧ m = r ∧ e = 0) ∨ (¬ r < FloatKind.f32.format.binade ∧ m = FloatKind.f32.format.binade + r % FloatKind.f32.format.binade ∧ e = r / FloatKind.f32.format.binade - 1)) :
    rung .f32 (FloatKind.f32.format.nearest s (4 * m + j) (FloatKind.f32.format.leastPlace + (e : Int) - 2)) = r + (if j = 1 then 0 else if j = 3 then 1 else r % 2) := by
  have hb : FloatKind.f32.format.binade = 8388608 := by decide
  have hi : FloatKind.f32.format.infRung = 2139095040 := by decide
  have hf : FloatKind.f32.format.fractionBits = 23 := by decide
  have hlp : FloatKind.f32.format.leastPlace = -149 := by decide
  rw [hb] at hme
  rw [hi] at hr
  rw [hf] at hm
  have hm2 : m < 16777216 := hm
  have hne : 4 * m + j ≠ 0 := by omega
  have hlog : max (FloatKind.f32.format.leastPlace + (e : Int) - 2 + ((4 * m + j).log2 : Int) - FloatKind.f32.format.fractionBits) FloatKind.f32.format.leastPlace = FloatKind.f32.format.leastPlace + (e : Int) := by
    rw [hf]
    rcases hme with ⟨h, h2, rfl⟩ | ⟨h, h2, h3⟩
    · have : (4 * m + j).log2 < 25 := (Nat.log2_lt hne).2 (by omega)
      omega
    · have h4 : (4 * m + j).log2 < 26 := (Nat.log2_lt hne).2 (by omega)
      have h5 : ¬ (4 * m + j).log2 < 25 := fun hlt => by have := (Nat.log2_lt hne).1 hlt; omega
      omega
  rw [nearest_form .f32 s (4 * m + j) _ hne _ hlog]
  obtain ⟨c, hc, c1, c2, c3, c4⟩ := cut_spec s ((4 * m + j) * 2 ^ (FloatKind.f32.format.leastPlace + (e : Int) - 2 - (FloatKind.f32.format.leastPlace + (e : Int))).toNat) (FloatKind.f32.format.leastPlace + (e : Int) - (FloatKind.f32.format.leastPlace + (e : Int) - 2)).toNat
  rw [hc]
  rw [show (FloatKind.f32.format.leastPlace + (e : Int) - 2 - (FloatKind.f32.format.leastPlace + (e : Int))).toNat = 0 by omega, show (FloatKind.f32.format.leastPlace + (e : Int) - (FloatKind.f32.format.leastPlace + (e : Int) - 2)).toNat = 2 by omega] at c1 c2 c3 c4
  rw [show (FloatKind.f32.format.leastPlace + (e : Int) - FloatKind.f32.format.leastPlace).toNat = e by omega, hb, hi]
  simp only [Nat.pow_zero, Nat.mul_one, show (2 : Nat) ^ 2 = 4 from rfl] at c1 c2 c3 c4
  clear hc hlog
  have hbase : e * 8388608 + m = r := by rcases hme with ⟨h, h2, rfl⟩ | ⟨h, h2, h3⟩ <;> omega
  rcases hj with rfl | rfl | rfl
  · have : c = m := by omega
    rw [if_pos rfl, this]; omega
  · rw [if_neg (by decide), if_neg (by decide)]
    omega
  · have : c = m + 1 := by omega
    rw [if_neg (by decide), if_pos rfl, this]; omega
theorem narrow_val {t M ρ : Nat} {P : Int} (ft : Fin .f64 t) (hP : -1074 ≤ P) (hv : zv .f64 (rung .f64 t) = M * 2 ^ (P + 1074).toNat) (hN : ∀ s, rung .f32 (FloatKind.f32.format.nearest s M P) = ρ) (hρ : ρ < FloatKind.f32.format.infRung) :
    ∃ r, convO .f64 .f32 (some t) = some r ∧ r < 4294967296 ∧ rung .f32 r = ρ ∧ sgn .f32 r = sgn .f64 t ∧ Fits .f64 .f32 t := by
  obtain ⟨m, ex, hr, hm⟩ := read_fin .f64 ft
  have lp : FloatKind.f64.format.leastPlace = -1074 := by decide
  have lp2 : FloatKind.f32.format.leastPlace = -149 := by decide
  have hd : FloatKind.f64.decode t = .number (sgn .f64 t) m (FloatKind.f64.format.leastPlace + ex) := hr
  have e1 : m * 2 ^ (FloatKind.f64.format.leastPlace + (ex : Int) - (-1074)).toNat = M * 2 ^ (P - (-1074)).toNat := by
    rw [show (FloatKind.f64.format.leastPlace + (ex : Int) - (-1074)).toNat = ex by omega, ← hm, hv, show P - (-1074) = P + 1074 by omega]
  have h1 := nearest_mono .f32 (sgn .f64 t) (sgn .f64 t) (mag := m) (mag' := M) (place := FloatKind.f64.format.leastPlace + (ex : Int)) (place' := P) (b := -1074) (by omega) hP (by omega) (Nat.le_of_eq e1)
  have h2 := nearest_mono .f32 (sgn .f64 t) (sgn .f64 t) (mag := M) (mag' := m) (place := P) (place' := FloatKind.f64.format.leastPlace + (ex : Int)) (b := -1074) hP (by omega) (by omega) (Nat.le_of_eq e1.symm)
  have hrr : rung .f32 (FloatKind.f32.format.nearest (sgn .f64 t) m (FloatKind.f64.format.leastPlace + (ex : Int))) = ρ := by
    have := hN (sgn .f64 t)
    omega
  have hconv : convO .f64 .f32 (some t) = some (FloatKind.f32.format.nearest (sgn .f64 t) m (FloatKind.f64.format.leastPlace + (ex : Int))) := by
    show some (FloatKind.f32.encode (FloatKind.f64.decode t)) = _
    rw [hd]; rfl
  refine ⟨_, hconv, ?_, hrr, sgn_nearest _ _ _ _, ?_⟩
  · exact FloatKind.f32.format.write_lt (.number (sgn .f64 t) m (FloatKind.f64.format.leastPlace + (ex : Int)))
  · refine .inr ?_
    rw [hd]
    show (FloatKind.f32.format.read (FloatKind.f32.format.nearest (sgn .f64 t) m (FloatKind.f64.format.leastPlace + (ex : Int)))).isInfinity = false
    rw [isInf_read _ (bin_le .f32)]
    exact decide_eq_false (by unfold rung at hrr; omega)
theorem rung_lit {r : Nat} (h : r < FloatKind.f64.format.infRung) : rung .f64 r = r := by
  have h1 := FloatKind.f64.format.infRung_lt
  unfold rung
  exact Nat.mod_eq_of_lt (by omega)
/-- the mean of two quarter points, in 64 bits -/
theorem mean_quarter {u v m i k E : Nat} {s : Bool} (fu : Fin .f64 u) (fv : Fin .f64 v) (hm : m < 16777216) (hi : i ≤ 4) (hk : k ≤ 4) (hik : (i + k) % 2 = 0) (hE : E ≤ 1300)
    (vu : sv .f64 u = sg s ((4 * m + i) * 2 ^ E)) (vv : sv .f64 v = sg s ((4 * m + k) * 2 ^ E)) :
    ∃ t, opO .quo .f64 (opO .add .f64 (some u) (some v)) (some cTwo) = some t ∧ Fin .f64 t ∧ sv .f64 t = sg s ((4 * m + (i + k) / 2) * 2 ^ E) := by
  have hb : FloatKind.f64.format.binade = 4503599627370496 := by decide
  have hin : FloatKind.f64.format.infRung = 9218868437227405312 := by decide
  have hbd : 2 ^ (FloatKind.f64.format.fractionBits + 1) = 9007199254740992 := by decide
  obtain ⟨r, hr, hzr⟩ := rep .f64 (m := 8 * m + (i + k)) (e := E) (by rw [hbd]; omega) (by rw [hb, hin]; omega)
  have hsum : sv .f64 u + sv .f64 v = sg s ((8 * m + (i + k)) * 2 ^ E) := by
    rw [vu, vv]
    have e : (8 * m + (i + k)) * 2 ^ E = (4 * m + i) * 2 ^ E + (4 * m + k) * 2 ^ E := by rw [← Nat.add_mul]; congr 1; omega
    rw [e]
    cases s <;> simp only [sg, Bool.false_eq_true, if_false, if_true] <;> omega
  obtain ⟨z, hz, fz, vz⟩ := add_exact .f64 fu fv hr (by
    rw [hsum, hzr]
    cases s <;> simp only [sg, Bool.false_eq_true, if_false, if_true] <;> omega)
  obtain ⟨t0, ht0, hzt⟩ := rep .f64 (m := 4 * m + (i + k) / 2) (e := E) (by rw [hbd]; omega) (by rw [hb, hin]; omega)
  have ft0 : Fin .f64 t0 := by unfold Fin; rw [rung_lit ht0]; exact ht0
  have f2 : Fin .f64 cTwo := by unfold Fin; decide
  have e0 : zv .f64 (rung .f64 cTwo) = 2 * 2 ^ 1074 := by decide +kernel
  obtain ⟨Q, hQ⟩ : ∃ Q, Q = 1074 := ⟨_, rfl⟩
  rw [← hQ] at e0
  have hzz : zv .f64 (rung .f64 z) = (8 * m + (i + k)) * 2 ^ E := by
    rw [← sv_abs, vz, hsum]
    cases s <;> simp only [sg, Bool.false_eq_true, if_false, if_true] <;> omega
  have heq : zv .f64 (rung .f64 t0) * zv .f64 (rung .f64 cTwo) = zv .f64 (rung .f64 z) * 2 ^ Q := by
    rw [rung_lit ht0, hzt, e0, hzz]
    have : 8 * m + (i + k) = 2 * (4 * m + (i + k) / 2) := by omega
    rw [this]
    ac_rfl
  have hP : (Q : Int) = -FloatKind.f64.format.leastPlace := by rw [hQ]; decide
  obtain ⟨q, hq, hq1⟩ := div_size .f64 (x := z) (y := cTwo) (t := t0) fz f2 ft0 (by decide) Q hP (Nat.le_of_eq heq.symm)
  obtain ⟨q', hq', hq2⟩ := div_low .f64 (x := z) (y := cTwo) (t := t0) fz f2 ft0 (by decide) Q hP (Nat.le_of_eq heq)
  have g1 := Option.some.inj (hq.symm.trans hq'); rw [← g1] at hq2
  obtain ⟨q'', hq'', hs⟩ := div_sign .f64 (x := z) (y := cTwo) fz f2 (by decide)
  have g2 := Option.some.inj (hq.symm.trans hq''); rw [← g2, show sgn .f64 cTwo = false by decide, Bool.xor_false] at hs
  have hrq : rung .f64 q = t0 := by rw [rung_lit ht0] at hq1 hq2; omega
  refine ⟨q, ?_, by unfold Fin; rw [hrq]; exact ht0, ?_⟩
  · show opO .quo .f64 (floatBits .add .f64 u v) (some cTwo) = some q
    rw [hz]; exact hq
  · unfold sv at vz ⊢
    rw [hs, hrq, hzt]
    rw [hzz] at vz
    unfold sv at hsum
    rw [hsum] at vz
    by_cases h0 : 8 * m + (i + k) = 0
    · have : 4 * m + (i + k) / 2 = 0 := by omega
      rw [this, Nat.zero_mul]
      cases s <;> cases sgn .f64 z <;> rfl
    · have hpos : 0 < (8 * m + (i + k)) * 2 ^ E := Nat.mul_pos (by omega) (Nat.two_pow_pos _)
      have : sgn .f64 z = s := by
        cases h1 : sgn .f64 z <;> cases s <;> rw [h1] at vz <;> simp only [sg, Bool.false_eq_true, if_false, if_true] at vz <;> first | rfl | omega
      rw [this]
end Fl
end Go.Proofs.Ytecgipilamefmaa

/- Neighbours, and what is between them. -/
set_option linter.unusedVariables false
set_option linter.unusedSimpArgs false
namespace Go.Proofs.Ytecgipilamefmaa
open Fl Go.RowKit Ieee
def wd64 (b : Nat) : Nat := FloatKind.f64.encode (FloatKind.f32.decode b)
theorem wide_wd (b : Nat) : wide (some b) = some (wd64 b) := rfl
theorem wide_sv {b : Nat} (hb : rung .f32 b < FloatKind.f32.format.infRung) (D : Nat) (hD : D = 925) : sv .f64 (wd64 b) = sv .f32 b * ((2 ^ D : Nat) : Int) ∧ Fl.Fin .f64 (wd64 b) := by
  have h := wide_zv hb D hD
  refine ⟨?_, ?_⟩
  · unfold sv wd64
    rw [h.1, h.2]
    cases sgn .f32 b <;> simp only [sg, Bool.false_eq_true, if_false, if_true] <;> rw [Int.natCast_mul] <;> simp [Int.neg_mul]
  · refine (zv_lt .f64).1 ?_
    unfold wd64
    rw [h.2]
    exact Nat.lt_of_lt_of_le (Nat.mul_lt_mul_of_pos_right (zv_mono .f32 hb) (Nat.two_pow_pos _)) (by subst hD; decide +kernel)
theorem fits_nanW {r : Nat} (h : Fv .f64 r none) : Fits .f64 .f32 r := by
  refine .inr ?_
  have hn := read_nan (k := .f64) (b := r)
  rw [h.2] at hn
  cases hd : FloatKind.f64.decode r with
  | nan s f => trivial
  | infinity s => trivial
  | number g m e =>
    have hd' : FloatKind.f64.format.read r = .number g m e := hd
    rw [hd'] at hn; cases hn
theorem fin_of {b : Nat} (hb : b < 4294967296) (h : finB b = true) : rung .f32 b < FloatKind.f32.format.infRung ∧ ab .f32 b = some b := by
  have hf2 : b % 2147483648 < 2139095040 := by unfold finB at h; exact of_decide_eq_true h
  exact ⟨by unfold rung; rw [sw32, ir32]; exact hf2, by rw [ab32, if_neg (by omega)]⟩
theorem word_ext32N {x y : Nat} (hx : x < 4294967296) (hy : y < 4294967296) (h1 : rung .f32 x = rung .f32 y) (h2 : sgn .f32 x = sgn .f32 y) : x = y := by
  unfold rung at h1
  unfold sgn at h2
  rw [sw32] at h1 h2
  have a1 : x / 2147483648 < 2 := by omega
  have a2 : y / 2147483648 < 2 := by omega
  have e : x / 2147483648 = y / 2147483648 := by
    rcases (show x / 2147483648 = 0 ∨ x / 2147483648 = 1 by omega) with h | h <;> rcases (show y / 2147483648 = 0 ∨ y / 2147483648 = 1 by omega) with h' | h' <;> rw [h, h'] at h2 ⊢ <;> simp at h2
  omega
theorem narrow_wide (b : Nat) (hb : b < 4294967296) : ∀ r, Fv .f64 r (wide (ab .f32 b)) → convO .f64 .f32 (wide (ab .f32 b)) = ab .f32 b ∧ Fits .f64 .f32 r := by
  intro r hr
  cases hf : finB b
  · have hf2 : ¬ b % 2147483648 < 2139095040 := by unfold finB at hf; exact of_decide_eq_false hf
    by_cases hi : b % 2147483648 = 2139095040
    · rcases (show b = 2139095040 ∨ b = 4286578688 by omega) with rfl | rfl
      · have e : wide (ab .f32 2139095040) = some 9218868437227405312 := by decide +kernel
        rw [e] at hr ⊢
        obtain rfl := ab_some hr.2
        exact ⟨by decide +kernel, .inr (by rw [show FloatKind.f64.decode 9218868437227405312 = .infinity false by rfl]; trivial)⟩
      · have e : wide (ab .f32 4286578688) = some 18442240474082181120 := by decide +kernel
        rw [e] at hr ⊢
        obtain rfl := ab_some hr.2
        exact ⟨by decide +kernel, .inr (by rw [show FloatKind.f64.decode 18442240474082181120 = .infinity true by rfl]; trivial)⟩
    · have e : ab .f32 b = none := by rw [ab32, if_pos (by omega)]
      rw [e] at hr ⊢
      exact ⟨rfl, fits_nanW hr⟩
  · obtain ⟨h1, h2⟩ := fin_of hb hf
    rw [h2, wide_wd] at hr ⊢
    obtain rfl := ab_some hr.2
    obtain ⟨D, hD⟩ : ∃ D, D = 925 := ⟨_, rfl⟩
    obtain ⟨hs, hfin⟩ := wide_sv h1 D hD
    have hz := wide_zv h1 D hD
    obtain ⟨m, e, hzr, hform, _⟩ := rung_form .f32 (rung .f32 b)
    have lp2 : FloatKind.f32.format.leastPlace = -149 := by decide
    obtain ⟨r, c1, c2, c3, c4, c5⟩ := narrow_val (t := wd64 b) (M := m) (ρ := rung .f32 b) (P := FloatKind.f32.format.leastPlace + (e : Int)) hfin (by omega) (by
      have : zv .f64 (rung .f64 (wd64 b)) = zv .f32 (rung .f32 b) * 2 ^ D := hz.2
      rw [this, hzr, show (FloatKind.f32.format.leastPlace + (e : Int) + 1074).toNat = e + D by omega, Nat.pow_add, Nat.mul_assoc]) (fun s => nearest_rung .f32 s h1 hzr hform) h1
    refine ⟨?_, c5⟩
    rw [c1, word_ext32N c2 hb c3 (c4.trans hz.1)]
theorem ord_keyN {a b : Nat} (ha : ab .f32 a = some a) (hb : ab .f32 b = some b) (h : key .f32 a = key .f32 b) : FloatKind.f32.format.order a b = some .eq := by
  rw [order_key .f32 ha hb, cmp_def, if_neg (by omega), if_pos h]
/-- one point, narrowed -/
theorem point_narrow {t m e ρ j : Nat} {s : Bool} (ft : Fl.Fin .f64 t) (hρ : ρ + 1 < FloatKind.f32.format.infRung) (hj : j = 1 ∨ j = 2 ∨ j = 3) (hm : m < 2 ^ (FloatKind.f32.format.fractionBits + 1))
    (hme : (ρ < FloatKind.f32.format.binade ∧ m = ρ ∧ e = 0) ∨ (¬ ρ < FloatKind.f32.format.binade ∧ m = FloatKind.f32.format.binade + ρ % FloatKind.f32.format.binade ∧ e = ρ / FloatKind.f32.format.binade - 1))
    (hv : sv .f64 t = sg s ((4 * m + j) * 2 ^ (e + 923))) :
    ∃ r, convO .f64 .f32 (some t) = some r ∧ r < 4294967296 ∧ ab .f32 r = some r ∧ key .f32 r = sg s (ρ + (if j = 1 then 0 else if j = 3 then 1 else ρ % 2)) ∧ Fits .f64 .f32 t := by
  have lp2 : FloatKind.f32.format.leastPlace = -149 := by decide
  have hzt : zv .f64 (rung .f64 t) = (4 * m + j) * 2 ^ (e + 923) := by
    rw [← sv_abs, hv]
    cases s <;> simp only [sg, Bool.false_eq_true, if_false, if_true] <;> omega
  have hd : ρ + (if j = 1 then 0 else if j = 3 then 1 else ρ % 2) < FloatKind.f32.format.infRung := by
    split
    · omega
    · split <;> omega
  obtain ⟨r, c1, c2, c3, c4, c5⟩ := narrow_val (t := t) (M := 4 * m + j) (P := FloatKind.f32.format.leastPlace + (e : Int) - 2) ft (by omega) (by
    rw [hzt, show (FloatKind.f32.format.leastPlace + (e : Int) - 2 + 1074).toNat = e + 923 by omega]) (fun s => near_quarter s hρ hj hm hme) hd
  have hs : sgn .f64 t = s := by
    have hpos : 0 < (4 * m + j) * 2 ^ (e + 923) := Nat.mul_pos (by omega) (Nat.two_pow_pos _)
    unfold sv at hv
    rw [hzt] at hv
    cases h1 : sgn .f64 t <;> cases s <;> rw [h1] at hv <;> simp only [sg, Bool.false_eq_true, if_false, if_true] at hv <;> first | rfl | omega
  refine ⟨r, c1, c2, ?_, ?_, c5⟩
  · have hi : FloatKind.f32.format.infRung = 2139095040 := by decide
    rw [ab32, if_neg]
    unfold rung at c3
    rw [sw32] at c3
    omega
  · unfold key
    rw [c3, c4, hs]
/-- between two neighbours -/
theorem between_core {x y ρ ix : Nat} {s : Bool} (hx : x < 4294967296) (hy : y < 4294967296) (fx : finB x = true) (fy : finB y = true) (hix : ix = 0 ∨ ix = 4) (hρ : ρ + 1 < FloatKind.f32.format.infRung)
    (kx : key .f32 x = sg s (ρ + ix / 4)) (ky : key .f32 y = sg s (ρ + (4 - ix) / 4)) (px : x % 2 = (ρ + ix / 4) % 2)
    (svx : sv .f32 x = sg s (zv .f32 (ρ + ix / 4))) (svy : sv .f32 y = sg s (zv .f32 (ρ + (4 - ix) / 4))) :
    ∃ mid low high : Nat, opO .quo .f64 (opO .add .f64 (wide (some x)) (wide (some y))) (some cTwo) = some mid ∧ opO .quo .f64 (opO .add .f64 (wide (some x)) (some mid)) (some cTwo) = some low ∧ opO .quo .f64 (opO .add .f64 (wide (some y)) (some mid)) (some cTwo) = some high
      ∧ (∃ r, convO .f64 .f32 (some mid) = some r ∧ FloatKind.f32.format.order r (if x % 2 = 1 then y else x) = some .eq) ∧ (∃ r, convO .f64 .f32 (some low) = some r ∧ FloatKind.f32.format.order r x = some .eq) ∧ (∃ r, convO .f64 .f32 (some high) = some r ∧ FloatKind.f32.format.order r y = some .eq)
      ∧ Fits .f64 .f32 mid ∧ Fits .f64 .f32 low ∧ Fits .f64 .f32 high := by
  obtain ⟨rx, ax⟩ := fin_of hx fx
  obtain ⟨ry, ay⟩ := fin_of hy fy
  obtain ⟨D, hD⟩ : ∃ D, D = 925 := ⟨_, rfl⟩
  obtain ⟨wx, fwx⟩ := wide_sv rx D hD
  obtain ⟨wy, fwy⟩ := wide_sv ry D hD
  obtain ⟨m, e, hz, hme, hm⟩ := rung_form .f32 ρ
  have hz1 := zv_succ hme
  have hb32 : FloatKind.f32.format.binade = 8388608 := by decide
  have hi32 : FloatKind.f32.format.infRung = 2139095040 := by decide
  have he : e ≤ 254 := by
    rcases hme with ⟨_, _, rfl⟩ | ⟨_, _, rfl⟩
    · omega
    · rw [hb32]; omega
  have hm2 : m < 16777216 := hm
  have hpt : ∀ i, i = 0 ∨ i = 4 → ∀ v : Int, v = sg s (zv .f32 (ρ + i / 4)) → v * ((2 ^ D : Nat) : Int) = sg s ((4 * m + i) * 2 ^ (e + 923)) := by
    intro i hi v hv
    have e1 : zv .f32 (ρ + i / 4) * 2 ^ D = (4 * m + i) * 2 ^ (e + 923) := by
      have e2 : 2 ^ D = 2 ^ 2 * 2 ^ 923 := (congrArg (fun k => 2 ^ k) (show D = 2 + 923 by omega)).trans (Nat.pow_add 2 2 923)
      rcases hi with rfl | rfl
      · rw [show ρ + 0 / 4 = ρ by omega, hz, e2, Nat.pow_add]
        generalize 2 ^ 923 = z
        rw [Nat.add_zero, show (2 : Nat) ^ 2 = 4 from rfl]
        ac_rfl
      · rw [show ρ + 4 / 4 = ρ + 1 by omega, hz1, e2, Nat.pow_add]
        generalize 2 ^ 923 = z
        rw [show 4 * m + 4 = 4 * (m + 1) by omega, show (2 : Nat) ^ 2 = 4 from rfl]
        ac_rfl
    rw [hv, ← e1]
    cases s <;> simp only [sg, Bool.false_eq_true, if_false, if_true]
    · rw [Int.natCast_mul]
    · rw [Int.natCast_mul, Int.neg_mul]
  have vx := wx.trans (hpt ix hix _ svx)
  have vy := wy.trans (hpt (4 - ix) (by omega) _ svy)
  obtain ⟨mid, h1, f1, v1⟩ := mean_quarter fwx fwy hm2 (i := ix) (k := 4 - ix) (by omega) (by omega) (by omega) (by omega) vx vy
  rw [show (ix + (4 - ix)) / 2 = 2 by omega] at v1
  obtain ⟨low, h2, f2, v2⟩ := mean_quarter fwx f1 hm2 (i := ix) (k := 2) (by omega) (by omega) (by omega) (by omega) vx v1
  obtain ⟨high, h3, f3, v3⟩ := mean_quarter fwy f1 hm2 (i := 4 - ix) (k := 2) (by omega) (by omega) (by omega) (by omega) vy v1
  obtain ⟨r1, a1, b1, c1, d1, g1⟩ := point_narrow (ρ := ρ) f1 hρ (.inr (.inl rfl)) hm hme v1
  obtain ⟨r2, a2, b2, c2, d2, g2⟩ := point_narrow (ρ := ρ) (j := (ix + 2) / 2) f2 hρ (by omega) hm hme v2
  obtain ⟨r3, a3, b3, c3, d3, g3⟩ := point_narrow (ρ := ρ) (j := (4 - ix + 2) / 2) f3 hρ (by omega) hm hme v3
  refine ⟨mid, low, high, h1, h2, h3, ⟨r1, a1, ?_⟩, ⟨r2, a2, ?_⟩, ⟨r3, a3, ?_⟩, g1, g2, g3⟩
  · rw [if_neg (by decide), if_neg (by decide)] at d1
    by_cases ho : x % 2 = 1
    · rw [if_pos ho]
      refine ord_keyN c1 ay (d1.trans (ky.trans ?_).symm)
      congr 1
      rcases hix with rfl | rfl <;> omega
    · rw [if_neg ho]
      refine ord_keyN c1 ax (d1.trans (kx.trans ?_).symm)
      congr 1
      rcases hix with rfl | rfl <;> omega
  · refine ord_keyN c2 ax (d2.trans (kx.trans ?_).symm)
    congr 1
    rcases hix with rfl | rfl <;> rfl
  · refine ord_keyN c3 ay (d3.trans (ky.trans ?_).symm)
    congr 1
    rcases hix with rfl | rfl <;> rfl
end Go.Proofs.Ytecgipilamefmaa

/- The laws on bits, walked: each returns true, whatever it is called with. -/
set_option linter.unusedVariables false
set_option linter.unusedSimpArgs false
namespace Go.Proofs.Ytecgipilamefmaa
open Fl

theorem specBits_any (b : Nat) (w : World) (hb : b < 4294967296) :
    Calls Try.prog 32 #[.float .f32 b] w fun e w' => e = .returned (.int .i64 (bitsO (ab .f32 b) : Nat)) ∧ w = w' := by
  go_enter Try.func32, Try.ntmps32
  go_wp2_with (first | (go_at_call 61; refine (l01Bits_any _ _ hb).mono ?_; rintro e w' ⟨rfl, rfl⟩))
  go_ret
  exact ⟨rfl, rfl⟩

end Go.Proofs.Ytecgipilamefmaa

/- Draws: bytes that can be read, and the source of draws. -/
set_option linter.unusedVariables false
set_option linter.unusedSimpArgs false
namespace Go.Proofs.Ytecgipilamefmaa
open Fl Go.RowKit
theorem and255u (z : Int) : 0 ≤ wrap64 (bits BinOp.and IntKind.u64 z 255) ∧ wrap64 (bits BinOp.and IntKind.u64 z 255) < 256 := by
  have h : bits BinOp.and IntKind.u64 z 255 = z % 256 := by
    have hb : (BitVec.ofInt 64 255).toNat = 255 := by decide
    have ha : (BitVec.ofInt 64 z).toNat = (z % 18446744073709551616).toNat := by rw [BitVec.toNat_ofInt]; rfl
    have hw : ∀ n : Nat, n < 256 → IntKind.u64.wrap (n : Int) = n := fun n h => by rw [IntKind.wrap_u64]; omega
    show IntKind.u64.wrap (((BitVec.ofInt 64 z &&& BitVec.ofInt 64 255).toNat : Nat) : Int) = _
    rw [BitVec.toNat_and, ha, hb]
    have e : ∀ n : Nat, n &&& 255 = n % 256 := fun n => Nat.and_two_pow_sub_one_eq_mod n 8
    rw [e, hw _ (Nat.mod_lt _ (by decide))]
    omega
  rw [h]
  unfold wrap64
  omega
/-- bytes that can be read -/
def Bs (w : World) (B : Nat) (A : Option Addr) (n : Nat) (xs : List Int) : Prop :=
  xs.length = n ∧ (∀ k, 0 ≤ wi xs k ∧ wi xs k < 256) ∧ (0 < n → ∃ g off, A = some ⟨g, off, none⟩ ∧ g < B ∧ ∀ k, k < n → w.cell? ⟨g, off + k, none⟩ = some (.int .u8 (wi xs k)))
theorem Bs.keep {w w' : World} {B : Nat} {A : Option Addr} {n : Nat} {xs : List Int} (h : Bs w B A n xs) (hk : ∀ g o, g < B → w'.cell? ⟨g, o, none⟩ = w.cell? ⟨g, o, none⟩) : Bs w' B A n xs :=
  ⟨h.1, h.2.1, fun hn => by
    obtain ⟨g, off, e, hg, hc⟩ := h.2.2 hn
    exact ⟨g, off, e, hg, fun k hk' => (hk g _ hg).trans (hc k hk')⟩⟩
theorem Bs.more {w : World} {B B' : Nat} {A : Option Addr} {n : Nat} {xs : List Int} (h : Bs w B A n xs) (hB : B ≤ B') : Bs w B' A n xs :=
  ⟨h.1, h.2.1, fun hn => by
    obtain ⟨g, off, e, hg, hc⟩ := h.2.2 hn
    exact ⟨g, off, e, by omega, hc⟩⟩
theorem Bs.since {w w' : World} {B B' : Nat} {A : Option Addr} {n : Nat} {xs : List Int} (h : Bs w B A n xs) (hs : w.Since B' w') (hB : B ≤ B') : Bs w' B A n xs :=
  h.keep fun g o hg => hs.cell (a := ⟨g, o, none⟩) (by show g < B'; omega)
theorem Bs.drewN {w : World} {B : Nat} {A : Option Addr} {n : Nat} {xs : List Int} (h : Bs w B A n xs) (m : Nat) : Bs (w.drewN m) B A n xs := h.keep fun _ _ _ => rfl
/-- a source's block -/
def SrcB (w : World) (b : Nat) (A : Option Addr) (n c : Nat) (i sd : Int) : Prop := w.heap[b]? = some (.cells #[.slice A n c, .int .i64 i, .int .u64 sd] 74 (0, 0))
theorem SrcB.lt {w : World} {b n c : Nat} {A : Option Addr} {i sd : Int} (h : SrcB w b A n c i sd) : b < w.heap.size := (Array.getElem?_eq_some_iff.1 h).1
theorem SrcB.c0 {w : World} {b n c : Nat} {A : Option Addr} {i sd : Int} (h : SrcB w b A n c i sd) : w.cell? ⟨b, 0, none⟩ = some (.slice A n c) := by unfold SrcB at h; simp [World.cell?, h]
theorem SrcB.c1 {w : World} {b n c : Nat} {A : Option Addr} {i sd : Int} (h : SrcB w b A n c i sd) : w.cell? ⟨b, 1, none⟩ = some (.int .i64 i) := by unfold SrcB at h; simp [World.cell?, h]
theorem SrcB.c2 {w : World} {b n c : Nat} {A : Option Addr} {i sd : Int} (h : SrcB w b A n c i sd) : w.cell? ⟨b, 2, none⟩ = some (.int .u64 sd) := by unfold SrcB at h; simp [World.cell?, h]
theorem SrcB.free {w : World} {b n c q : Nat} {A : Option Addr} {i sd : Int} (h : SrcB w b A n c i sd) : w.frozen? ⟨b, q, none⟩ = false := by unfold SrcB at h; simp [World.frozen?, h]
theorem SrcB.of {w w' : World} {b n c : Nat} {A : Option Addr} {i sd : Int} (h : SrcB w b A n c i sd) (e : w'.heap[b]? = w.heap[b]?) : SrcB w' b A n c i sd := e.trans h
theorem SrcB.set1 {w : World} {b n c : Nat} {A : Option Addr} {i sd i' : Int} (h : SrcB w b A n c i sd) : SrcB (w.setCell ⟨b, 1, none⟩ (.int .i64 i')) b A n c i' sd := by
  unfold SrcB at h ⊢
  simp [World.setCell, Array.getElem?_modify, h]
theorem SrcB.set2 {w : World} {b n c : Nat} {A : Option Addr} {i sd sd' : Int} (h : SrcB w b A n c i sd) : SrcB (w.setCell ⟨b, 2, none⟩ (.int .u64 sd')) b A n c i sd' := by
  unfold SrcB at h ⊢
  simp [World.setCell, Array.getElem?_modify, h]
/-- a source in block b that has drawn at most K times, whose bytes lie in blocks before B -/
def Src (B b K : Nat) (w : World) : Prop := ∃ (A : Option Addr) (n c : Nat) (xs : List Int) (i sd : Int), SrcB w b A n c i sd ∧ Bs w B A n xs ∧ B ≤ b ∧ n ≤ 1048576 ∧ 0 ≤ i ∧ i ≤ (K : Int)
theorem Src.on {B b K : Nat} {w w' : World} (h : Src B b K w) (hs : w.Since (b + 1) w') : Src B b K w' := by
  obtain ⟨A, n, c, xs, i, sd, h1, h2, h3, h4, h5⟩ := h
  exact ⟨A, n, c, xs, i, sd, h1.of (hs.block b (by omega)), h2.since hs (by omega), h3, h4, h5⟩
theorem Src.up {B b K K' : Nat} {w : World} (h : Src B b K w) (hK : K ≤ K') : Src B b K' w := by
  obtain ⟨A, n, c, xs, i, sd, h1, h2, h3, h4, h5, h6⟩ := h
  exact ⟨A, n, c, xs, i, sd, h1, h2, h3, h4, h5, by omega⟩
theorem Src.lt {B b K : Nat} {w : World} (h : Src B b K w) : b < w.heap.size := by
  obtain ⟨A, n, c, xs, i, sd, h1, h2, h3, h4, h5, h6⟩ := h
  exact h1.lt
theorem Src.drewN {B b K : Nat} {w : World} (h : Src B b K w) (m : Nat) : Src B b K (w.drewN m) := h.on (since_drewN (World.Since.refl _ _) m)
theorem on_post {b lo : Nat} {w a c : World} (h : On b w a) (s : a.Since lo c) (hl : w.heap.size ≤ lo) (hb : b < w.heap.size) : On b w c :=
  ⟨h.1.trans (since_mono s (by omega)), fun x hx hn => (s.block x (by omega)).trans (h.2 x hx hn)⟩
theorem Src.low {B b K : Nat} {w : World} (h : Src B b K w) : B ≤ b := by
  obtain ⟨A, n, c, xs, i, sd, h1, h2, h3, h4, h5, h6⟩ := h
  exact h3
set_option maxHeartbeats 4000000 in
set_option maxRecDepth 100000 in
theorem next_any (B b K : Nat) (w : World) (h : Src B b K w) (hK : K ≤ 1000000000) :
    Calls Try.prog 76 #[.pointer (some ⟨b, 0, none⟩)] w fun e w' => ∃ v : Int, e = .returned (.int .i64 v) ∧ 0 ≤ v ∧ v < 256 ∧ Src B b (K + 1) w' ∧ On b w w' := by
  obtain ⟨A, n, c, xs, i, sd, h1, h2, h3, h4, h5, h6⟩ := h
  have H1 := Lib.hid h1; have H2 := Lib.hid h2
  have c0 := h1.c0; have c1 := h1.c1; have c2 := h1.c2
  have f1 := h1.free (q := 1); have f2 := h1.free (q := 2)
  clear h1 h2
  by_cases hi : i < (n : Int)
  · have hd : decide (i < (n : Int)) = true := decide_eq_true hi
    have hd2 : decide (i + 1 ≤ (n : Int)) = true := decide_eq_true (by omega)
    obtain ⟨j, rfl⟩ := Int.eq_ofNat_of_zero_le h5
    obtain ⟨g, off, rfl, hg, hc⟩ := H2.out.2.2 (by omega)
    have hcell := hc j (by omega)
    have hv := H2.out.2.1 j
    clear hc
    go_enter Try.func76, Try.ntmps76
    go_wp2_with fail
    go_quiet (fail)
    go_wp2_with fail
    go_quiet (fail)
    go_wp2_with fail
    generalize IntKind.wrap .u64 (IntKind.wrap .u64 (_ + _) + 1442695040888963407) = sd'
    generalize hW : World.setCell _ _ _ = W
    have B1 : Hid (SrcB W b (some ⟨g, off, none⟩) n c ((j : Int) + 1) sd') := Lib.hid (by rw [← hW]; exact H1.out.set1.set2)
    have O1 : Hid (On b w W) := Lib.hid (by rw [← hW]; exact ((On.refl _ _).set _ _).set _ _)
    have d0 := B1.out.c0; have d1 := B1.out.c1; have d2 := B1.out.c2
    clear hW
    go_quiet (fail)
    go_wp2
    go_ret
    exact ⟨_, rfl, hv.1, hv.2, ⟨_, n, c, xs, _, sd', B1.out, by first | exact (H2.out.since O1.out.1 h3).drewN _ | exact ((H2.out.since O1.out.1 h3).drewN _).drewN _, h3, h4, by omega, by omega⟩, by first | exact O1.out.drewN _ | exact (O1.out.drewN _).drewN _⟩
  · have hd : decide (i < (n : Int)) = false := decide_eq_false hi
    have hd2 : decide (i + 1 ≤ (n : Int)) = false := decide_eq_false (by omega)
    go_enter Try.func76, Try.ntmps76
    go_wp2_with fail
    go_quiet (fail)
    go_wp2_with fail
    generalize IntKind.wrap .u64 (IntKind.wrap .u64 _ + 1442695040888963407) = sd'
    generalize hW : World.setCell _ _ _ = W
    have B1 : Hid (SrcB W b A n c (i + 1) sd') := Lib.hid (by rw [← hW]; exact H1.out.set1.set2)
    have O1 : Hid (On b w W) := Lib.hid (by rw [← hW]; exact ((On.refl _ _).set _ _).set _ _)
    have d0 := B1.out.c0; have d1 := B1.out.c1; have d2 := B1.out.c2
    clear hW
    go_quiet (fail)
    go_wp2
    go_ret
    have h255 := and255u (sd' / 1099511627776)
    exact ⟨_, rfl, h255.1, h255.2, ⟨_, n, c, xs, _, sd', B1.out, by first | exact (H2.out.since O1.out.1 h3).drewN _ | exact ((H2.out.since O1.out.1 h3).drewN _).drewN _, h3, h4, by omega, by omega⟩, by first | exact O1.out.drewN _ | exact (O1.out.drewN _).drewN _⟩
end Go.Proofs.Ytecgipilamefmaa

/- Draws: picks of numbers. -/
set_option linter.unusedVariables false
set_option linter.unusedSimpArgs false
namespace Go.Proofs.Ytecgipilamefmaa
open Fl Go.RowKit
set_option maxHeartbeats 4000000 in
set_option maxRecDepth 100000 in
theorem pick_any (B b K : Nat) (n : Int) (w : World) (h : Src B b K w) (hK : K ≤ 1000000) (hn : n ≤ 1000000000) :
    Calls Try.prog 51 #[.pointer (some ⟨b, 0, none⟩), .int .i64 n] w fun e w' => ∃ v : Int, e = .returned (.int .i64 v) ∧ 0 ≤ v ∧ (1 ≤ n → v < n) ∧ Src B b (K + 2) w' ∧ On b w w' := by
  by_cases h1 : n ≤ 1
  · have hd : decide (n ≤ 1) = true := decide_eq_true h1
    go_enter Try.func51, Try.ntmps51
    go_wp2
    go_ret
    exact ⟨0, rfl, by omega, fun _ => by omega, h.up (by omega), On.refl _ _⟩
  · have hd : decide (n ≤ 1) = false := decide_eq_false h1
    have hz : n ≠ 0 := by omega
    have HH := Lib.hid h; clear h
    by_cases h2 : 200 < n
    · have hd2 : decide (200 < n) = true := decide_eq_true h2
      go_enter Try.func51, Try.ntmps51
      go_wp2_with fail
      refine (next_any B b K w HH.out (by omega)).mono ?_
      rintro e w1 ⟨v1, rfl, a1, a2, s1, o1⟩
      have S1 := Lib.hid s1; have O1 := Lib.hid o1; clear s1 o1
      go_wp2_with fail
      refine (next_any B b (K + 1) w1 S1.out (by omega)).mono ?_
      rintro e w2 ⟨v2, rfl, a3, a4, s2, o2⟩
      have S2 := Lib.hid s2; have O2 := Lib.hid o2; clear s2 o2
      go_wp2
      go_ret
      exact ⟨_, rfl, by exact Int.emod_nonneg _ hz, fun _ => by exact Int.emod_lt_of_pos _ (by omega), S2.out, O1.out.trans O2.out⟩
    · have hd2 : decide (200 < n) = false := decide_eq_false h2
      go_enter Try.func51, Try.ntmps51
      go_wp2_with fail
      refine (next_any B b K w HH.out (by omega)).mono ?_
      rintro e w1 ⟨v1, rfl, a1, a2, s1, o1⟩
      have S1 := Lib.hid s1; have O1 := Lib.hid o1; clear s1 o1
      go_wp2
      go_ret
      exact ⟨_, rfl, by exact Int.emod_nonneg _ hz, fun _ => by exact Int.emod_lt_of_pos _ (by omega), S1.out.up (by omega), O1.out⟩
theorem one_any (B b K : Nat) (n : Int) (w : World) (h : Src B b K w) (hK : K ≤ 1000000) (hn : n ≤ 1000000000) :
    Calls Try.prog 56 #[.pointer (some ⟨b, 0, none⟩), .int .i64 n] w fun e w' => ∃ v : Bool, e = .returned (.bool v) ∧ Src B b (K + 2) w' ∧ On b w w' := by
  have HH := Lib.hid h; clear h
  go_enter Try.func56, Try.ntmps56
  go_wp2_with fail
  refine (pick_any B b K n w HH.out hK hn).mono ?_
  rintro e w1 ⟨v1, rfl, a1, a2, s1, o1⟩
  have S1 := Lib.hid s1; have O1 := Lib.hid o1; clear s1 o1
  go_wp2
  go_ret
  exact ⟨_, rfl, S1.out, O1.out⟩
/-- one of a list of numbers that lie in a block of their own -/
theorem among_any (B b K g n : Nat) (xs : List Int) (w : World) (h : Src B b K w) (hK : K ≤ 1000000) (hx : Is w w.heap.size (some ⟨g, 0, none⟩) n xs) (h0 : 0 < n) (hn : n ≤ 1000000) (hg : b < g) (hlt : g < w.heap.size) :
    Calls Try.prog 78 #[.pointer (some ⟨b, 0, none⟩), .slice (some ⟨g, 0, none⟩) n n] w fun e w' => ∃ k : Nat, e = .returned (.int .i64 (wi xs k)) ∧ k < n ∧ Src B b (K + 2) w' ∧ On b w w' := by
  have HH := Lib.hid h; have HX := Lib.hid hx; clear h hx
  go_enter Try.func78, Try.ntmps78
  go_wp2_with fail
  refine (pick_any B b K n w HH.out hK (by omega)).mono ?_
  rintro e w1 ⟨v1, rfl, a1, a2, s1, o1⟩
  have S1 := Lib.hid s1; have O1 := Lib.hid o1; clear s1 o1
  obtain ⟨k, rfl⟩ := Int.eq_ofNat_of_zero_le a1
  have hk : k < n := by have := a2 (by omega); omega
  have hcell : w1.cell? ⟨g, k, none⟩ = some (.int .i64 (wi xs k)) := by
    obtain ⟨g', off, e, hg', hc⟩ := HX.out.2 h0
    injection e with e
    injection e with e1 e2
    subst e1; subst e2
    have := hc k hk
    rw [Nat.zero_add] at this
    exact (cell_of_block (O1.out.2 g hlt (by omega)) _).trans this
  go_wp2
  go_ret
  exact ⟨k, rfl, hk, S1.out, O1.out⟩
end Go.Proofs.Ytecgipilamefmaa

/- Draws: numbers and lists of numbers, of any bits. -/
set_option linter.unusedVariables false
set_option linter.unusedSimpArgs false
namespace Go.Proofs.Ytecgipilamefmaa
open Fl Go.RowKit
set_option maxHeartbeats 4000000 in
set_option maxRecDepth 100000 in
theorem plain_any (B b K : Nat) (w : World) (h : Src B b K w) (hK : K ≤ 900000) :
    Calls Try.prog 46 #[.pointer (some ⟨b, 0, none⟩)] w fun e w' => ∃ q Q, e = .returned (.float .f32 q) ∧ Hid (Fv .f32 q Q) ∧ Src B b (K + 4) w' ∧ On b w w' := by
  have HH := Lib.hid h; clear h
  go_enter Try.func46, Try.ntmps46
  go_wp2_with fail
  refine (pick_any B b K 129 w HH.out (by omega) (by omega)).mono ?_
  rintro e w1 ⟨v1, rfl, a1, a2, s1, o1⟩
  have a3 := a2 (by omega)
  have S1 := Lib.hid s1; have O1 := Lib.hid o1; clear s1 o1 a2
  go_wp2_with fail
  refine (one_any B b (K + 2) 4 w1 S1.out (by omega) (by omega)).mono ?_
  rintro e w2 ⟨v2, rfl, s2, o2⟩
  have S2 := Lib.hid s2; have O2 := Lib.hid o2; clear s2 o2
  have q1 := fI_fv (v1 - 64)
  have q7 : Hid (Fv .f32 1088421888 (some 1088421888)) := fvc (by decide) (by decide)
  have q16 : Hid (Fv .f32 1098907648 (some 1098907648)) := fvc (by decide) (by decide)
  cases v2
  all_goals
    go_wp2_with (with_reducible_and_instances refine Lo.wpList_fo _ rfl _ _ _ _ _ rfl _ _ _ _ _ rfl rfl rfl (by assumption) (by assumption) ?_; intro rr nn hrr)
    go_ret
    exact ⟨_, _, rfl, hrr, S2.out.drewN _, (O1.out.trans O2.out).drewN _⟩
theorem is_alloc (w : World) (T : TypeId) (xs : List Int) : Is (w.alloc (.cells (xs.map (Value.int .i64)).toArray T)) (w.alloc (.cells (xs.map (Value.int .i64)).toArray T)).heap.size (some ⟨w.heap.size, 0, none⟩) xs.length xs :=
  ⟨rfl, fun _ => ⟨w.heap.size, 0, rfl, by simp, fun k hk => by
    have h := Go.Deep.blk_alloc_new w (.cells (xs.map (Value.int .i64)).toArray T)
    rw [Nat.zero_add]
    unfold World.cell?
    simp only [h]
    simp [hk, iv, wi]⟩⟩
def numsA : List Int := [0, 2147483648, 2139095040, 4286578688, 2143289344, 1, 2139095039, 8388608, 8388607, 2147483649]
def numsB : List Int := [8388608, 2130706432, 1610612736, 536870912]
theorem numsA_in : ∀ k, k < 10 → 0 ≤ wi numsA k ∧ wi numsA k < 4294967296 := by decide
theorem numsB_in : ∀ k, k < 4 → 0 ≤ wi numsB k ∧ wi numsB k < 4294967296 := by decide
theorem from_int (z : Int) (h0 : 0 ≤ z) (h1 : z < 4294967296) (w : World) : Calls Try.prog 57 #[.int .i64 z] w fun e w' => ∃ q, e = .returned (.float .f32 q) ∧ Hid (Fv .f32 q (ab .f32 q)) ∧ w = w' := by
  obtain ⟨m, rfl⟩ := Int.eq_ofNat_of_zero_le h0
  have hm : m < 4294967296 := by omega
  exact (l01From_any m w hm).mono fun e w' ⟨h1, h2⟩ => ⟨m, h1, Lib.hid ⟨hm, rfl⟩, h2⟩
set_option maxHeartbeats 4000000 in
set_option maxRecDepth 100000 in
theorem float_any (B b K : Nat) (w : World) (h : Src B b K w) (hK : K ≤ 800000) :
    Calls Try.prog 58 #[.pointer (some ⟨b, 0, none⟩)] w fun e w' => ∃ q Q, e = .returned (.float .f32 q) ∧ Hid (Fv .f32 q Q) ∧ Src B b (K + 12) w' ∧ On b w w' := by
  have HH := Lib.hid h
  have hlt := h.lt
  clear h
  go_enter Try.func58, Try.ntmps58
  go_wp2_with fail
  refine (one_any B b K 12 w HH.out (by omega) (by omega)).mono ?_
  rintro e w1 ⟨v1, rfl, s1, o1⟩
  have S1 := Lib.hid s1; have O1 := Lib.hid o1; clear s1 o1
  cases v1
  · go_wp2_with fail
    refine (plain_any B b (K + 2) w1 S1.out (by omega)).mono ?_
    rintro e w2 ⟨q, Q, rfl, hq, s2, o2⟩
    have S2 := Lib.hid s2; have O2 := Lib.hid o2; clear s2 o2
    go_wp2
    go_ret
    exact ⟨_, _, rfl, hq, S2.out.up (by omega), O1.out.trans O2.out⟩
  · go_wp2_with fail
    refine (pick_any B b (K + 2) 4 w1 S1.out (by omega) (by omega)).mono ?_
    rintro e w2 ⟨v, rfl, a1, a2, s2, o2⟩
    have a3 := a2 (by omega)
    have S2 := Lib.hid s2; have O2 := Lib.hid (O1.out.trans o2); clear s2 o2 a2
    have hlt2 : b < w2.heap.size := S2.out.lt
    by_cases h0 : v = 0
    · subst h0
      go_wp2_with fail
      generalize hW : World.alloc _ _ = W
      have X1 : Hid (Is W W.heap.size (some ⟨w2.heap.size, 0, none⟩) 10 numsA) := Lib.hid (by rw [← hW]; exact is_alloc w2 2 numsA)
      have Z1 : Hid (W.heap.size = w2.heap.size + 1) := Lib.hid (by rw [← hW]; simp)
      have O3 : Hid (On b w W) := Lib.hid (by rw [← hW]; exact O2.out.alloc (by omega) _)
      have S3 : Hid (Src B b (K + 4) W) := Lib.hid (S2.out.on (by rw [← hW]; exact (World.Since.refl _ _).alloc (by omega) _))
      clear hW
      have hz := Z1.out
      refine (among_any B b (K + 4) w2.heap.size 10 numsA W S3.out (by omega) X1.out (by omega) (by omega) hlt2 (by omega)).mono ?_
      rintro e w3 ⟨k, rfl, hk, s4, o4⟩
      have S4 := Lib.hid s4; have O4 := Lib.hid (O3.out.trans o4); clear s4 o4
      have hm := numsA_in k hk
      generalize wi numsA k = m at *
      go_wp2_with fail
      refine (from_int m hm.1 hm.2 _).mono ?_
      rintro e w5 ⟨q, rfl, hq, rfl⟩
      go_wp2
      go_ret
      exact ⟨_, _, rfl, hq, S4.out.up (by omega), O4.out⟩
    · by_cases h1 : v = 1
      · subst h1
        go_wp2_with fail
        refine (pick_any B b (K + 4) 65536 w2 S2.out (by omega) (by omega)).mono ?_
        rintro e w3 ⟨v3, rfl, b1, b2, s3, o3⟩
        have b3 := b2 (by omega)
        have S3 := Lib.hid s3; have O3 := Lib.hid (O2.out.trans o3); clear s3 o3 b2
        go_wp2_with fail
        refine (pick_any B b (K + 4 + 2) 65536 w3 S3.out (by omega) (by omega)).mono ?_
        rintro e w4 ⟨v4, rfl, c1, c2, s4, o4⟩
        have c3 := c2 (by omega)
        have S4 := Lib.hid s4; have O4 := Lib.hid (O3.out.trans o4); clear s4 o4 c2
        go_wp2_with fail
        refine (from_int (v3 * 65536 + v4) (by omega) (by omega) _).mono ?_
        rintro e w5 ⟨q, rfl, hq, rfl⟩
        go_wp2
        go_ret
        exact ⟨_, _, rfl, hq, S4.out.up (by omega), O4.out⟩
      · by_cases h2 : v = 2
        · subst h2
          go_wp2_with fail
          refine (pick_any B b (K + 4) 65536 w2 S2.out (by omega) (by omega)).mono ?_
          rintro e w3 ⟨v3, rfl, b1, b2, s3, o3⟩
          have b3 := b2 (by omega)
          have S3 := Lib.hid s3; have O3 := Lib.hid (O2.out.trans o3); clear s3 o3 b2
          go_wp2_with fail
          refine (from_int (v3 * 65536) (by omega) (by omega) _).mono ?_
          rintro e w5 ⟨q, rfl, hq, rfl⟩
          go_wp2
          go_ret
          exact ⟨_, _, rfl, hq, S3.out.up (by omega), O3.out⟩
        · have e0 : decide (v = 0) = false := decide_eq_false h0
          have e1 : decide (v = 1) = false := decide_eq_false h1
          have e2 : decide (v = 2) = false := decide_eq_false h2
          have g0 : (v == 0) = false := by simpa using h0
          have g1 : (v == 1) = false := by simpa using h1
          have g2 : (v == 2) = false := by simpa using h2
          go_wp2_with fail
          refine (plain_any B b (K + 4) w2 S2.out (by omega)).mono ?_
          rintro e w3 ⟨q, Q, rfl, hq, s3, o3⟩
          have S3 := Lib.hid s3; have O3 := Lib.hid (O2.out.trans o3); clear s3 o3
          have hlt3 : b < w3.heap.size := S3.out.lt
          go_wp2_with fail
          generalize hW : World.alloc _ _ = W
          have X1 : Hid (Is W W.heap.size (some ⟨w3.heap.size, 0, none⟩) 4 numsB) := Lib.hid (by rw [← hW]; exact is_alloc w3 2 numsB)
          have Z1 : Hid (W.heap.size = w3.heap.size + 1) := Lib.hid (by rw [← hW]; simp)
          have O5 : Hid (On b w W) := Lib.hid (by rw [← hW]; exact O3.out.alloc (by omega) _)
          have S5 : Hid (Src B b (K + 4 + 4) W) := Lib.hid (S3.out.on (by rw [← hW]; exact (World.Since.refl _ _).alloc (by omega) _))
          clear hW
          have hz := Z1.out
          refine (among_any B b (K + 4 + 4) w3.heap.size 4 numsB W S5.out (by omega) X1.out (by omega) (by omega) hlt3 (by omega)).mono ?_
          rintro e w6 ⟨k, rfl, hk, s6, o6⟩
          have S6 := Lib.hid s6; have O6 := Lib.hid (O5.out.trans o6); clear s6 o6
          have hm := numsB_in k hk
          generalize wi numsB k = m at *
          go_wp2_with fail
          refine (from_int m hm.1 hm.2 _).mono ?_
          rintro e w7 ⟨q2, rfl, hq2, rfl⟩
          go_wp2_with (with_reducible_and_instances refine Lo.wpList_fo _ rfl _ _ _ _ _ rfl _ _ _ _ _ rfl rfl rfl (by assumption) (by assumption) ?_; intro rr nn hrr)
          go_ret
          exact ⟨_, _, rfl, hrr, (S6.out.up (by omega)).drewN _, O6.out.drewN _⟩
end Go.Proofs.Ytecgipilamefmaa

/- Draws: lists of numbers, and what chooses by a byte. -/
set_option linter.unusedVariables false
set_option linter.unusedSimpArgs false
namespace Go.Proofs.Ytecgipilamefmaa
open Fl Go.RowKit
/-- a row of numbers whatever they are -/
def RwA (lo : Nat) (w : World) (v : Value) (k : Nat) : Prop := (∃ F, Rw lo w v k F) ∧ ∃ g c, v = .slice (some ⟨g, 0, none⟩) k c
theorem Rw.like {lo : Nat} {w : World} {v : Value} {k : Nat} {F G : Nat → O} (h : Rw lo w v k F) (e : ∀ j, j < k → F j = G j) : Rw lo w v k G := by
  obtain ⟨os, h1, h2, h3⟩ := h
  exact ⟨os, h1, h2, fun j hj => (h3 j hj).trans (e j hj)⟩
theorem Rw.fin {lo : Nat} {w : World} {v : Value} {k : Nat} {F : Nat → O} (h : Rw lo w v k F) : ∃ (A : Option Addr) (c : Nat) (xs : List Nat), v = .slice A k c ∧ k ≤ c ∧ (A = none → k = 0 ∧ c = 0) ∧ (∀ a, A = some a → ∃ g, a = ⟨g, 0, none⟩ ∧ lo ≤ g) ∧ Gs 22 w lo A k xs ∧ Are ⟨A, k, xs⟩ F := by
  obtain ⟨os, h1, hs, hf⟩ := h
  rcases h1.2 with ⟨rfl, rfl⟩ | ⟨g, cap, cur, rfl, hg, _, hk, _⟩
  · exact ⟨none, 0, os, rfl, Nat.le_refl _, fun _ => ⟨rfl, rfl⟩, (fun a h => by cases h), Gs.of_own h1 hs, hf⟩
  · exact ⟨some ⟨g, 0, none⟩, cap, os, rfl, hk, (fun h => by cases h), fun a h => by cases h; exact ⟨g, rfl, hg⟩, Gs.of_own h1 hs, hf⟩
theorem RwA.grown {lo : Nat} {w : World} {v : Value} {k : Nat} {F : Nat → O} (h : Rw lo w v (k + 1) F) : RwA lo w v (k + 1) := by
  refine ⟨⟨F, h⟩, ?_⟩
  obtain ⟨A, c, xs, rfl, _, hn, hs, _⟩ := h.fin
  cases A with
  | none => exact absurd (hn rfl).1 (by omega)
  | some a =>
    obtain ⟨g, rfl, _⟩ := hs a rfl
    exact ⟨g, c, rfl⟩
theorem RwA.end_ {lo : Nat} {w : World} {v : Value} {k : Nat} (h : RwA lo w v k) : ∃ g c xs, v = .slice (some ⟨g, 0, none⟩) k c ∧ k ≤ c ∧ Gs 22 w lo (some ⟨g, 0, none⟩) k xs := by
  obtain ⟨⟨F, hF⟩, g, c, rfl⟩ := h
  obtain ⟨A, c', xs, e, hc, _, _, hg, _⟩ := hF.fin
  injection e with e1 e2 e3
  subst e1; subst e3
  exact ⟨g, c, xs, rfl, hc, hg⟩
theorem RwA.pick {lo : Nat} {w : World} {v : Value} {k : Nat} (h : RwA lo w v k) (Q : O) : ∃ F, Rw lo w v k F ∧ F k = Q := by
  obtain ⟨⟨F, hF⟩, _⟩ := h
  exact ⟨fun j => if j = k then Q else F j, hF.like fun j hj => by simp [show j ≠ k by omega], by simp⟩
theorem RwA.on {lo g : Nat} {w w' : World} {v : Value} {k : Nat} (h : RwA lo w v k) (o : On g w w') (hg : g < lo) : RwA lo w' v k := by
  obtain ⟨⟨F, hF⟩, hv⟩ := h
  exact ⟨⟨F, hF.on o hg⟩, hv⟩
/-- numbers that a call has drawn: a list in memory of its own -/
def PDr (n : Nat) (w : World) (e : Ending) (w' : World) : Prop := ∃ (g c : Nat) (xs : List Nat), e = .returned (.slice (some ⟨g, 0, none⟩) n c) ∧ n ≤ c ∧ Gs 22 w' w.heap.size (some ⟨g, 0, none⟩) n xs ∧ w.Since w.heap.size w'
set_option maxHeartbeats 4000000 in
set_option maxRecDepth 100000 in
theorem floats_any (B b K N : Nat) (w : World) (h : Src B b K w) (hK : K ≤ 100000) (hN : N ≤ 10000) :
    Calls Try.prog 52 #[.pointer (some ⟨b, 0, none⟩), .int .i64 (N : Int)] w fun e w' => ∃ (g c : Nat) (xs : List Nat), e = .returned (.slice (some ⟨g, 0, none⟩) N c) ∧ N ≤ c ∧ Gs 22 w' w.heap.size (some ⟨g, 0, none⟩) N xs ∧ Src B b (K + 2 + 12 * N) w' ∧ On b w w' := by
  have HH := Lib.hid h
  have hlt := h.lt
  clear h
  go_enter Try.func52, Try.ntmps52
  go_wp2_with fail
  generalize hW : World.alloc _ _ = W
  have R1 : Hid (RwA w.heap.size W (.slice (some ⟨w.heap.size, 0, none⟩) 0 0) 0) := Lib.hid (by rw [← hW]; exact ⟨⟨fun _ => none, Rw.start w _ (Nat.le_refl _) _⟩, _, _, rfl⟩)
  have O1 : Hid (On b w W) := Lib.hid (by rw [← hW]; exact (On.refl _ _).alloc (by omega) _)
  have S1 : Hid (Src B b K W) := Lib.hid (HH.out.on (by rw [← hW]; exact (World.Since.refl _ _).alloc (by omega) _))
  clear hW
  refine (one_any B b K 4 W S1.out (by omega) (by omega)).mono ?_
  rintro e w1 ⟨st, rfl, s2, o2⟩
  have S2 := Lib.hid s2; have O2 := Lib.hid (O1.out.trans o2); have R2 := Lib.hid (R1.out.on o2 hlt); clear s2 o2 R1 O1 S1
  cases st
  all_goals
    go_wp2_with fail
    go_loopw [1, 5] (fun i v wr => ∃ k : Nat, k ≤ N ∧ i = .int .i64 ((N : Int) - k) ∧ RwA w.heap.size wr v k ∧ Src B b (K + 2 + 12 * k) wr ∧ On b w wr) (fun i _ _ => (intOf i).toNat)
    case atStart => exact ⟨0, Nat.zero_le _, by simp, R2.out, S2.out, O2.out⟩
    case round =>
      obtain ⟨k, hk, rfl, hr, hs, ho⟩ := hrel
      have HR := Lib.hid hr; have HS := Lib.hid hs; have HO := Lib.hid ho
      clear hr hs ho
      by_cases hlt2 : k < N
      · have hd : decide (0 < (N : Int) - k) = true := decide_eq_true (by omega)
        go_wp2_with fail
        first
        | refine (plain_any B b (K + 2 + 12 * k) wr HS.out (by omega)).mono ?_
        | refine (float_any B b (K + 2 + 12 * k) wr HS.out (by omega)).mono ?_
        rintro e w3 ⟨q, Q, rfl, hq, s3, o3⟩
        have S3 : Hid (Src B b (K + 2 + 12 * (k + 1)) w3) := Lib.hid (s3.up (by omega))
        have O3 := Lib.hid (HO.out.trans o3); have R3 := Lib.hid (HR.out.on o3 hlt)
        clear s3 o3
        obtain ⟨F, hF, hFk⟩ := R3.out.pick Q
        have hlo : w.heap.size ≤ w3.heap.size := O3.out.1.size
        have HF := Lib.hid hF; clear hF
        have hz : Hid (Fv .f32 q (F k)) := by rw [hFk]; exact hq
        have hlt3 : b < w3.heap.size := by omega
        go_wp2_with (first | (at_builtin; refine wpList_app1 rfl (.tmp 20) (.tmp 23) rfl w.heap.size _ k _ rfl _ _ rfl (by simp [go_sem]) (by omega) (by simp; omega) hz (HF.out.alloc _) ?_; intro v' w4 hR4 hS4) | (at_builtin; refine wpList_app1 rfl (.tmp 15) (.tmp 18) rfl w.heap.size _ k _ rfl _ _ rfl (by simp [go_sem]) (by omega) (by simp; omega) hz (HF.out.alloc _) ?_; intro v' w4 hR4 hS4))
        have hs4 : w3.Since w.heap.size w4 := ((World.Since.refl _ _).alloc hlo _).trans hS4.out
        have HS4 := Lib.hid hs4; clear hs4
        go_roundw
        case rel => exact ⟨k + 1, by omega, by go_num, RwA.grown hR4.out, S3.out.on (since_mono HS4.out (by omega)), on_post O3.out HS4.out (Nat.le_refl _) hlt⟩
        case measure => simp [intOf]; omega
      · have hd : decide (0 < (N : Int) - k) = false := decide_eq_false (by omega)
        obtain rfl : k = N := by omega
        obtain ⟨g, cp, zs, rfl, hcp, hg⟩ := HR.out.end_
        have HG := Lib.hid hg; clear hg
        go_wp2
        go_ret
        exact ⟨g, cp, zs, rfl, hcp, HG.out, HS.out, HO.out⟩
end Go.Proofs.Ytecgipilamefmaa

/- Draws: what laws draw of their bytes. -/
set_option linter.unusedVariables false
set_option linter.unusedSimpArgs false
namespace Go.Proofs.Ytecgipilamefmaa
open Fl Go.RowKit
theorem source_any (A : Option Addr) (n c : Nat) (xs : List Int) (w : World) (h : Bs w w.heap.size A n xs) (hn : n ≤ 1048576) :
    Calls Try.prog 45 #[.slice A n c] w fun e w' => e = .returned (.pointer (some ⟨w.heap.size, 0, none⟩)) ∧ Src w.heap.size w.heap.size 0 w' ∧ w.Since w.heap.size w' := by
  have HH := Lib.hid h; clear h
  go_enter Try.func45, Try.ntmps45
  go_wp2
  go_ret
  refine ⟨rfl, ⟨A, n, c, xs, 0, 0, Go.Deep.blk_alloc_new _ _, HH.out.since ((World.Since.refl _ _).alloc (Nat.le_refl _) _) (Nat.le_refl _), Nat.le_refl _, hn, by omega, by omega⟩, (World.Since.refl _ _).alloc (Nat.le_refl _) _⟩
set_option maxHeartbeats 4000000 in
set_option maxRecDepth 100000 in
theorem samples_any (A : Option Addr) (n c : Nat) (xs : List Int) (m : Nat) (w : World) (h : Bs w w.heap.size A n xs) (hn : n ≤ 1048576) (hm : m ≤ 9000) :
    Calls Try.prog 24 #[.slice A n c, .int .i64 (m : Int)] w fun e w' => ∃ k, k ≤ m ∧ PDr k w e w' := by
  have HH := Lib.hid h; clear h
  go_enter Try.func24, Try.ntmps24
  go_wp2_with fail
  refine (source_any A n c xs w HH.out hn).mono ?_
  rintro e w1 ⟨rfl, s1, t1⟩
  have S1 := Lib.hid s1; have T1 := Lib.hid t1; clear s1 t1
  go_wp2_with fail
  refine (pick_any w.heap.size w.heap.size 0 ((m : Int) + 1) w1 S1.out (by omega) (by omega)).mono ?_
  rintro e w2 ⟨v, rfl, a1, a2, s2, o2⟩
  have a3 := a2 (by omega)
  obtain ⟨k, rfl⟩ := Int.eq_ofNat_of_zero_le a1
  have S2 := Lib.hid s2; have T2 := Lib.hid (T1.out.trans (o2.since (Nat.le_refl _))); clear s2 o2
  go_wp2_with fail
  refine (floats_any w.heap.size w.heap.size 2 k w2 S2.out (by omega) (by omega)).mono ?_
  rintro e w3 ⟨g, cp, zs, rfl, hp, hg, s3, o3⟩
  have hz := T2.out.size
  have G3 := Lib.hid (hg.less hz); have T3 := Lib.hid (T2.out.trans (o3.since (Nat.le_refl _))); clear hg s3 o3
  go_wp2
  go_ret
  exact ⟨k, by omega, g, cp, zs, rfl, hp, G3.out, T3.out⟩
set_option maxHeartbeats 4000000 in
set_option maxRecDepth 100000 in
theorem numbers_any (A : Option Addr) (n c : Nat) (xs : List Int) (m : Nat) (w : World) (h : Bs w w.heap.size A n xs) (hn : n ≤ 1048576) (hm : m ≤ 9000) :
    Calls Try.prog 33 #[.slice A n c, .int .i64 (m : Int)] w (PDr m w) := by
  have HH := Lib.hid h; clear h
  go_enter Try.func33, Try.ntmps33
  go_wp2_with fail
  refine (source_any A n c xs w HH.out hn).mono ?_
  rintro e w1 ⟨rfl, s1, t1⟩
  have S1 := Lib.hid s1; have T1 := Lib.hid t1; clear s1 t1
  go_wp2_with fail
  refine (floats_any w.heap.size w.heap.size 0 m w1 S1.out (by omega) (by omega)).mono ?_
  rintro e w3 ⟨g, cp, zs, rfl, hp, hg, s3, o3⟩
  have hz := T1.out.size
  have G3 := Lib.hid (hg.less hz); have T3 := Lib.hid (T1.out.trans (o3.since (Nat.le_refl _))); clear hg s3 o3
  go_wp2
  go_ret
  exact ⟨g, cp, zs, rfl, hp, G3.out, T3.out⟩
set_option maxHeartbeats 4000000 in
set_option maxRecDepth 100000 in
theorem numberD_any (A : Option Addr) (n c : Nat) (xs : List Int) (w : World) (h : Bs w w.heap.size A n xs) (hn : n ≤ 1048576) :
    Calls Try.prog 27 #[.slice A n c] w fun e w' => ∃ q Q, e = .returned (.float .f32 q) ∧ Hid (Fv .f32 q Q) ∧ w.Since w.heap.size w' := by
  have HH := Lib.hid h; clear h
  go_enter Try.func27, Try.ntmps27
  go_wp2_with fail
  refine (source_any A n c xs w HH.out hn).mono ?_
  rintro e w1 ⟨rfl, s1, t1⟩
  have S1 := Lib.hid s1; have T1 := Lib.hid t1; clear s1 t1
  go_wp2_with fail
  refine (one_any w.heap.size w.heap.size 0 2 w1 S1.out (by omega) (by omega)).mono ?_
  rintro e w2 ⟨v, rfl, s2, o2⟩
  have S2 := Lib.hid s2; have T2 := Lib.hid (T1.out.trans (o2.since (Nat.le_refl _))); clear s2 o2
  cases v
  · go_wp2_with fail
    refine (float_any w.heap.size w.heap.size 2 w2 S2.out (by omega)).mono ?_
    rintro e w3 ⟨q, Q, rfl, hq, s3, o3⟩
    have T3 := Lib.hid (T2.out.trans (o3.since (Nat.le_refl _))); clear s3 o3
    go_wp2
    go_ret
    exact ⟨_, _, rfl, hq, T3.out⟩
  · go_wp2_with fail
    refine (pick_any w.heap.size w.heap.size 2 65536 w2 S2.out (by omega) (by omega)).mono ?_
    rintro e w3 ⟨v3, rfl, b1, b2, s3, o3⟩
    have b3 := b2 (by omega)
    have S3 := Lib.hid s3; have T3 := Lib.hid (T2.out.trans (o3.since (Nat.le_refl _))); clear s3 o3 b2
    go_wp2_with fail
    refine (pick_any w.heap.size w.heap.size (2 + 2) 65536 w3 S3.out (by omega) (by omega)).mono ?_
    rintro e w4 ⟨v4, rfl, c1, c2, s4, o4⟩
    have c3 := c2 (by omega)
    have T4 := Lib.hid (T3.out.trans (o4.since (Nat.le_refl _))); clear s4 o4 c2
    go_wp2_with fail
    refine (from_int (v3 * 65536 + v4) (by omega) (by omega) _).mono ?_
    rintro e w5 ⟨q, rfl, hq, rfl⟩
    go_wp2
    go_ret
    exact ⟨_, _, rfl, hq, T4.out⟩
/-- a number below m that a byte chooses -/
theorem r8At_any (A : Option Addr) (n c : Nat) (xs : List Int) (k m : Int) (w : World) (h : Bs w w.heap.size A n xs) (hk : 0 ≤ k) (hk2 : k ≤ 1000000000) :
    Calls Try.prog 25 #[.slice A n c, .int .i64 k, .int .i64 m] w fun e w' => ∃ v : Int, e = .returned (.int .i64 v) ∧ 0 ≤ v ∧ (1 ≤ m → v < m) ∧ w.Since w.heap.size w' := by
  have HH := Lib.hid h; clear h
  obtain ⟨j, rfl⟩ := Int.eq_ofNat_of_zero_le hk
  by_cases h1 : m ≤ 1
  · have hd : decide (m ≤ 1) = true := decide_eq_true h1
    go_enter Try.func25, Try.ntmps25
    go_wp2
    go_ret
    exact ⟨0, rfl, by omega, fun _ => by omega, by (repeat (first | (with_reducible refine Fl.sinDrew ?_) | (with_reducible refine World.Since.drew ?_) | (with_reducible refine Fl.sinSet ?_ ?_; rotate_left) | (with_reducible refine Fl.sinAlloc ?_ ?_; rotate_left) | with_reducible exact World.Since.refl _ _ | with_reducible assumption | (with_reducible refine Fl.sinStep (by with_reducible assumption) ?_))); all_goals (first | omega | (simp; done) | (simp; omega) | (simp [go_sem]; done) | (simp [go_sem]; omega))⟩
  · have hd : decide (m ≤ 1) = false := decide_eq_false h1
    by_cases h2 : (n : Int) ≤ (j : Int)
    · have hd2 : decide ((n : Int) ≤ (j : Int)) = true := decide_eq_true h2
      go_enter Try.func25, Try.ntmps25
      go_wp2
      go_ret
      exact ⟨0, rfl, by omega, fun _ => by omega, by (repeat (first | (with_reducible refine Fl.sinDrew ?_) | (with_reducible refine World.Since.drew ?_) | (with_reducible refine Fl.sinSet ?_ ?_; rotate_left) | (with_reducible refine Fl.sinAlloc ?_ ?_; rotate_left) | with_reducible exact World.Since.refl _ _ | with_reducible assumption | (with_reducible refine Fl.sinStep (by with_reducible assumption) ?_))); all_goals (first | omega | (simp; done) | (simp; omega) | (simp [go_sem]; done) | (simp [go_sem]; omega))⟩
    · have hd2 : decide ((n : Int) ≤ (j : Int)) = false := decide_eq_false h2
      obtain ⟨g, off, rfl, hg, hc⟩ := HH.out.2.2 (by omega)
      have hcell := hc j (by omega)
      have hv := HH.out.2.1 j
      have hz : m ≠ 0 := by omega
      clear hc
      go_enter Try.func25, Try.ntmps25
      go_wp2
      go_ret
      exact ⟨_, rfl, Int.emod_nonneg _ hz, fun _ => Int.emod_lt_of_pos _ (by omega), by (repeat (first | (with_reducible refine Fl.sinDrew ?_) | (with_reducible refine World.Since.drew ?_) | (with_reducible refine Fl.sinSet ?_ ?_; rotate_left) | (with_reducible refine Fl.sinAlloc ?_ ?_; rotate_left) | with_reducible exact World.Since.refl _ _ | with_reducible assumption | (with_reducible refine Fl.sinStep (by with_reducible assumption) ?_))); all_goals (first | omega | (simp; done) | (simp; omega) | (simp [go_sem]; done) | (simp [go_sem]; omega))⟩
theorem b10At_any (A : Option Addr) (n c : Nat) (xs : List Int) (k m : Int) (w : World) (h : Bs w w.heap.size A n xs) (hk : 0 ≤ k) (hk2 : k ≤ 1000000000) :
    Calls Try.prog 18 #[.slice A n c, .int .i64 k, .int .i64 m] w fun e w' => ∃ v : Int, e = .returned (.int .i64 v) ∧ 0 ≤ v ∧ (1 ≤ m → v < m) ∧ w.Since w.heap.size w' := by
  have HH := Lib.hid h; clear h
  obtain ⟨j, rfl⟩ := Int.eq_ofNat_of_zero_le hk
  by_cases h1 : m ≤ 1
  · have hd : decide (m ≤ 1) = true := decide_eq_true h1
    go_enter Try.func18, Try.ntmps18
    go_wp2
    go_ret
    exact ⟨0, rfl, by omega, fun _ => by omega, by (repeat (first | (with_reducible refine Fl.sinDrew ?_) | (with_reducible refine World.Since.drew ?_) | (with_reducible refine Fl.sinSet ?_ ?_; rotate_left) | (with_reducible refine Fl.sinAlloc ?_ ?_; rotate_left) | with_reducible exact World.Since.refl _ _ | with_reducible assumption | (with_reducible refine Fl.sinStep (by with_reducible assumption) ?_))); all_goals (first | omega | (simp; done) | (simp; omega) | (simp [go_sem]; done) | (simp [go_sem]; omega))⟩
  · have hd : decide (m ≤ 1) = false := decide_eq_false h1
    have hz : m ≠ 0 := by omega
    by_cases h2 : (j : Int) < (n : Int)
    · have hd2 : decide ((j : Int) < (n : Int)) = true := decide_eq_true h2
      obtain ⟨g, off, rfl, hg, hc⟩ := HH.out.2.2 (by omega)
      have hcell := hc j (by omega)
      have hv := HH.out.2.1 j
      clear hc
      go_enter Try.func18, Try.ntmps18
      go_wp2
      go_ret
      exact ⟨_, rfl, Int.emod_nonneg _ hz, fun _ => Int.emod_lt_of_pos _ (by omega), by (repeat (first | (with_reducible refine Fl.sinDrew ?_) | (with_reducible refine World.Since.drew ?_) | (with_reducible refine Fl.sinSet ?_ ?_; rotate_left) | (with_reducible refine Fl.sinAlloc ?_ ?_; rotate_left) | with_reducible exact World.Since.refl _ _ | with_reducible assumption | (with_reducible refine Fl.sinStep (by with_reducible assumption) ?_))); all_goals (first | omega | (simp; done) | (simp; omega) | (simp [go_sem]; done) | (simp [go_sem]; omega))⟩
    · have hd2 : decide ((j : Int) < (n : Int)) = false := decide_eq_false h2
      go_enter Try.func18, Try.ntmps18
      go_wp2
      go_ret
      exact ⟨_, rfl, Int.emod_nonneg _ hz, fun _ => Int.emod_lt_of_pos _ (by omega), by (repeat (first | (with_reducible refine Fl.sinDrew ?_) | (with_reducible refine World.Since.drew ?_) | (with_reducible refine Fl.sinSet ?_ ?_; rotate_left) | (with_reducible refine Fl.sinAlloc ?_ ?_; rotate_left) | with_reducible exact World.Since.refl _ _ | with_reducible assumption | (with_reducible refine Fl.sinStep (by with_reducible assumption) ?_))); all_goals (first | omega | (simp; done) | (simp; omega) | (simp [go_sem]; done) | (simp [go_sem]; omega))⟩
theorem b10Long_any (A B : Option Addr) (n c m d : Nat) (b : Bool) (w : World) (h : (decide ((1048576 : Int) < n) || decide ((1048576 : Int) < m)) = b) :
    Calls Try.prog 14 #[.slice A n c, .slice B m d] w fun e w' => e = .returned (.bool b) ∧ w.Since w.heap.size w' := by
  subst h
  cases h1 : decide ((1048576 : Int) < n)
  all_goals
    go_enter Try.func14, Try.ntmps14
    go_wp2
    go_ret
    exact ⟨ret_bool (by simp), by (repeat (first | (with_reducible refine Fl.sinDrew ?_) | (with_reducible refine World.Since.drew ?_) | (with_reducible refine Fl.sinSet ?_ ?_; rotate_left) | (with_reducible refine Fl.sinAlloc ?_ ?_; rotate_left) | with_reducible exact World.Since.refl _ _ | with_reducible assumption | (with_reducible refine Fl.sinStep (by with_reducible assumption) ?_))); all_goals (first | omega | (simp; done) | (simp; omega) | (simp [go_sem]; done) | (simp [go_sem]; omega))⟩
theorem r8Long_any (A B : Option Addr) (n c m d : Nat) (b : Bool) (w : World) (h : (decide ((48 : Int) < n) || decide ((48 : Int) < m)) = b) :
    Calls Try.prog 23 #[.slice A n c, .slice B m d] w fun e w' => e = .returned (.bool b) ∧ w.Since w.heap.size w' := by
  subst h
  cases h1 : decide ((48 : Int) < n)
  all_goals
    go_enter Try.func23, Try.ntmps23
    go_wp2
    go_ret
    exact ⟨ret_bool (by simp), by (repeat (first | (with_reducible refine Fl.sinDrew ?_) | (with_reducible refine World.Since.drew ?_) | (with_reducible refine Fl.sinSet ?_ ?_; rotate_left) | (with_reducible refine Fl.sinAlloc ?_ ?_; rotate_left) | with_reducible exact World.Since.refl _ _ | with_reducible assumption | (with_reducible refine Fl.sinStep (by with_reducible assumption) ?_))); all_goals (first | omega | (simp; done) | (simp; omega) | (simp [go_sem]; done) | (simp [go_sem]; omega))⟩
end Go.Proofs.Ytecgipilamefmaa

/- A slice of integers that came in. -/
set_option linter.unusedVariables false
set_option linter.unusedSimpArgs false
namespace Go.Proofs.Ytecgipilamefmaa
namespace Fl
open Go.ChangeShapes Go.WideShapes Go.RowKit Go.WideMaps Go.WideElems
section
variable {H : Type} {enc : TypeId × Value → H} {P : Program}
theorem trod_in {w : World} {base : Nat} {spare : Nat → Bool} {held : Bool} {fuel : Nat} {t : TypeId} {k : IntKind} {cs : List Value} {x : DataW H × List MemPlace} (ht : P.underlying t = some (.int k))
    (h : DataW.trod enc P w base spare held fuel t cs = some x) : ∃ b, cs = [.int k b] ∧ (Lit.int k b).wf = true := by
  cases fuel with
  | zero => simp [DataW.trod] at h
  | succ n =>
    unfold DataW.trod at h
    rw [ht] at h
    split at h <;> simp_all
theorem open_is {W : World} {base b0 : Nat} {r : Reach} {t e : TypeId} {v : Value} {d : DataW H} {ps : List MemPlace} (ht : P.underlying t = some (.slice e)) (he : P.underlying e = some (.int .i64)) (hc : P.cellsOf e = 1)
    (hval : Value.okWide P W r b0 t v) (h : DataW.Trod enc P W base (fun _ => true) true t v d ps) :
    ∃ (A : Option Addr) (n c : Nat) (xs : List Int), v = .slice A n c ∧ (Is W W.heap.size A n xs ∧ ∀ k, k < n → (Lit.int .i64 (wi xs k)).wf = true) ∧ n ≤ 9223372036854775807 := by
  obtain ⟨A, n, c, rfl⟩ := okWide_slice ht hval
  obtain ⟨fuel, hf⟩ := h
  rcases Go.Deep.open_slice ht hf with ⟨hcs, _⟩ | ⟨a, len, cap, m, k, D, Pl, hcs, _, hl, hm, hmm, _, hi⟩
  · simp only [Value.cells, Array.toList] at hcs
    injection hcs with hcs _
    injection hcs with h1 h2 h3
    subst h1; subst h2; subst h3
    exact ⟨none, 0, 0, [], rfl, ⟨⟨rfl, (fun h => by omega)⟩, (fun k h => by omega)⟩, by omega⟩
  · simp only [Value.cells, Array.toList] at hcs
    injection hcs with hcs _
    injection hcs with h1 h2 h3
    subst h1; subst h2; subst h3
    rw [if_pos rfl] at hmm
    subst hmm
    have hcell : ∀ i, i < m → ∃ b : Int, W.cell? (a.add i) = some (.int .i64 b) ∧ (Lit.int .i64 b).wf = true := by
      intro i him
      obtain ⟨cs', hcs', htr⟩ := hi i him
      rw [hc, Nat.mul_one] at hcs'
      obtain ⟨_, hlen, hat⟩ := World.cells?_some hcs'
      obtain ⟨b, hb, hw⟩ := trod_in he htr
      have h0 := hat 0 (by omega)
      rw [hb] at h0
      refine ⟨b, ?_, hw⟩
      have e : (a.add i).add 0 = a.add i := by simp [Addr.add]
      rw [e] at h0
      exact h0
    let f : Nat → Int := fun i => if h : i < m then Classical.choose (hcell i h) else 0
    have hfs : ∀ i (h : i < m), W.cell? (a.add i) = some (.int .i64 (f i)) ∧ (Lit.int .i64 (f i)).wf = true := by
      intro i h
      have := Classical.choose_spec (hcell i h)
      simp only [f, dif_pos h]
      exact this
    refine ⟨some a, n, m, (List.range n).map f, rfl, ⟨⟨by simp, ?_⟩, ?_⟩, by unfold maxLen at hm; omega⟩
    · intro hn
      obtain ⟨g, off, spot⟩ := a
      have h0 := (hfs 0 (by omega)).1
      have hspot : spot = none := by simpa [Addr.add] using World.cell?_spot h0
      subst hspot
      refine ⟨g, off, rfl, ?_, fun k hk => ?_⟩
      · have h1 : W.cell? ⟨g, off, none⟩ = some (.int .i64 (f 0)) := by simpa [Addr.add] using h0
        rcases Nat.lt_or_ge g W.heap.size with h2 | h2
        · exact h2
        · simp [World.cell?, Array.getElem?_eq_none h2] at h1
      · have h1 := (hfs k (by omega)).1
        rw [Go.WideShapes.add_plain] at h1
        rw [h1]
        unfold iv wi
        simp [hk]
    · intro k hk
      have h1 := (hfs k (by omega)).2
      unfold wi
      simpa [hk] using h1
end
end Fl
end Go.Proofs.Ytecgipilamefmaa

/- Draws: lists that a law compares, and the bytes of a law. -/
set_option linter.unusedVariables false
set_option linter.unusedSimpArgs false
namespace Go.Proofs.Ytecgipilamefmaa
open Fl Go.RowKit
namespace Fl
open Go.ChangeShapes Go.WideShapes Go.RowKit Go.WideMaps Go.WideElems
section
variable {H : Type} {enc : TypeId × Value → H} {P : Program}
theorem open_bs {W : World} {base b0 : Nat} {r : Reach} {t e : TypeId} {v : Value} {d : DataW H} {ps : List MemPlace} (ht : P.underlying t = some (.slice e)) (he : P.underlying e = some (.int .u8)) (hc : P.cellsOf e = 1)
    (hval : Value.okWide P W r b0 t v) (h : DataW.Trod enc P W base (fun _ => true) true t v d ps) :
    ∃ (A : Option Addr) (n c : Nat) (xs : List Int), v = .slice A n c ∧ Bs W W.heap.size A n xs ∧ n ≤ 9223372036854775807 := by
  obtain ⟨A, n, c, rfl⟩ := okWide_slice ht hval
  obtain ⟨fuel, hf⟩ := h
  rcases Go.Deep.open_slice ht hf with ⟨hcs, _⟩ | ⟨a, len, cap, m, k, D, Pl, hcs, _, hl, hm, hmm, _, hi⟩
  · simp only [Value.cells, Array.toList] at hcs
    injection hcs with hcs _
    injection hcs with h1 h2 h3
    subst h1; subst h2; subst h3
    exact ⟨none, 0, 0, [], rfl, ⟨rfl, (fun k => by simp [wi]), (fun h => by omega)⟩, by omega⟩
  · simp only [Value.cells, Array.toList] at hcs
    injection hcs with hcs _
    injection hcs with h1 h2 h3
    subst h1; subst h2; subst h3
    rw [if_pos rfl] at hmm
    subst hmm
    have hcell : ∀ i, i < m → ∃ b : Int, W.cell? (a.add i) = some (.int .u8 b) ∧ (Lit.int .u8 b).wf = true := by
      intro i him
      obtain ⟨cs', hcs', htr⟩ := hi i him
      rw [hc, Nat.mul_one] at hcs'
      obtain ⟨_, hlen, hat⟩ := World.cells?_some hcs'
      obtain ⟨b, hb, hw⟩ := trod_in he htr
      have h0 := hat 0 (by omega)
      rw [hb] at h0
      refine ⟨b, ?_, hw⟩
      have e : (a.add i).add 0 = a.add i := by simp [Addr.add]
      rw [e] at h0
      exact h0
    let f : Nat → Int := fun i => if h : i < m then Classical.choose (hcell i h) else 0
    have hfs : ∀ i (h : i < m), W.cell? (a.add i) = some (.int .u8 (f i)) ∧ (Lit.int .u8 (f i)).wf = true := by
      intro i h
      have := Classical.choose_spec (hcell i h)
      simp only [f, dif_pos h]
      exact this
    have hw8 : ∀ i, 0 ≤ f i ∧ f i < 256 := by
      intro i
      by_cases h : i < m
      · have h1 := (hfs i h).2
        simp only [Lit.wf, Bool.and_eq_true, decide_eq_true_eq] at h1
        have e1 : IntKind.min .u8 = 0 := by kernel_rfl
        have e2 : IntKind.max .u8 = 255 := by kernel_rfl
        rw [e1, e2] at h1
        omega
      · simp [f, h]
    refine ⟨some a, n, m, (List.range n).map f, rfl, ⟨by simp, ?_, ?_⟩, by unfold maxLen at hm; omega⟩
    · intro k
      unfold wi
      by_cases hk : k < n
      · simpa [hk] using hw8 k
      · simp [hk]
    · intro hn
      obtain ⟨g, off, spot⟩ := a
      have h0 := (hfs 0 (by omega)).1
      have hspot : spot = none := by simpa [Addr.add] using World.cell?_spot h0
      subst hspot
      refine ⟨g, off, rfl, ?_, fun k hk => ?_⟩
      · have h1 : W.cell? ⟨g, off, none⟩ = some (.int .u8 (f 0)) := by simpa [Addr.add] using h0
        rcases Nat.lt_or_ge g W.heap.size with h2 | h2
        · exact h2
        · simp [World.cell?, Array.getElem?_eq_none h2] at h1
      · have h1 := (hfs k (by omega)).1
        rw [Go.WideShapes.add_plain] at h1
        rw [h1]
        unfold wi
        simp [hk]
end
end Fl
end Go.Proofs.Ytecgipilamefmaa

/- The law of narrowed numbers. -/
set_option linter.unusedVariables false
set_option linter.unusedSimpArgs false
namespace Go.Proofs.Ytecgipilamefmaa
open Fl Go.RowKit Ieee
theorem low_word {b : Nat} (h : b < 2147483648) : rung .f32 b = b ∧ sgn .f32 b = false := by
  unfold rung sgn
  rw [sw32, Nat.mod_eq_of_lt h, Nat.div_eq_of_lt h]
  exact ⟨rfl, rfl⟩
theorem high_word {b : Nat} (h : 2147483648 ≤ b) (h2 : b < 4294967296) : rung .f32 b = b - 2147483648 ∧ sgn .f32 b = true := by
  unfold rung sgn
  rw [sw32, show b / 2147483648 = 1 by omega]
  exact ⟨by omega, rfl⟩
def Between (x y : Nat) : Prop := ∃ mid low high : Nat, opO .quo .f64 (opO .add .f64 (wide (some x)) (wide (some y))) (some cTwo) = some mid ∧ opO .quo .f64 (opO .add .f64 (wide (some x)) (some mid)) (some cTwo) = some low ∧ opO .quo .f64 (opO .add .f64 (wide (some y)) (some mid)) (some cTwo) = some high
      ∧ (∃ r, convO .f64 .f32 (some mid) = some r ∧ FloatKind.f32.format.order r (if x % 2 = 1 then y else x) = some .eq) ∧ (∃ r, convO .f64 .f32 (some low) = some r ∧ FloatKind.f32.format.order r x = some .eq) ∧ (∃ r, convO .f64 .f32 (some high) = some r ∧ FloatKind.f32.format.order r y = some .eq)
      ∧ Fits .f64 .f32 mid ∧ Fits .f64 .f32 low ∧ Fits .f64 .f32 high
theorem next_between {x : Nat} (hx : x < 4294967296) (fx : finB x = true) (fy : finB (nextN x) = true) : Between x (nextN x) := by
  have gx : x % 2147483648 < 2139095040 := by unfold finB at fx; exact of_decide_eq_true fx
  have gy : nextN x % 2147483648 < 2139095040 := by unfold finB at fy; exact of_decide_eq_true fy
  have hy := nextN_lt hx
  have hn : nanB x = false := by rw [nanB_ab, (fin_of hx fx).2]; rfl
  have hi : FloatKind.f32.format.infRung = 2139095040 := by decide
  have e : nextN x = if x % 2147483648 = 0 then 1 else if x < 2147483648 then x + 1 else x - 1 := by
    unfold nextN
    rw [hn]
    simp only [Bool.false_eq_true, if_false]
    rw [if_neg (by omega)]
  by_cases h1 : x < 2147483648
  · have ey : nextN x = x + 1 := by
      rw [e, if_pos h1]
      split <;> omega
    rw [ey] at fy gy hy ⊢
    obtain ⟨a1, a2⟩ := low_word h1
    obtain ⟨b1, b2⟩ := low_word (b := x + 1) (by omega)
    exact between_core (ρ := x) (ix := 0) (s := false) hx hy fx fy (.inl rfl) (by rw [hi]; omega) (by unfold key; rw [a1, a2]; rfl) (by unfold key; rw [b1, b2]) (by simp) (by unfold sv; rw [a1, a2]; rfl) (by unfold sv; rw [b1, b2])
  · by_cases h2 : x = 2147483648
    · subst h2
      exact between_core (ρ := 0) (ix := 0) (s := false) (by decide) (by decide) fx fy (.inl rfl) (by decide) (by decide) (by decide) (by decide) (by decide) (by decide)
    · have ey : nextN x = x - 1 := by rw [e, if_neg (by omega), if_neg h1]
      rw [ey] at fy gy hy ⊢
      obtain ⟨a1, a2⟩ := high_word (b := x) (by omega) hx
      obtain ⟨b1, b2⟩ := high_word (b := x - 1) (by omega) hy
      obtain ⟨ρ, hρ⟩ : ∃ ρ, x = ρ + 2147483649 := ⟨x - 2147483649, by omega⟩
      have a3 : rung .f32 x = ρ + 1 := by rw [a1]; omega
      have b3 : rung .f32 (x - 1) = ρ := by rw [b1]; omega
      have pm : x % 2 = (ρ + 4 / 4) % 2 := by omega
      have hle : ρ + 1 < FloatKind.f32.format.infRung := by rw [hi]; omega
      clear a1 b1 hρ ey e gx gy
      generalize x - 1 = y at *
      exact between_core (ρ := ρ) (ix := 4) (s := true) hx hy fx fy (.inr rfl) hle (by unfold key; rw [a3, a2]) (by unfold key; rw [b3, b2]; rfl) pm (by unfold sv; rw [a3, a2]) (by unfold sv; rw [b3, b2]; rfl)
theorem implNarrowWide (b r : Nat) (w : World) (hb : b < 4294967296) (hr : Hid (Fv .f64 r (wide (ab .f32 b)))) :
    Calls Try.prog 29 #[.float .f64 r] w (RetF .f32 (ab .f32 b) w) := by
  obtain ⟨h1, h2⟩ := narrow_wide b hb r hr.out
  have h := implNarrow_any r w hr.out.1 h2
  rw [hr.out.2, h1] at h
  exact h
theorem implNarrowTo (m r : Nat) (w : World) (hm : Hid (Fv .f64 m (some m))) (hf : Fits .f64 .f32 m) (hr : convO .f64 .f32 (some m) = some r) :
    Calls Try.prog 29 #[.float .f64 m] w fun e w' => e = .returned (.float .f32 r) ∧ ∃ n, w' = w.drewN n := by
  have h := implNarrow_any m w hm.out.1 hf
  rw [hm.out.2, hr] at h
  exact h.mono fun e w' ⟨q, n, h1, h2, h3⟩ => by
    obtain rfl := ab_some h2.2
    exact ⟨h1, n, h3⟩
theorem fv_litN {k : FloatKind} {r v : Nat} {X : O} (h : Hid (Fv k r X)) (e : X = some v) : r = v := by
  have := h.out.2
  rw [e] at this
  exact (ab_some this).symm
set_option maxHeartbeats 16000000 in
set_option maxRecDepth 100000 in
theorem lawNarrowed_any (A : Option Addr) (n c : Nat) (xs : List Int) (B : Option Addr) (m d : Nat) (ys : List Int) (w : World) (hA : Bs w w.heap.size A n xs) (hB : Bs w w.heap.size B m ys) :
    Calls Try.prog 7 #[.slice A n c, .slice B m d] w fun e w' => e = .returned (.bool true) ∧ w.Since w.heap.size w' := by
  have HA := Lib.hid hA; have HB := Lib.hid hB; clear hA hB
  cases hl : (decide ((1048576 : Int) < n) || decide ((1048576 : Int) < m))
  case true =>
    go_enter Try.func7, Try.ntmps7
    go_wp2_with fail
    refine (b10Long_any A B n c m d true w hl).mono ?_
    rintro e w1 ⟨rfl, hs⟩
    have S1 := Lib.hid hs; clear hs
    go_wp2
    go_ret
    exact ⟨rfl, S1.out⟩
  case false =>
    have hnm : n ≤ 1048576 ∧ m ≤ 1048576 := by simp only [Bool.or_eq_false_iff, decide_eq_false_iff_not] at hl; omega
    go_enter Try.func7, Try.ntmps7
    go_wp2_with fail
    refine (b10Long_any A B n c m d false w hl).mono ?_
    rintro e w1 ⟨rfl, hs⟩
    have S1 := Lib.hid hs; clear hs hl
    go_wp2_with fail
    refine (numberD_any A n c xs w1 ((HA.out.since S1.out (Nat.le_refl _)).more S1.out.size) (by omega)).mono ?_
    rintro e w2 ⟨x, X, rfl, hx, hs⟩
    have S2 := Lib.hid (since_step S1.out hs)
    clear hs S1
    have hx32 : x < 4294967296 := hx.out.1
    have hxa : Hid (Fv .f32 x (ab .f32 x)) := Lib.hid ⟨hx32, rfl⟩
    clear hx
    go_wp2_with (first | (with_reducible_and_instances refine Lo.wpList_wi _ rfl _ _ _ rfl _ _ rfl (by kernel_rfl) (by kernel_rfl) (by assumption) ?_; intro r1 n1 h1))
    refine (implNarrowWide x r1 _ hx32 h1).mono ?_
    rintro e w3 ⟨r2, m2, rfl, hv, rfl⟩
    have V2 := Lib.hid hv; clear hv
    have KS : Hid (∀ v : World, Calls Try.prog 28 #[.float .f32 r2, .float .f32 x] v fun e w' => e = .returned (.bool true) ∧ v = w') := Lib.hid fun v => (specSame_any r2 x v V2.out.1 hx32).mono fun e w' ⟨h1, h2⟩ => ⟨by rw [h1, V2.out.2, decide_eq_true rfl], h2⟩
    have hy32 := nextN_lt hx32
    have KU : Hid (∀ v : World, Calls Try.prog 30 #[.float .f32 x] v fun e w' => e = .returned (.float .f32 (nextN x)) ∧ v = w') := Lib.hid fun v => specUp_any x v hx32
    have KX : Hid (∀ v : World, Calls Try.prog 31 #[.float .f32 x] v fun e w' => e = .returned (.bool (finB x)) ∧ ∃ n, w' = v.drewN n) := Lib.hid fun v => specFinite_any x v hx32
    have KY : Hid (∀ v : World, Calls Try.prog 31 #[.float .f32 (nextN x)] v fun e w' => e = .returned (.bool (finB (nextN x))) ∧ ∃ n, w' = v.drewN n) := Lib.hid fun v => specFinite_any (nextN x) v hy32
    have HBt : Hid (finB x = true → finB (nextN x) = true → Between x (nextN x)) := Lib.hid fun h1 h2 => next_between hx32 h1 h2
    generalize nextN x = y at *
    cases hfx : finB x
    · rw [hfx] at KX
      go_wp2_with (first | (go_at_call 28; refine (KS.out _).mono ?_; rintro e w4 ⟨rfl, rfl⟩) | (go_at_call 30; refine (KU.out _).mono ?_; rintro e w4 ⟨rfl, rfl⟩) | (go_at_call 31; refine (KX.out _).mono ?_; rintro e w4 ⟨rfl, m4, rfl⟩))
      go_ret
      exact ⟨rfl, since_drewN S2.out _⟩
    · cases hfy : finB y
      · rw [hfx] at KX
        rw [hfy] at KY
        go_wp2_with (first | (go_at_call 28; refine (KS.out _).mono ?_; rintro e w4 ⟨rfl, rfl⟩) | (go_at_call 30; refine (KU.out _).mono ?_; rintro e w4 ⟨rfl, rfl⟩) | (go_at_call 31; first | (refine (KX.out _).mono ?_; rintro e w4 ⟨rfl, m4, rfl⟩) | (refine (KY.out _).mono ?_; rintro e w5 ⟨rfl, m5, rfl⟩)))
        go_ret
        exact ⟨rfl, since_drewN S2.out _⟩
      · obtain ⟨mid, low, high, E1, E2, E3, ⟨q1, C1, D1⟩, ⟨q2, C2, D2⟩, ⟨q3, C3, D3⟩, F1, F2, F3⟩ := HBt.out hfx hfy
        have ax := (fin_of hx32 hfx).2
        have ay := (fin_of hy32 hfy).2
        rw [hfx] at KX
        rw [hfy] at KY
        have hX : Hid (Fv .f32 x (some x)) := Lib.hid ⟨hx32, ax⟩
        have hY : Hid (Fv .f32 y (some y)) := Lib.hid ⟨hy32, ay⟩
        have KB : Hid (∀ v : World, Calls Try.prog 32 #[.float .f32 x] v fun e w' => e = .returned (.int .i64 (x : Nat)) ∧ v = w') := Lib.hid fun v => by have h := specBits_any x v hx32; rw [ax] at h; exact h
        have q2c : Hid (Fv .f64 4611686018427387904 (some cTwo)) := Lib.hid ⟨by decide, by rw [ab64]; rfl⟩
        have E1 := Lib.hid E1; have E2 := Lib.hid E2; have E3 := Lib.hid E3
        have N1 := Lib.hid (fun (W : World) (h : Hid (Fv .f64 mid (some mid))) => implNarrowTo mid q1 W h F1 C1)
        have N2 := Lib.hid (fun (W : World) (h : Hid (Fv .f64 low (some low))) => implNarrowTo low q2 W h F2 C2)
        have N3 := Lib.hid (fun (W : World) (h : Hid (Fv .f64 high (some high))) => implNarrowTo high q3 W h F3 C3)
        clear HBt F1 F2 F3 C1 C2 C3 ax ay hfx hfy hxa V2
        have D1 := Lib.hid D1
        go_wp2_with (first | (go_at_call 28; refine (KS.out _).mono ?_; rintro e w4 ⟨rfl, rfl⟩) | (go_at_call 30; refine (KU.out _).mono ?_; rintro e w4 ⟨rfl, rfl⟩) | (go_at_call 31; first | (refine (KX.out _).mono ?_; rintro e w4 ⟨rfl, m4, rfl⟩) | (refine (KY.out _).mono ?_; rintro e w5 ⟨rfl, m5, rfl⟩)) | (with_reducible_and_instances refine Lo.wpList_wi _ rfl _ _ _ rfl _ _ rfl (by kernel_rfl) (by kernel_rfl) (by assumption) ?_; intro rr nn hrr) | (with_reducible_and_instances refine Lo.wpList_fo _ rfl .add _ _ _ _ rfl _ _ _ _ _ rfl rfl rfl (by assumption) (by assumption) ?_; intro ra na ha) | (with_reducible_and_instances refine Lo.wpList_fo _ rfl .quo _ _ _ _ rfl _ _ _ _ _ rfl rfl rfl (by assumption) (by assumption) ?_; intro rq nq hq; first | (rw [E1.out] at hq; obtain rfl := fv_litN hq rfl; have hM := hq) | (rw [E2.out] at hq; obtain rfl := fv_litN hq rfl; have hL := hq) | (rw [E3.out] at hq; obtain rfl := fv_litN hq rfl; have hH := hq)))
        refine (KB.out _).mono ?_
        rintro e w6 ⟨rfl, rfl⟩
        by_cases ho : x % 2 = 1
        · have D4 := D1.out
          rw [if_pos ho] at D4
          have o1 : (x : Int) % 2 = 1 := by omega
          have o2 : (x : Int).tmod 2 = 1 := by rw [Int.tmod_eq_emod_of_nonneg (by omega)]; exact o1
          clear ho
          go_wp2_with (first | (go_at_call 29; first | (refine (N1.out _ hM).mono ?_; rintro e w6 ⟨rfl, m6, rfl⟩) | (refine (N2.out _ hL).mono ?_; rintro e w7 ⟨rfl, m7, rfl⟩) | (refine (N3.out _ hH).mono ?_; rintro e w8 ⟨rfl, m8, rfl⟩)))
          go_ret
          exact ⟨rfl, since_drewN S2.out _⟩
        · have D4 := D1.out
          rw [if_neg ho] at D4
          have o1 : (x : Int) % 2 = 0 := by omega
          have o2 : (x : Int).tmod 2 = 0 := by rw [Int.tmod_eq_emod_of_nonneg (by omega)]; exact o1
          clear ho
          go_wp2_with (first | (go_at_call 29; first | (refine (N1.out _ hM).mono ?_; rintro e w6 ⟨rfl, m6, rfl⟩) | (refine (N2.out _ hL).mono ?_; rintro e w7 ⟨rfl, m7, rfl⟩) | (refine (N3.out _ hH).mono ?_; rintro e w8 ⟨rfl, m8, rfl⟩)))
          go_ret
          exact ⟨rfl, since_drewN S2.out _⟩
end Go.Proofs.Ytecgipilamefmaa

