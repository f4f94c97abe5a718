/- Lists of structs that hold lists: as entries of a law, and as they come in. -/
import Derived.Test.YtbgjmmncjmcjfaaMa
import Derived.Test.YtbgjmmncjmcjfaaMc
import Derived.Test.YtbgjmmncjmcjfaaHb
set_option linter.unusedVariables false
set_option linter.unusedSimpArgs false
namespace Go.Proofs.Ytbgjmmncjmcjfaa
namespace Fl
section
variable {α : Type} {cells : α → List Value} {s : Nat} {T : TypeId} {inner : α → En} {B n : Nat} {A : Option Addr} {e : Nat → α} {w w' : World}
/-- what an entry says is kept where its blocks are -/
def Fr_ (p : En) : Prop := ∀ w w' : World, (∀ g, p.S g → w'.heap[g]? = w.heap[g]?) → p.P w → p.P w'
/-- no list of an element lies with another one, or with the elements -/
def Alone (T : TypeId) (cells : α → List Value) (s : Nat) (inner : α → En) (A : Option Addr) (n : Nat) (e : Nat → α) : Prop :=
  (∀ k, k < n → De (se cells s T A n e) (inner (e k))) ∧ ∀ j k, j < n → k < n → j ≠ k → De (inner (e j)) (inner (e k))
def ne (cells : α → List Value) (s : Nat) (T : TypeId) (inner : α → En) (A : Option Addr) (n : Nat) (e : Nat → α) : En :=
  ⟨fun w => (se cells s T A n e).P w ∧ (∀ k, k < n → (inner (e k)).P w) ∧ Alone T cells s inner A n e, fun g => (se cells s T A n e).S g ∨ ∃ k, k < n ∧ (inner (e k)).S g⟩
theorem ne_ge (ho : Ge B w (se cells s T A n e)) (hi : ∀ k, k < n → Ge B w (inner (e k))) (ha : Alone T cells s inner A n e) : Ge B w (ne cells s T inner A n e) :=
  ⟨⟨ho.1, fun k hk => (hi k hk).1, ha⟩, fun w w' h hp => ⟨ho.2.1 w w' (fun g hg => h g (.inl hg)) hp.1, fun k hk => (hi k hk).2.1 w w' (fun g hg => h g (.inr ⟨k, hk, hg⟩)) (hp.2.1 k hk), hp.2.2⟩, fun g hg => by
    rcases hg with hg | ⟨k, hk, hg⟩
    · exact ho.2.2 g hg
    · exact (hi k hk).2.2 g hg⟩
theorem Ge.outer (h : Ge B w (ne cells s T inner A n e)) : Ge B w (se cells s T A n e) := ⟨h.1.1, ce_frame, fun g hg => h.2.2 g (.inl hg)⟩
theorem Ge.each (h : Ge B w (ne cells s T inner A n e)) (hf : ∀ x, Fr_ (inner x)) (k : Nat) (hk : k < n) : Ge B w (inner (e k)) := ⟨h.1.2.1 k hk, hf _, fun g hg => h.2.2 g (.inr ⟨k, hk, hg⟩)⟩
theorem Ge.alone (h : Ge B w (ne cells s T inner A n e)) : Alone T cells s inner A n e := h.1.2.2
end
open Go.ChangeShapes Go.WideShapes Go.RowKit Go.Deep
section
variable {H : Type} {enc : TypeId × Value → H} {P : Program} {w : World} {base : Nat}
/-- a list of floats in a field -/
theorem trod_fs {fuel : Nat} {t e : TypeId} {v : Value} {x : DataW H × List MemPlace} {W : World} (ht : P.underlying t = some (.slice e)) (he : P.underlying e = some (.float .f32)) (hc : P.cellsOf e = 1)
    (hf : DataW.trod enc P W base (fun _ => true) true fuel t [v] = some x) :
    ∃ (A : Option Addr) (n c : Nat) (xs : List Nat), v = .slice A n c ∧ Fs W W.heap.size A n xs ∧ n ≤ 9223372036854775807 := by
  rcases Go.Deep.open_slice ht hf with ⟨hcs, _⟩ | ⟨a, len, cap, m, k, D, Pl, hcs, _, hl, hm, hmm, _, hi⟩
  · injection hcs with hcs _
    exact ⟨none, 0, 0, [], hcs, ⟨rfl, (fun x hx => by cases hx), (fun h => by omega)⟩, by omega⟩
  · injection hcs with hcs _
    rw [if_pos rfl] at hmm
    have hlm : len ≤ m := by omega
    have hcell : ∀ i, i < m → ∃ b, W.cell? (a.add i) = some (.float .f32 b) ∧ b < 4294967296 := by
      intro i him
      obtain ⟨cs', hcs', htr⟩ := hi i him
      rw [hc, Nat.mul_one] at hcs'
      obtain ⟨_, hlen, hat⟩ := World.cells?_some hcs'
      obtain ⟨b, hb, hw⟩ := trod_fl he htr
      have h0 := hat 0 (by omega)
      rw [hb] at h0
      refine ⟨b, ?_, wf_f32 hw⟩
      have e : (a.add i).add 0 = a.add i := by simp [Addr.add]
      rw [e] at h0
      exact h0
    let f : Nat → Nat := fun i => if h : i < m then Classical.choose (hcell i h) else 0
    have hfs : ∀ i (h : i < m), W.cell? (a.add i) = some (.float .f32 (f i)) ∧ f i < 4294967296 := by
      intro i h
      have := Classical.choose_spec (hcell i h)
      simp only [f, dif_pos h]
      exact this
    refine ⟨some a, len, cap, (List.range len).map f, hcs, ⟨by simp, ?_, ?_⟩, by unfold maxLen at hm; omega⟩
    · intro x hx
      obtain ⟨i, hi1, rfl⟩ := List.mem_map.1 hx
      exact (hfs i (by have := List.mem_range.1 hi1; omega)).2
    · intro hn
      obtain ⟨g, off, spot⟩ := a
      have h0 := (hfs 0 (by omega)).1
      have hspot : spot = none := by simpa [Addr.add] using World.cell?_spot h0
      subst hspot
      refine ⟨g, off, rfl, ?_, fun k hk => ?_⟩
      · have h1 : W.cell? ⟨g, off, none⟩ = some (.float .f32 (f 0)) := by simpa [Addr.add] using h0
        rcases Nat.lt_or_ge g W.heap.size with h2 | h2
        · exact h2
        · simp [World.cell?, Array.getElem?_eq_none h2] at h1
      · have h1 := (hfs k (by omega)).1
        rw [Go.WideShapes.add_plain] at h1
        rw [h1]
        unfold fv wd
        simp [hk]
/-- a list of structs, and what reading an element tells beside its cells -/
theorem open_ns {α : Type} {cells : α → List Value} {s : Nat} {ok : World → α → Prop} (z : α) {W : World} {b0 : Nat} {r : Reach} {t e : TypeId} {v : Value} {d : DataW H} {ps : List MemPlace} (ht : P.underlying t = some (.slice e)) (hc : P.cellsOf e = s) (hs : 0 < s)
    (hrow : ∀ (fuel : Nat) (cs : List Value) (x : DataW H × List MemPlace), DataW.trod enc P W base (fun _ => true) true fuel e cs = some x → ∃ y : α, ok W y ∧ cells y = cs)
    (hval : Value.okWide P W r b0 t v) (h : DataW.Trod enc P W base (fun _ => true) true t v d ps) :
    ∃ (A : Option Addr) (n c : Nat) (f : Nat → α), v = .slice A n c ∧ Rs cells s W W.heap.size A n f ∧ (∀ k, k < n → ok W (f k)) ∧ n ≤ 9223372036854775807 :=
  open_ss (ok := ok W) z ht hc hs hrow hval h
end
end Fl
open Fl Go.RowKit
/-- a mark of a list changes nothing else -/
theorem mark_only (A : Option Addr) (n : Nat) (xs : List Nat) (c k0 : Nat) (K : Int) (v : World) (B : Nat) (h : Ge B v (fe A n xs)) (hB : B ≤ v.heap.size) (hn : n ≤ 1048576) (hk0 : k0 ≤ 1073741824) (hK : K = (k0 : Nat)) :
    Calls Try.prog 53 #[.slice A n c, .int .i64 K] v fun e v' => e = .returned (.int .i64 ((k0 + n : Nat) : Int)) ∧ Ge B v' (fe A n (mk k0 n)) ∧ (∀ b, b < v.heap.size → ¬ (fe A n xs).S b → v'.heap[b]? = v.heap[b]?) ∧ v.Since B v' := by
  have he0 : Ge 0 v ⟨fun w' => ∀ b, b < v.heap.size → ¬ (fe A n xs).S b → w'.heap[b]? = v.heap[b]?, fun b => b < v.heap.size ∧ ¬ (fe A n xs).S b⟩ := ⟨fun b _ _ => rfl, fun w w' h hp b hb hs => (h b ⟨hb, hs⟩).trans (hp b hb hs), fun g hg => ⟨Nat.zero_le _, hg.1⟩⟩
  have H : He 0 v [fe A n xs, ⟨fun w' => ∀ b, b < v.heap.size → ¬ (fe A n xs).S b → w'.heap[b]? = v.heap[b]?, fun b => b < v.heap.size ∧ ¬ (fe A n xs).S b⟩] := ⟨⟨h.less (Nat.zero_le _), fun q hq b h1 h2 => by
    obtain rfl := List.mem_singleton.1 hq
    exact h2.2 h1⟩, ⟨he0, fun q hq => by cases hq⟩, trivial⟩
  refine (markFE_any A n xs c k0 K v 0 _ H hn hk0 hK).mono fun e v' ⟨h1, h2, h3⟩ => ?_
  have h4 := h2.2.1.1.1
  refine ⟨h1, ⟨h2.1.1.1, h2.1.1.2.1, fun g hg => ⟨(h.2.2 g hg).1, (h2.1.1.2.2 g hg).2⟩⟩, h4, h3.os, h3.tape, h3.output, h3.size, fun k hk => ?_⟩
  exact h4 k (by omega) fun h6 => by have := (h.2.2 k h6).1; omega
end Go.Proofs.Ytbgjmmncjmcjfaa
