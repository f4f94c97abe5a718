/- The model's scaled and mixed samples: lists that are appended to. -/
import Derived.Test.YtflpackchlpedaaSg
import Derived.Test.YtflpackchlpedaaSc
set_option linter.unusedVariables false
set_option linter.unusedSimpArgs false
namespace Go.Proofs.Ytflpackchlpedaa
namespace Fl
/-- words as values -/
def fvl (xs : List Nat) : List Value := xs.map (Value.float .f32)
/-- an appended row is a slice of the call's own -/
theorem Gs.of_own {T : TypeId} {w : World} {lo n c : Nat} {A : Option Addr} {xs : List Nat} (h : w.ownsRow lo T 1 (.slice A n c) n (fvl xs)) (hs : Small xs) : Gs T w lo A n xs := by
  have hl : xs.length = n := by simpa [fvl] using h.1
  refine ⟨hl, hs, fun hn => ?_⟩
  rcases h.2 with ⟨hv, h0⟩ | ⟨g, cap, cur, hv, hg, hb, hnc, _, hsz, htk⟩
  · omega
  · injection hv with h1 _ _
    subst h1
    refine ⟨g, cur, rfl, hg, hb, fun k hk => ?_⟩
    have e1 : (cur.toList.take (n * 1))[k]? = (fvl xs)[k]? := by rw [htk]
    rw [List.getElem?_take_of_lt (by omega)] at e1
    rw [Array.getElem?_toList] at e1
    rw [e1]
    unfold fvl fv wd
    simp [hl, hk]
theorem own_drewN {T : TypeId} {w : World} {lo n s : Nat} {v : Value} {xs : List Value} (h : w.ownsRow lo T s v n xs) (k : Nat) : (w.drewN k).ownsRow lo T s v n xs := h
theorem Small.snoc {xs : List Nat} {x : Nat} (h : Small xs) (hx : x < 4294967296) : Small (xs ++ [x]) := fun y hy => by
  rcases List.mem_append.1 hy with h1 | h1
  · exact h y h1
  · rw [List.mem_singleton.1 h1]; exact hx
theorem wd_snoc {xs : List Nat} {x n : Nat} (h : xs.length = n) (j : Nat) : wd (xs ++ [x]) j = if j < n then wd xs j else if j = n then x else 0 := by
  unfold wd
  simp only [List.getD_eq_getElem?_getD]
  by_cases h1 : j < n
  · rw [if_pos h1, List.getElem?_append_left (by omega)]
  · rw [if_neg h1, List.getElem?_append_right (by omega), h]
    by_cases h2 : j = n
    · rw [if_pos h2]; simp [h2]
    · rw [if_neg h2]
      have : ([x] : List Nat)[j - n]? = none := by simp; omega
      rw [this]; rfl
theorem own_lo {T : TypeId} {w : World} {lo n s : Nat} {v : Value} {xs : List Value} (h : w.ownsRow lo T s v n xs) : ∀ b, v.ownBlock = some b → lo ≤ b := by
  intro b hb
  rcases h.2 with ⟨rfl, _⟩ | ⟨g, cap, cur, rfl, hg, _⟩
  · simp [Value.ownBlock] at hb
  · simp [Value.ownBlock] at hb; omega
theorem own_form {T : TypeId} {w : World} {lo n s : Nat} {v : Value} {xs : List Value} (h : w.ownsRow lo T s v n xs) (hn : 0 < n) : ∃ g cap, v = .slice (some ⟨g, 0, none⟩) n cap := by
  rcases h.2 with ⟨_, h0⟩ | ⟨g, cap, cur, e, _⟩
  · omega
  · exact ⟨g, cap, e⟩
theorem one_new (w : World) (v : Value) (T : TypeId) (k : Nat) : ∀ (j : Nat) (u : Value), [v][j]? = some u → ((w.drewN k).alloc (Obj.cells #[v] T)).cell? (({ block := w.heap.size, off := 0 } : Addr).add j) = some u := by
  intro j u hj
  have h0 : j = 0 := by
    rcases j with _ | j
    · rfl
    · simp at hj
  subst h0
  simp at hj
  subst hj
  have hb : ((w.drewN k).alloc (Obj.cells #[v] T)).heap[w.heap.size]? = some (.cells #[v] T (0, 0)) := Go.Deep.blk_alloc_new (w.drewN k) _
  simp only [World.cell?, Addr.add, if_true]
  rw [hb]; rfl
theorem fvl_snoc (xs : List Nat) (x : Nat) : fvl xs ++ [Value.float .f32 x] = fvl (xs ++ [x]) := by unfold fvl; simp
end Fl
open Fl Go.RowKit

end Go.Proofs.Ytflpackchlpedaa
