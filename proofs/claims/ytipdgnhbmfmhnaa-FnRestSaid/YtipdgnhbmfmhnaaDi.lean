/- Delays: the program's rings. -/
import Derived.Test.YtipdgnhbmfmhnaaDl
import Derived.StillTailTactics
import Derived.Deep.QuietTactic
import Derived.BigQuiet
import Derived.IntWalk
import Derived.Laws.CopyOwn
set_option linter.unusedVariables false
set_option linter.unusedSimpArgs false
namespace Go.Proofs.Ytipdgnhbmfmhnaa
open Fl Go.RowKit
theorem blk_set {w : World} {g k : Nat} {cs : List Value} {T : TypeId} {v : Value} (h : w.heap[g]? = some (.cells cs.toArray T (0, 0))) : (w.setCell ⟨g, k, none⟩ v).heap[g]? = some (.cells (cs.set k v).toArray T (0, 0)) := by
  simp [World.setCell, Array.getElem?_modify, h]
theorem tmodN (o n : Nat) : ((o : Int) + 1) % (n : Int) = (((o + 1) % n : Nat) : Int) := by rw [Int.natCast_emod]; rfl
theorem heap_drewN {w : World} {g : Nat} {x : Option Obj} (h : w.heap[g]? = x) (n : Nat) : (w.drewN n).heap[g]? = x := h
theorem below_drewN {B : Nat} {a w : World} (h : Below B a w) (n : Nat) : Below B a (w.drewN n) := ⟨h.os, h.tape, h.output, h.size, h.block⟩
theorem since_below {B : Nat} {w w' : World} (h : Below B w w') : w.Since B w' := ⟨h.os, h.tape, h.output, h.size, h.block⟩
theorem sl_own (B n o : Nat) (ho : o < n) (W : World) : ∃ P : Nat, (0 < o → P = n - o) ∧ ∀ W, (Instr.sliceAt 26 (.slice (some ⟨B, 0, none⟩) n n) (some (.int .i64 ((n - o : Nat) : Int))) none none).run Try.prog W = .ok (.slice (some ⟨B, P, none⟩) o o) W := by
  refine ⟨if o = 0 then 0 else n - o, fun h => by rw [if_neg (by omega)], fun W => ?_⟩
  have hs : ((sizeOf (Try.prog.elem 26)).run Try.prog W) = .ok 1 W := by kernel_rfl
  rw [run_sliceAt_slice W _ _ _ _ _ (by kernel_rfl), run_slice_l W _ _ _ _ (by kernel_rfl) .i64 _ (by omega) (by omega), hs]
  simp only [Result.andThen, sliced, Int.toNat_natCast]
  by_cases h : o = 0
  · subst h; simp
  · rw [if_neg h]
    have h1 : ¬ n = n - o := by omega
    have h2 : n - (n - o) = o := by omega
    simp [h1, h2, Addr.add]
    all_goals omega
theorem part_ring {n o : Nat} (ho : o < n) {f : Nat → Nat} {z : List Value} (hz : z.length = n) (i : Nat) (hi : i < n) :
    (splice (splice z 0 ((List.range (n - o)).map fun j => Value.float .f32 (f (o + j)))) (n - o) ((List.range o).map fun j => Value.float .f32 (f (0 + j))))[i]? = some (.float .f32 (f ((o + i) % n))) := by
  unfold splice
  simp only [List.take_zero, List.nil_append, List.length_map, List.length_range, Nat.zero_add]
  by_cases h : i < n - o
  · rw [List.getElem?_append_left (by simp <;> omega), List.getElem?_take_of_lt h, List.getElem?_append_left (by simp <;> omega)]
    rw [Nat.mod_eq_of_lt (show o + i < n by omega)]
    simp [h]
  · have e : (o + i) % n = i - (n - o) := by
      rw [show o + i = (i - (n - o)) + n by omega, Nat.add_mod_right]
      exact Nat.mod_eq_of_lt (by omega)
    rw [List.getElem?_append_right (by rw [List.length_take]; omega)]
    have e2 : (List.take (n - o) ((List.range (n - o)).map (fun j => Value.float .f32 (f (o + j))) ++ List.drop (n - o) z)).length = n - o := by rw [List.length_take]; simp <;> omega
    rw [e2, List.getElem?_append_left (by simp <;> omega), e]
    rw [List.getElem?_map, List.getElem?_range (by omega)]; simp
theorem floats_one {m : Nat} {q : Nat → Nat} : ∀ v ∈ (List.range m).map fun j => Value.float .f32 (q j), v.oneCell' = true := fun v hv => by
  obtain ⟨x, _, rfl⟩ := List.mem_map.1 hv
  rfl
end Go.Proofs.Ytipdgnhbmfmhnaa
