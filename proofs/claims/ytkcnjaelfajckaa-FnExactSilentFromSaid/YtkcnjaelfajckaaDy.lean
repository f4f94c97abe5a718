/- Arrays of floats compared; silence. -/
import Derived.Test.YtkcnjaelfajckaaDs
import Derived.Test.YtkcnjaelfajckaaRz
import Derived.Laws.StructEq
import Derived.Deep.MidRow
set_option linter.unusedVariables false
set_option linter.unusedSimpArgs false
namespace Go.Proofs.Ytkcnjaelfajckaa
open Fl Go.RowKit
theorem forIn_all {P : Program} (A : Nat → Sem Bool) (p : Nat → Bool) (w : World) : ∀ (l : List Nat), (∀ i ∈ l, (A i).run P w = .ok (p i) w) →
    (do for i in l do
          if !(← A i) then return false
        pure true : Sem Bool).run P w = .ok (l.all p) w
  | [], _ => rfl
  | i :: l, h => by
    have ih := forIn_all A p w l (fun j hj => h j (.tail _ hj))
    have h0 := h i (.head _)
    simp only [List.forIn_cons, bind_assoc]
    rw [Sem.run_bind, h0]
    simp only [Result.andThen_ok]
    cases hp : p i
    · simp [List.all_cons, hp, Sem.run_pure]
    · simp only [Bool.not_true, Bool.false_eq_true, if_false, pure_bind]
      rw [List.all_cons, hp, Bool.true_and]
      exact ih
theorem part_float {x : Array Value} {f : Nat → Nat} {i : Nat} (h : x[i]? = some (.float .f32 (f i))) (w : World) : (Go.part 22 x (i * 1)).run Try.prog w = .ok (.float .f32 (f i)) w := by
  have u3 := Try.underlying22
  have a3 := Try.isAgg22
  have z3 := Try.sizeOf22
  rw [Nat.mul_one]
  unfold Go.part
  go_simp
  all_goals simp [h]
theorem eqF (d : Nat) (a b : Nat) (w : World) : (Op.equalIn (d + 1) 22 (.float .f32 a) (.float .f32 b)).run Try.prog w = .ok (Op.floatEq .f32 a b) w := by
  rw [Op.equalIn]
  simp only [Sem.run_bind, run_underlying Try.underlying22, Result.andThen_ok]
  simp [Sem.run_pure]
theorem eq64 (x y : Array Value) (f g : Nat → Nat) (hx : ∀ i, i < 64 → x[i]? = some (.float .f32 (f i))) (hy : ∀ i, i < 64 → y[i]? = some (.float .f32 (g i))) (w : World) :
    (Op.equalIn 10000 146 (.agg x) (.agg y)).run Try.prog w = .ok ((List.range' 0 64).all fun i => Op.floatEq .f32 (f i) (g i)) w := by
  have z3 := Try.sizeOf22
  rw [show (10000 : Nat) = 9999 + 1 from rfl, Op.equalIn]
  simp only [Sem.run_bind, run_underlying Try.underlying146, Result.andThen_ok]
  have hs : ((sizeOf 22).run Try.prog w) = .ok 1 w := by kernel_rfl
  rw [hs]
  simp only [Result.andThen_ok, Std.Legacy.Range.forIn_eq_forIn_range', Std.Legacy.Range.size, Nat.sub_zero, Nat.add_sub_cancel, Nat.div_one]
  have key := forIn_all (P := Try.prog) (fun i => do
      let a ← Go.part 22 x (i * 1)
      let b ← Go.part 22 y (i * 1)
      Op.equalIn 9999 22 a b) (fun i => Op.floatEq .f32 (f i) (g i)) w (List.range' 0 64) (fun i hi => by
        have h := (List.mem_range'_1.1 hi).2
        simp only [Sem.run_bind, part_float (hx i (by omega)), part_float (hy i (by omega)), Result.andThen_ok, eqF])
  simp only [bind_assoc, Sem.run_bind] at key
  exact key
set_option maxHeartbeats 2000000 in
set_option maxRecDepth 100000 in
theorem isSilent_any (g n o : Nat) (f : Nat → Nat) (w : World) (h : RingAt w g n o f) :
    Calls Try.prog 100 #[.pointer (some ⟨g, 0, none⟩)] w fun e w' => e = .returned (.bool ((List.range' 0 64).all fun i => Op.floatEq .f32 (f i) 0)) ∧ w = w' := by
  obtain ⟨X, hX⟩ : ∃ X : List Value, X = (List.range 64).map fun i => Value.float .f32 (f i) := ⟨_, rfl⟩
  have HR : Hid (w.rangeAt g 0 X) := Lib.hid (fun j v hj => by
      rw [hX] at hj
      have hj64 : j < 64 := by have := (List.getElem?_eq_some_iff.1 hj).1; simpa using this
      simp [hj64] at hj
      subst hj
      rw [Nat.zero_add]; exact h.num hj64)
  have HL : Hid ((Try.prog.info? 146).map (·.size) = some X.length) := Lib.hid (by rw [hX, List.length_map, List.length_range]; kernel_rfl)
  have HX : Hid (∀ i, i < 64 → X.toArray[i]? = some (.float .f32 (f i))) := Lib.hid (fun i hi => by rw [hX]; simp [hi])
  have heq : ∀ W : World, (Op.equalIn 10000 146 (.agg X.toArray) (.agg #[.float .f32 0, .float .f32 0, .float .f32 0, .float .f32 0, .float .f32 0, .float .f32 0, .float .f32 0, .float .f32 0, .float .f32 0, .float .f32 0, .float .f32 0, .float .f32 0, .float .f32 0, .float .f32 0, .float .f32 0, .float .f32 0, .float .f32 0, .float .f32 0, .float .f32 0, .float .f32 0, .float .f32 0, .float .f32 0, .float .f32 0, .float .f32 0, .float .f32 0, .float .f32 0, .float .f32 0, .float .f32 0, .float .f32 0, .float .f32 0, .float .f32 0, .float .f32 0, .float .f32 0, .float .f32 0, .float .f32 0, .float .f32 0, .float .f32 0, .float .f32 0, .float .f32 0, .float .f32 0, .float .f32 0, .float .f32 0, .float .f32 0, .float .f32 0, .float .f32 0, .float .f32 0, .float .f32 0, .float .f32 0, .float .f32 0, .float .f32 0, .float .f32 0, .float .f32 0, .float .f32 0, .float .f32 0, .float .f32 0, .float .f32 0, .float .f32 0, .float .f32 0, .float .f32 0, .float .f32 0, .float .f32 0, .float .f32 0, .float .f32 0, .float .f32 0])).run Try.prog W = .ok ((List.range' 0 64).all fun i => Op.floatEq .f32 (f i) 0) W := fun W =>
    eq64 _ _ f (fun _ => 0) HX.out (fun i hi => by show (Array.replicate 64 (Value.float .f32 0))[i]? = _; simp [hi]) W
  clear h hX
  go_enter Try.func100, Try.ntmps100
  go_wp2_with (with_reducible refine wpList_load_mid (op := ⟨some 6, _, _, _, _, _⟩) rfl 146 (.tmp 5) rfl g 0 rfl X _ HR.out Try.underlying146 rfl HL.out ?_)
  go_ret
  exact ⟨rfl, rfl⟩
end Go.Proofs.Ytkcnjaelfajckaa
