/- IsStable, walked. -/
import Derived.Test.YtebocaicebolaaaGs
import Derived.Test.YtebocaicebolaaaFz
import Derived.Deep.DeepCutAuto
set_option linter.unusedVariables false
set_option linter.unusedSimpArgs false
namespace Go.Proofs.Ytebocaicebolaaa
open Fl Go.RowKit
theorem bits_clear_u64 {p : Nat} (hp : p < 18446744073709551616) : bits .andNot .u64 (p : Int) 9223372036854775808 = ((p % 9223372036854775808 : Nat) : Int) := by
  have h := u64_andNot_nat p 9223372036854775808 hp (by decide)
  have e : ((9223372036854775808 : Nat) : Int) = 9223372036854775808 := rfl
  rw [e] at h
  rw [h]
  have e2 : (18446744073709551615 - 9223372036854775808 : Nat) = 2 ^ 63 - 1 := rfl
  rw [e2, Nat.and_two_pow_sub_one_eq_mod]
namespace Lo
def isC : BinOp → Bool
  | .lss | .leq | .gtr | .geq => true
  | _ => false
def cmpB (op : BinOp) (c : Option Ordering) : Bool :=
  match op with
  | .lss => c == some .lt
  | .leq => c == some .lt || c == some .eq
  | .gtr => c == some .gt
  | .geq => c == some .gt || c == some .eq
  | _ => false
/-- a comparison of two floats of the statement's own -/
theorem wpL_cmp {P : Program} {ops : Array Oper} {C : World → Prop} {ds : List Nat} {Q : Act → Prop} {a : Act} {o : Oper} {rest : List Oper} {op : BinOp} (hg : o.guard = none) (t t2 : TypeId) (x y : Operand) (hop : o.op = Op.binOp op t x y t2) (hf : isC op = true) (k : FloatKind) (p q : Nat) (u v : Option Nat)
    (hx : a.eval x = .float k p) (hy : a.eval y = .float k q) (hp : RowKit.Hid (Fv k p u)) (hq : RowKit.Hid (Fv k q v))
    (hK : wpL P ops C (fun i => ds.contains i) Q rest (a.put o.dst (.bool (cmpB op (ordO k u v))))) : wpL P ops C (fun i => ds.contains i) Q (o :: rest) a := by
  refine wpL_of_loose hg (fun b hab w2 hw => ?_) hK
  obtain ⟨p2, e1, hp2⟩ := VR_fl hp (by rw [← hx]; exact eval_AR hab x)
  obtain ⟨q2, e2, hq2⟩ := VR_fl hq (by rw [← hy]; exact eval_AR hab y)
  have e : (execOp b.eval o).run P w2 = .ok (.value (.bool (cmpB op (ordO k u v)))) w2 := by
    have ho := order_ab k p2 q2
    rw [hp2.2, hq2.2] at ho
    cases op <;> simp only [isC] at hf <;> first | (cases hf; done) | (simp [execOp, hop, e1, e2, eqGuard, binOp, Op.floatCmp, ho, cmpB, Result.andThen])
  rw [e]
  exact ⟨hw, okv.refl ..⟩
end Lo

def stT (a1 a2 : Nat) : Bool := ordO .f64 (wide (ab .f32 a2)) (opO .sub .f64 (wide (ab .f32 (a1 % 2147483648))) (some 4607182418800017408)) == some .gt
theorem fvOne64 : Hid (Fv .f64 4607182418800017408 (some 4607182418800017408)) := Lib.hid ⟨by decide, by rw [ab64]; rfl⟩
theorem implSize2 (b : Nat) (w : World) (hb : b < 4294967296) :
    Calls Try.prog 86 #[.float .f32 b] w fun e w' => e = .returned (.float .f32 (b % 2147483648)) ∧ w' = w := by
  go_enter Try.func86, Try.ntmps86
  go_wp2_with (first | (go_at_call 83; refine (patternOf_any _ _).mono ?_; rintro e w' ⟨rfl, rfl⟩) | (go_at_call 100; refine (withoutSign_any _ _ hb).mono ?_; rintro e w' ⟨rfl, rfl⟩) | (go_at_call 101; refine (number_any (b % 2147483648) _).mono ?_; rintro e w' ⟨rfl, rfl⟩))
  go_ret
  exact ⟨rfl, rfl⟩

theorem cmp_flip_nat (a b : Nat) : (some (compare a b) == some Ordering.lt) = (some (compare b a) == some Ordering.gt) := by
  rw [Std.OrientedCmp.eq_swap (cmp := compare) (a := a) (b := b)]
  cases compare b a <;> rfl
theorem cmp_flip_int (a b : Int) : (some (compare a b) == some Ordering.lt) = (some (compare b a) == some Ordering.gt) := by
  rw [Std.OrientedCmp.eq_swap (cmp := compare) (a := a) (b := b)]
  cases compare b a <;> rfl
theorem datum_flip (d e : Ieee.Datum) : (d.order e == some Ordering.lt) = (e.order d == some Ordering.gt) := by
  cases d with
  | nan s f => cases e <;> rfl
  | infinity s => cases e with
    | nan t g => rfl
    | infinity t => exact cmp_flip_nat _ _
    | number t n j => cases s <;> rfl
  | number s m i => cases e with
    | nan t g => rfl
    | infinity t => cases t <;> rfl
    | number t n j =>
      unfold Ieee.Datum.order
      dsimp only
      rw [show min j i = min i j from by omega]
      exact cmp_flip_int _ _
theorem ord_flip (k : FloatKind) (u v : Option Nat) : (ordO k u v == some Ordering.lt) = (ordO k v u == some Ordering.gt) := by
  cases u with
  | none => cases v <;> rfl
  | some x => cases v with
    | none => rfl
    | some y => exact datum_flip _ _

set_option maxHeartbeats 4000000 in
set_option maxRecDepth 100000 in
theorem implIS_any (f : FilN) (w : World) (hF : FvF f (ofF f)) (c1 c2 : Bool) (h1 : (FloatKind.f32.format.order f.a2 3212836864 == some .gt) = c1) (h2 : (FloatKind.f32.format.order f.a2 1065353216 == some .lt) = c2) :
    Calls Try.prog 51 #[f.val] w fun e w' => e = .returned (.bool (c1 && c2 && stT f.a1 f.a2)) ∧ w.Since w.heap.size w' := by
  obtain ⟨b0, b1, b2, a1, a2⟩ := f
  obtain ⟨f0, f1, f2, f3, f4⟩ := hF
  simp only [ofF] at f0 f1 f2 f3 f4 h1 h2
  have g1 := fvOne64
  have ha1 : a1 < 4294967296 := f3.out.1
  have fs : Hid (Fv .f32 (a1 % 2147483648) (ab .f32 (a1 % 2147483648))) := Fl.fvs (by omega)
  unfold FilN.val
  cases c1 <;> cases c2
  · go_enter Try.func51, Try.ntmps51
    go_wp2
    go_ret
    exact ⟨rfl, by (repeat (first | (with_reducible refine Fl.sinDrew ?_) | (with_reducible refine World.Since.drew ?_) | (with_reducible refine Fl.sinSet ?_ ?_; rotate_left) | (with_reducible refine Fl.sinAlloc ?_ ?_; rotate_left) | with_reducible exact World.Since.refl _ _ | with_reducible assumption | (with_reducible refine Fl.sinStep (by with_reducible assumption) ?_))); all_goals (first | omega | (simp; done) | (simp; omega) | (simp [go_sem]; done) | (simp [go_sem]; omega))⟩
  · go_enter Try.func51, Try.ntmps51
    go_wp2
    go_ret
    exact ⟨rfl, by (repeat (first | (with_reducible refine Fl.sinDrew ?_) | (with_reducible refine World.Since.drew ?_) | (with_reducible refine Fl.sinSet ?_ ?_; rotate_left) | (with_reducible refine Fl.sinAlloc ?_ ?_; rotate_left) | with_reducible exact World.Since.refl _ _ | with_reducible assumption | (with_reducible refine Fl.sinStep (by with_reducible assumption) ?_))); all_goals (first | omega | (simp; done) | (simp; omega) | (simp [go_sem]; done) | (simp [go_sem]; omega))⟩
  · go_enter Try.func51, Try.ntmps51
    go_wp2
    go_ret
    exact ⟨rfl, by (repeat (first | (with_reducible refine Fl.sinDrew ?_) | (with_reducible refine World.Since.drew ?_) | (with_reducible refine Fl.sinSet ?_ ?_; rotate_left) | (with_reducible refine Fl.sinAlloc ?_ ?_; rotate_left) | with_reducible exact World.Since.refl _ _ | with_reducible assumption | (with_reducible refine Fl.sinStep (by with_reducible assumption) ?_))); all_goals (first | omega | (simp; done) | (simp; omega) | (simp [go_sem]; done) | (simp [go_sem]; omega))⟩
  · go_enter Try.func51, Try.ntmps51
    go_wp2
    refine Lo.wp_loose_all [15,16,19] (by kernel_rfl) (by kernel_rfl) ?_
    repeat (first
      | (refine Lo.wpL_cmp rfl _ _ _ _ rfl rfl _ _ _ _ _ rfl rfl (by assumption) (by assumption) ?_; simp only [Act.put, List.setIfInBounds_toArray, List.set_cons_succ, List.set_cons_zero])
      | (refine Lo.wpL_move rfl _ (.inl rfl) (by decide) ?_; simp only [Act.put, List.setIfInBounds_toArray, List.set_cons_succ, List.set_cons_zero])
      | (refine Lo.wpL_move rfl _ (.inr rfl) (by decide) ?_; simp only [Act.put, List.setIfInBounds_toArray, List.set_cons_succ, List.set_cons_zero])
      | (refine Lo.wpL_fop rfl _ _ _ _ rfl rfl (by decide) _ _ _ _ _ rfl rfl (by assumption) (by assumption) ?_; intro rr hrr; simp only [Act.put, List.setIfInBounds_toArray, List.set_cons_succ, List.set_cons_zero])
      | (refine Lo.wpL_wide rfl _ _ _ rfl (by decide) _ _ rfl (by kernel_rfl) (by kernel_rfl) (by assumption) ?_; intro rr hrr; simp only [Act.put, List.setIfInBounds_toArray, List.set_cons_succ, List.set_cons_zero])
      | (refine Lo.wpL_quiet rfl (by decide) (fun K hK => ?_); go_big_quiet_op; first | (refine hK _ ?_; clear hK K) | (apply Exists.intro; refine ⟨fun _ => ?_, hK _ ?_⟩; (first | (go_at_call 86; exact (implSize2 a1 _ ha1).mono fun _ _ ⟨h1, h2⟩ => ⟨h1, _, h2⟩)); clear hK K)))
    refine Lo.wpL_nil ?_
    refine Lo.after_fl rfl (by assumption) ?_; intro q15 h15; simp only [Act.put, List.setIfInBounds_toArray, List.set_cons_succ, List.set_cons_zero]
    refine Lo.after_fl rfl (by assumption) ?_; intro q16 h16; simp only [Act.put, List.setIfInBounds_toArray, List.set_cons_succ, List.set_cons_zero]
    refine Lo.after_fl rfl (by assumption) ?_; intro q19 h19; simp only [Act.put, List.setIfInBounds_toArray, List.set_cons_succ, List.set_cons_zero]
    refine Lo.after_nil ?_; intro nq
    go_wp2
    go_ret
    exact ⟨ret_bool (by simp only [Bool.true_and]; unfold stT; exact ord_flip _ _ _), by (repeat (first | (with_reducible refine Fl.sinDrew ?_) | (with_reducible refine World.Since.drew ?_) | (with_reducible refine Fl.sinSet ?_ ?_; rotate_left) | (with_reducible refine Fl.sinAlloc ?_ ?_; rotate_left) | with_reducible exact World.Since.refl _ _ | with_reducible assumption | (with_reducible refine Fl.sinStep (by with_reducible assumption) ?_))); all_goals (first | omega | (simp; done) | (simp; omega) | (simp [go_sem]; done) | (simp [go_sem]; omega))⟩

end Go.Proofs.Ytebocaicebolaaa
