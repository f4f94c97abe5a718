/- Loose regions whose callees make memory: worlds that grow. -/
import Derived.Test.YtflpackchlpedaaLq
import Derived.Test.YtflpackchlpedaaEo
import Derived.Deep.MidRow
set_option linter.unusedVariables false
set_option linter.unusedSimpArgs false
namespace Go.Proofs.Ytflpackchlpedaa
namespace Lo
open Fl Ieee
/-- a world with more blocks behind, and some draws -/
def mkW (w : World) (hs : Array Obj) (d : Nat) : World := { w with heap := w.heap ++ hs, drawn := d }
@[go_sem] theorem mkW_drewN (w : World) (hs : Array Obj) (d m : Nat) : (mkW w hs d).drewN m = mkW w hs (d + m) := rfl
theorem mkW_self (w : World) (d : Nat) : { w with drawn := d } = mkW w #[] d := by simp [mkW]
theorem mkW_since (w : World) (hs : Array Obj) (d : Nat) : w.Since w.heap.size (mkW w hs d) :=
  ⟨rfl, rfl, rfl, by simp [mkW], fun k hk => by simp [mkW, Array.getElem?_append_left hk]⟩
theorem sinceG {w v : World} {hs : Array Obj} {d : Nat} (h : mkW w hs d = v) : w.Since w.heap.size v := h ▸ mkW_since w hs d
theorem mkW_of {w v : World} (h : w.Since w.heap.size v) : ∃ hs d, v = mkW w hs d := by
  refine ⟨v.heap.extract w.heap.size v.heap.size, v.drawn, ?_⟩
  obtain ⟨h1, h2, h3, h4, h5⟩ := h
  obtain ⟨vh, vt, vd, vo, vp⟩ := v
  simp only at h1 h2 h3 h4 h5
  unfold mkW
  simp only [h1, h2, h3, World.mk.injEq, and_true, true_and]
  apply Array.ext_getElem?
  intro i
  by_cases hi : i < w.heap.size
  · rw [Array.getElem?_append_left hi, h5 i hi]
  · rw [Array.getElem?_append_right (by omega), Array.getElem?_extract]
    by_cases hj : i < vh.size
    · rw [if_pos (by omega)]; congr 1; omega
    · rw [if_neg (by omega), Array.getElem?_eq_none (by omega)]
theorem mkW_mkW {w v v2 : World} (h : ∃ hs d, v = mkW w hs d) (h2 : v.Since v.heap.size v2) : ∃ hs d, v2 = mkW w hs d := by
  obtain ⟨hs, d, rfl⟩ := h
  exact mkW_of (since_step (mkW_since w hs d) h2)
theorem cell_mkW {w : World} {hs : Array Obj} {d b o : Nat} (hb : b < w.heap.size) : (mkW w hs d).cell? ⟨b, o, none⟩ = w.cell? ⟨b, o, none⟩ := (mkW_since w hs d).cell (a := ⟨b, o, none⟩) hb
def VRs : List Value → List Value → Prop
  | [], us => us = []
  | v :: vs, us => ∃ u us', us = u :: us' ∧ VR v u ∧ VRs vs us'
theorem VR_int {k : IntKind} {n : Int} {u : Value} (h : VR (.int k n) u) : u = .int k n := by
  rcases h with rfl | ⟨_, _, _, e, _⟩
  · rfl
  · cases e
theorem VR_bool {n : Bool} {u : Value} (h : VR (.bool n) u) : u = .bool n := by
  rcases h with rfl | ⟨_, _, _, e, _⟩
  · rfl
  · cases e
theorem VR_ptr {n : Option Addr} {u : Value} (h : VR (.pointer n) u) : u = .pointer n := by
  rcases h with rfl | ⟨_, _, _, e, _⟩
  · rfl
  · cases e
theorem VR_agg {n : Array Value} {u : Value} (h : VR (.agg n) u) : u = .agg n := by
  rcases h with rfl | ⟨_, _, _, e, _⟩
  · rfl
  · cases e
section
variable {P : Program} {ops : Array Oper} {rest : List Oper} {o : Oper} {a : Act} {Q : Act → Prop} {ds : List Nat}
theorem wp_looseG_tail {P : Program} {id : Nat} {Q : Exit → Act → World → Prop} {a : Act} {w : World} {l : List Oper} (ds : List Nat) (n : Nat) (hm : P.follows .mixedOrders = true) (hB : Region.lexTailB .any l.toArray n = true)
    (h : wpL P l.toArray (fun v => ∃ hs d, v = mkW w hs d) (fun i => ds.contains i) (fun a2 => ∀ hs d, After ds a2 fun b _ => wpList P l.toArray Q (l.drop n) b (mkW w hs d)) (l.take n) a) : (Code.region id l.toArray true).wp P Q a w := by
  simp only [Region.lexTailB, Bool.and_eq_true, decide_eq_true_eq] at hB
  obtain ⟨⟨⟨⟨hsel, hn⟩, hs⟩, hc⟩, hlex⟩ := hB
  have hn2 : n < l.length := by simpa using hn
  have htl : (l.take n).length = n := by simp; omega
  have hdl : (l.drop n).length = l.toArray.size - n := by simp
  have inv0 : HeadInv .any l.toArray n (Array.replicate l.toArray.size false) :=
    ⟨by simp, fun j oj _ hl => (by rw [getD_replicate_false] at hl; cases hl), fun t _ ht => getD_in (by simpa using ht) (getD_replicate_false _ _)⟩
  have H := anyM_text (md := .any) (g := l.toArray.size - n) hsel hs hc hn (l.take n) 0 _ a (fun j hj => by
    have hj2 : j < n := by rw [htl] at hj; exact hj
    simp [hj2]) (by simpa using htl) inv0 (by rw [htl]; exact hlex) h
  refine wp_region_any hm ?_
  have := wpAny_of_anyM (Q2 := Q) (g := l.toArray.size - n) (fun listed a2 b w2 hw hab hL => by
    obtain ⟨hs2, d2, rfl⟩ := hw
    have := wpAny_of_seq (md := .any) (Q' := Q) (l.drop n) n listed b (mkW w hs2 d2) (fun j => by simp [List.getElem?_drop]) (by rw [hdl]; exact hL.1) (hL.2 hs2 d2 b hab 0)
    rwa [hdl] at this) _ _ a a { w with drawn := w.drawn + 1 } ⟨#[], _, mkW_self w _⟩ (AR.refl _ _) H
  rw [htl, show n + (l.toArray.size - n) = l.toArray.size by omega] at this
  exact this
theorem wp_looseG_all {P : Program} {id : Nat} {Q : Exit → Act → World → Prop} {a : Act} {w : World} {l : List Oper} (ds : List Nat) (hm : P.follows .mixedOrders = true) (hB : Region.lexB .any l.toArray = true)
    (h : wpL P l.toArray (fun v => ∃ hs d, v = mkW w hs d) (fun i => ds.contains i) (fun a2 => ∀ hs d, After ds a2 fun b _ => Q .normal b (mkW w hs d)) l a) : (Code.region id l.toArray true).wp P Q a w := by
  simp only [Region.lexB, Bool.and_eq_true] at hB
  refine wp_region_any hm (wpAny_of_anyL (C := fun v => ∃ hs d, v = mkW w hs d) (D := fun i => ds.contains i) (Q := fun a2 => ∀ hs d, After ds a2 fun b _ => Q .normal b (mkW w hs d))
    (fun a b w2 hw hab hq => by obtain ⟨hs, d, rfl⟩ := hw; exact hq hs d b hab 0) _ _ a a _ ⟨#[], _, mkW_self w _⟩ (AR.refl _ _) ?_)
  have := anyL_text (P := P) (C := fun v => ∃ hs d, v = mkW w hs d) (D := fun i => ds.contains i) (md := .any) hB.1 l 0 (Array.replicate l.length false) a (by simp) (by simpa using hB.2) h
  simpa using this
theorem wpG_fop {C : World → Prop} (hC : ∀ v m, C v → C (v.drewN m)) {op : BinOp} (hg : o.guard = none) (t t2 : TypeId) (x y : Operand) (hop : o.op = Op.binOp op t x y t2) (hf : isF op = true) (hd : ∀ d, o.dst = some d → ds.contains d = true) (k : FloatKind) (p q : Nat) (u v : Option Nat)
    (hx : a.eval x = .float k p) (hy : a.eval y = .float k q) (hp : RowKit.Hid (Fv k p u)) (hq : RowKit.Hid (Fv k q v))
    (hK : ∀ r, RowKit.Hid (Fv k r (opO op k u v)) → wpL P ops C (fun i => ds.contains i) Q rest (a.put o.dst (.float k r))) :
    wpL P ops C (fun i => ds.contains i) Q (o :: rest) a := by
  obtain ⟨r, hr⟩ := fv_ex hf k u v p q hp hq
  refine wpL_of_loose hg (fun b hab w2 hw => ?_) (hK r hr)
  obtain ⟨p2, e1, hp2⟩ := VR_fl hp (by rw [← hx]; exact eval_AR hab x)
  obtain ⟨q2, e2, hq2⟩ := VR_fl hq (by rw [← hy]; exact eval_AR hab y)
  have he : eqGuard op t x y (.float k p2) (.float k q2) = pure () := by
    rcases isF_of hf with rfl | rfl | rfl | rfl <;> rfl
  have e : (execOp b.eval o).run P w2 = .ok (.value (.float k (ov op k p2 q2 w2))) (w2.drewN (on op k p2 q2)) := by
    simp [execOp, hop, e1, e2, he, run_fopE (P := P) hf t k p2 q2 w2, Result.andThen]
  rw [e]
  have h2 := ov_fv hf k p2 q2 w2
  rw [hp2.2, hq2.2] at h2
  exact ⟨hC _ _ hw, .inr ⟨k, r, _, rfl, rfl, hr.1, h2.1, by rw [hr.2, h2.2]⟩, fun d hd2 hf2 => by have := hd d hd2; simp_all⟩
theorem drewG {w v : World} (m : Nat) (h : ∃ hs d, v = mkW w hs d) : ∃ hs d, v.drewN m = mkW w hs d := by
  obtain ⟨hs, d, rfl⟩ := h
  exact ⟨hs, d + m, rfl⟩
/-- a call of a Go function whose arguments the statement may have computed -/
theorem wpG_callV {C : World → Prop} (hg : o.guard = none) (f : FuncId) (xs : List Operand) (vs : List Value) (tys : Array TypeId) (hop : o.op = Op.call ⟨.value (.func f), xs.toArray, tys⟩) (hd : ∀ d, o.dst = some d → ds.contains d = true)
    (henter : ∀ args w2, (callFunc f args).run P w2 = .ok (.enter f args) w2)
    (k2 : FloatKind) (F : Option Nat) (hxs : xs.map a.eval = vs)
    (hc : ∀ us, VRs vs us → ∀ v, C v → Calls P f us.toArray v fun e v2 => ∃ r, e = .returned (.float k2 r) ∧ Fv k2 r F ∧ C v2)
    (hex : ∃ r, Fv k2 r F)
    (hK : ∀ r, RowKit.Hid (Fv k2 r F) → wpL P ops C (fun i => ds.contains i) Q rest (a.put o.dst (.float k2 r))) :
    wpL P ops C (fun i => ds.contains i) Q (o :: rest) a := by
  obtain ⟨r, hr⟩ := hex
  refine wpL_of_loose hg (fun b hab w2 hw => ?_) (hK r hr)
  have hus : VRs vs (xs.map b.eval) := by
    subst hxs
    clear hop hc
    induction xs with
    | nil => exact rfl
    | cons x xs ih => exact ⟨_, _, rfl, eval_AR hab x, ih⟩
  have e : (execOp b.eval o).run P w2 = .ok (.enter f (xs.map b.eval).toArray) w2 := by
    have ef : b.eval (.func f) = .func (.func f) #[] #[] := rfl
    simp [execOp, hop, resolve, ef, invoke, Deferred.ofValue, henter, Result.andThen]
  rw [e]
  exact ⟨hw, (hc _ hus w2 hw).mono fun e2 w3 ⟨r2, he, hr2, hw3⟩ => ⟨_, he, ⟨.inr ⟨k2, r, r2, rfl, rfl, hr.1, hr2.1, by rw [hr.2, hr2.2]⟩, fun d hd2 hf2 => by have := hd d hd2; simp_all⟩, hw3⟩⟩
theorem wpL_loadRow {C : World → Prop} (hg : o.guard = none) (ty : TypeId) (x : Operand) (hop : o.op = .load ty x) (ho : avoid ds o = true) (b off : Nat) (hx : a.eval x = .pointer (some ⟨b, off, none⟩)) (cs : List Value) (d : TypeDesc)
    (hu : P.underlying ty = some d) (hd : d.isRow = true) (hi : (P.info? ty).map (·.size) = some cs.length) (hS : ∀ v, C v → v.rangeAt b off cs)
    (hK : wpL P ops C (fun i => ds.contains i) Q rest (a.put o.dst (.agg cs.toArray))) : wpL P ops C (fun i => ds.contains i) Q (o :: rest) a := by
  refine wpL_of_loose hg (fun b' hab w hw => ?_) hK
  rw [eval_avoid hab ho]
  have e : (execOp a.eval o).run P w = .ok (.value (.agg cs.toArray)) w := by
    unfold execOp
    simp only [hop, hx, Instr.loadAt, Instr.sureAddr, Sem.run_bind, Sem.run_pure, Result.andThen_ok, run_loadVar_mid w b off ty cs d (hS w hw) hu hd hi]
  rw [e]
  exact ⟨hw, okv.refl ..⟩
theorem range_since {w v : World} {B b off : Nat} {cs : List Value} (h : w.rangeAt b off cs) (s : w.Since B v) (hb : b < B) : v.rangeAt b off cs := fun j x hj => (s.cell (a := ⟨b, off + j, none⟩) hb).trans (h j x hj)
/-- a call of known arguments that gives one value -/
theorem wpG_callQ {C : World → Prop} (hg : o.guard = none) (f : FuncId) (xs : List Operand) (vs : List Value) (tys : Array TypeId) (hop : o.op = Op.call ⟨.value (.func f), xs.toArray, tys⟩) (ho : avoid ds o = true)
    (henter : ∀ args w2, (callFunc f args).run P w2 = .ok (.enter f args) w2) (hxs : xs.map a.eval = vs) (val : Value)
    (hc : ∀ v, C v → Calls P f vs.toArray v fun e v2 => e = .returned val ∧ C v2)
    (hK : wpL P ops C (fun i => ds.contains i) Q rest (a.put o.dst val)) : wpL P ops C (fun i => ds.contains i) Q (o :: rest) a := by
  refine wpL_of_loose hg (fun b hab w2 hw => ?_) hK
  rw [eval_avoid hab ho]
  have e : (execOp a.eval o).run P w2 = .ok (.enter f vs.toArray) w2 := by
    have ef : a.eval (.func f) = .func (.func f) #[] #[] := rfl
    subst hxs
    simp [execOp, hop, resolve, ef, invoke, Deferred.ofValue, henter, Result.andThen]
  rw [e]
  exact ⟨hw, (hc w2 hw).mono fun e2 w3 ⟨he, hw3⟩ => ⟨_, he, okv.refl .., hw3⟩⟩
theorem wpL_load1 {C : World → Prop} (hg : o.guard = none) (ty : TypeId) (x : Operand) (hop : o.op = .load ty x) (ho : avoid ds o = true) (p : Addr) (hx : a.eval x = .pointer (some p)) (val : Value)
    (hS : ∀ v, C v → (loadVar ty p).run P v = .ok val v)
    (hK : wpL P ops C (fun i => ds.contains i) Q rest (a.put o.dst val)) : wpL P ops C (fun i => ds.contains i) Q (o :: rest) a := by
  refine wpL_of_loose hg (fun b' hab w hw => ?_) hK
  rw [eval_avoid hab ho]
  have e : (execOp a.eval o).run P w = .ok (.value val) w := by
    unfold execOp
    simp only [hop, hx, Instr.loadAt, Instr.sureAddr, Sem.run_bind, Sem.run_pure, Result.andThen_ok, hS w hw]
  rw [e]
  exact ⟨hw, okv.refl ..⟩
end
end Lo
end Go.Proofs.Ytflpackchlpedaa
