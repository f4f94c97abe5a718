/- Dynamics: levels, the model's. -/
import Derived.Test.YtflpackchlpedaaEn
import Derived.Test.YtflpackchlpedaaEc
set_option linter.unusedVariables false
set_option linter.unusedSimpArgs false
namespace Go.Proofs.Ytflpackchlpedaa
namespace Lo
open Fl Ieee
section
variable {P : Program} {ops : Array Oper} {rest : List Oper} {o : Oper} {a : Act} {Q : Act → Prop} {ds : List Nat}
theorem keeps (ts : List Nat) (vs : List Value) (hv : ts.map (fun t => a.tmps.getD t undef) = vs) (ht : ts.all (fun t => !ds.contains t) = true) (b : Act) (h : AR (fun i => ds.contains i) a b) : (ts.map Operand.tmp).map b.eval = vs := by
  subst hv
  rw [List.map_map]
  refine List.map_congr_left fun t hm => ?_
  have h1 := List.all_eq_true.1 ht t hm
  exact (h.2.2 t).2 (by simpa using h1)
/-- a call of a Go function, of nothing that the statement computes, which gives a float -/
theorem wpL_callF {w : World} (hg : o.guard = none) (f : FuncId) (ys : List Operand) (vs : List Value) (tys : Array TypeId) (hop : o.op = Op.call ⟨.value (.func f), ys.toArray, tys⟩) (hd : ∀ d, o.dst = some d → ds.contains d = true)
    (henter : ∀ args w2, (callFunc f args).run P w2 = .ok (.enter f args) w2)
    (k2 : FloatKind) (F : Option Nat) (hys : ∀ b, AR (fun i => ds.contains i) a b → ys.map b.eval = vs)
    (hc : ∀ m, Calls P f vs.toArray (w.drewN m) fun e w2 => ∃ r n, e = .returned (.float k2 r) ∧ Fv k2 r F ∧ w2 = w.drewN n)
    (hex : ∃ r, Fv k2 r F)
    (hK : ∀ r, RowKit.Hid (Fv k2 r F) → wpL P ops (fun v => ∃ n, v = w.drewN n) (fun i => ds.contains i) Q rest (a.put o.dst (.float k2 r))) :
    wpL P ops (fun v => ∃ n, v = w.drewN n) (fun i => ds.contains i) Q (o :: rest) a := by
  obtain ⟨r, hr⟩ := hex
  refine wpL_of_loose hg (fun b hab w2 hw => ?_) (hK r hr)
  have e : (execOp b.eval o).run P w2 = .ok (.enter f vs.toArray) w2 := by
    have h1 := hys b hab
    have ef : b.eval (.func f) = .func (.func f) #[] #[] := rfl
    simp [execOp, hop, resolve, ef, h1, invoke, Deferred.ofValue, henter, Result.andThen]
  rw [e]
  obtain ⟨m, rfl⟩ := hw
  refine ⟨⟨m, rfl⟩, (hc m).mono fun e2 w3 ⟨r2, n, he, hr2, hw3⟩ => ⟨_, he, ⟨.inr ⟨k2, r, r2, rfl, rfl, hr.1, hr2.1, by rw [hr.2, hr2.2]⟩, fun d hd2 hf2 => by have := hd d hd2; simp_all⟩, n, hw3⟩⟩
end
end Lo
open Fl Go.RowKit
theorem FolAt.drewN {w : World} {g a r l : Nat} (h : FolAt w g a r l) (m : Nat) : FolAt (w.drewN m) g a r l := ⟨h.lt, h.a, h.r, h.l⟩
theorem _root_.Go.Proofs.Ytflpackchlpedaa.Fl.Gs.onLow {T : TypeId} {w w' : World} {lo n g : Nat} {A : Option Addr} {xs : List Nat} (h : Gs T w lo A n xs) (o : On g w w') (hd : g < lo) : Gs T w' lo A n xs :=
  ⟨h.1, h.2.1, fun hn => by
    obtain ⟨b, cs, e, hb, hh, hc⟩ := h.2.2 hn
    exact ⟨b, cs, e, hb, (o.2 b (Array.getElem?_eq_some_iff.1 hh).1 (by omega)).trans hh, hc⟩⟩
theorem blk_keep {w : World} {b : Nat} (o : Obj) (h : b < w.heap.size) : (w.alloc o).heap[b]? = w.heap[b]? := ((World.Since.refl w.heap.size w).alloc (Nat.le_refl _) o).block b h
structure FolN where
  a : Nat
  r : Nat
  l : Nat
structure Fol where
  a : O
  r : O
  l : O
def FolN.val (d : FolN) : Value := .agg #[.float .f32 d.a, .float .f32 d.r, .float .f32 d.l]
structure FvFol (d : FolN) (D : Fol) : Prop where
  a : Hid (Fv .f32 d.a D.a)
  r : Hid (Fv .f32 d.r D.r)
  l : Hid (Fv .f32 d.l D.l)
def PLFB (n0 : Nat) (f0 : Nat → Option Nat) (S : Fol) (b : Bool) (w : World) (e : Ending) (w' : World) : Prop :=
  ∃ (p : Ls) (c : Nat) (s : FolN), e = .returned (.tuple #[.slice p.A p.n c, s.val, .bool b]) ∧ p.n = n0 ∧ Gs 33 w' w.heap.size p.A p.n p.xs ∧ Are p f0 ∧ FvFol s S ∧ w.Since w.heap.size w'
def levO (D : Fol) (X : Nat → O) : Nat → O
  | 0 => D.l
  | k + 1 => folO D.a D.r (levO D X k) (X k)
theorem folO_ex {A R L X : O} {a r l x : Nat} (ha : Hid (Fv .f32 a A)) (hr : Hid (Fv .f32 r R)) (hl : Hid (Fv .f32 l L)) (hx : Hid (Fv .f32 x X)) : ∃ q, Fv .f32 q (folO A R L X) := by
  unfold folO
  obtain ⟨d, hd⟩ := Lo.fv_ex (op := .sub) rfl .f32 _ _ _ _ (sizeN_fv hx).out hl.out
  cases gtO (sizeO X) L
  · obtain ⟨p, hp⟩ := Lo.fv_ex (op := .mul) rfl .f32 _ _ _ _ hr.out hd
    obtain ⟨s, hs⟩ := Lo.fv_ex (op := .add) rfl .f32 _ _ _ _ hl.out hp
    exact ⟨_, flushN_fv hs⟩
  · obtain ⟨p, hp⟩ := Lo.fv_ex (op := .mul) rfl .f32 _ _ _ _ ha.out hd
    obtain ⟨s, hs⟩ := Lo.fv_ex (op := .add) rfl .f32 _ _ _ _ hl.out hp
    exact ⟨_, flushN_fv hs⟩
end Go.Proofs.Ytflpackchlpedaa
