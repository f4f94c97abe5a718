/- Filters: what a step gives, and the model's step. -/
import Derived.Test.YtflpackchlpedaaWc
import Derived.Test.YtflpackchlpedaaLq
import Derived.Test.YtflpackchlpedaaSa
import Derived.StillTailTactics
set_option linter.unusedVariables false
set_option linter.unusedSimpArgs false
namespace Go.Proofs.Ytflpackchlpedaa
open Fl Go.RowKit

def flO (fu : Bool) (v : Option Nat) : Option Nat := if fu then v.map flushN else v
theorem flushN_fv {x : Nat} {F : Option Nat} (h : Fv .f32 x F) : Fv .f32 (flushN x) (F.map flushN) := by
  obtain ⟨h1, h2⟩ := h
  refine ⟨flushN_lt h1, ?_⟩
  rw [← h2, ab32, ab32]
  unfold flushN
  have h1' : x < 4294967296 := h1
  by_cases e : x % 2147483648 < 8388608
  · rw [if_pos e, if_neg (by omega), if_neg (by omega)]
    simp [e]
  · rw [if_neg e]
    by_cases e2 : 2139095040 < x % 2147483648
    · rw [if_pos e2]; rfl
    · rw [if_neg e2]; simp [e]
theorem flO_fv {x : Nat} {F : Option Nat} (h : Hid (Fv .f32 x F)) (fu : Bool) : Hid (Fv .f32 (if fu then flushN x else x) (flO fu F)) := by
  cases fu
  · exact h
  · exact flushN_fv h
theorem flO_ex {x : Nat} {F : Option Nat} (h : Hid (Fv .f32 x F)) (fu : Bool) : ∃ r, Fv .f32 r (flO fu F) := ⟨_, flO_fv h fu⟩

abbrev O := Option Nat
abbrev ad (a b : O) : O := opO .add .f32 a b
abbrev su (a b : O) : O := opO .sub .f32 a b
abbrev mu (a b : O) : O := opO .mul .f32 a b

/-- A step's number and next memory, by the three forms. -/
def dirY (fu : Bool) (b0 b1 b2 a1 a2 a b c d x : O) : O := flO fu (su (su (ad (ad (mu b0 x) (mu b1 a)) (mu b2 b)) (mu a1 c)) (mu a2 d))
def turY (fu : Bool) (b0 a x : O) : O := flO fu (ad (mu b0 x) a)
def turA (b1 a1 b x y : O) : O := ad (su (mu b1 x) (mu a1 y)) b
def turB (b2 a2 x y : O) : O := su (mu b2 x) (mu a2 y)
def canW (fu : Bool) (a1 a2 a b x : O) : O := flO fu (su (su x (mu a1 a)) (mu a2 b))
def canY (fu : Bool) (b0 b1 b2 a b v : O) : O := flO fu (ad (ad (mu b0 v) (mu b1 a)) (mu b2 b))
structure Fil where
  b0 : O
  b1 : O
  b2 : O
  a1 : O
  a2 : O
structure Mem where
  a : O
  b : O
  c : O
  d : O
def flM (fu : Bool) (m : Mem) : Mem := ⟨flO fu m.a, flO fu m.b, flO fu m.c, flO fu m.d⟩
def stepY (form : Nat) (fu : Bool) (f : Fil) (m : Mem) (x : O) : O :=
  match form with
  | 0 => dirY fu f.b0 f.b1 f.b2 f.a1 f.a2 m.a m.b m.c m.d x
  | 1 => turY fu f.b0 m.a x
  | _ => canY fu f.b0 f.b1 f.b2 m.a m.b (canW fu f.a1 f.a2 m.a m.b x)
def stepM (form : Nat) (fu : Bool) (f : Fil) (m : Mem) (x : O) : Mem :=
  match form with
  | 0 => flM fu ⟨x, m.a, dirY fu f.b0 f.b1 f.b2 f.a1 f.a2 m.a m.b m.c m.d x, m.c⟩
  | 1 => flM fu ⟨turA f.b1 f.a1 m.b x (turY fu f.b0 m.a x), turB f.b2 f.a2 x (turY fu f.b0 m.a x), some 0, some 0⟩
  | _ => flM fu ⟨canW fu f.a1 f.a2 m.a m.b x, m.a, some 0, some 0⟩

/-- words of a filter, of a memory -/
structure FilN where
  b0 : Nat
  b1 : Nat
  b2 : Nat
  a1 : Nat
  a2 : Nat
structure MemN where
  a : Nat
  b : Nat
  c : Nat
  d : Nat
def MemN.val (m : MemN) : Value := .agg #[.float .f32 m.a, .float .f32 m.b, .float .f32 m.c, .float .f32 m.d]
def FilN.val (f : FilN) : Value := .agg #[.float .f32 f.b0, .float .f32 f.b1, .float .f32 f.b2, .float .f32 f.a1, .float .f32 f.a2]
structure FvM (m : MemN) (M : Mem) : Prop where
  a : Hid (Fv .f32 m.a M.a)
  b : Hid (Fv .f32 m.b M.b)
  c : Hid (Fv .f32 m.c M.c)
  d : Hid (Fv .f32 m.d M.d)
structure FvF (f : FilN) (F : Fil) : Prop where
  b0 : Hid (Fv .f32 f.b0 F.b0)
  b1 : Hid (Fv .f32 f.b1 F.b1)
  b2 : Hid (Fv .f32 f.b2 F.b2)
  a1 : Hid (Fv .f32 f.a1 F.a1)
  a2 : Hid (Fv .f32 f.a2 F.a2)

/-- What a step leaves. -/
def StepPost (w : World) (Y : O) (M : Mem) (e : Ending) (w' : World) : Prop :=
  ∃ (y : Nat) (m : MemN), e = .returned (.tuple #[.float .f32 y, m.val]) ∧ Hid (Fv .f32 y Y) ∧ FvM m M ∧ w.Since w.heap.size w'

theorem callsEnter (f : FuncId) (fn : Func) (c : Code) (hf : Try.prog.funcs[f]? = some fn) (hn : (fn.name == "runtime.NumGoroutine") = false) (hb : fn.body = some c) (args : Array Value) (w : World) :
    (callFunc f args).run Try.prog w = .ok (.enter f args) w := by
  have h1 : fn.name ≠ "runtime.NumGoroutine" := by simpa using hn
  simp [callFunc, hf, h1, hb]

/-- a filter that lies in memory -/
structure FilAt (w : World) (g : Nat) (f : FilN) : Prop where
  lt : g < w.heap.size
  b0 : w.cell? ⟨g, 0, none⟩ = some (.float .f32 f.b0)
  b1 : w.cell? ⟨g, 1, none⟩ = some (.float .f32 f.b1)
  b2 : w.cell? ⟨g, 2, none⟩ = some (.float .f32 f.b2)
  a1 : w.cell? ⟨g, 3, none⟩ = some (.float .f32 f.a1)
  a2 : w.cell? ⟨g, 4, none⟩ = some (.float .f32 f.a2)
end Go.Proofs.Ytflpackchlpedaa
