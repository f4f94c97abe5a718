/- Slices of single-precision words, and what is made wide inside a statement whose order is open. -/
import Derived.Test.YtflpackchlpedaaFl
import Derived.Deep.OwnRows
set_option linter.unusedVariables false
set_option linter.unusedSimpArgs false
namespace Go.Proofs.Ytflpackchlpedaa
namespace Fl
open Ieee

/-- a list's word; the cells of words -/
def wd (xs : List Nat) (j : Nat) : Nat := xs.getD j 0
def fv (xs : List Nat) (j : Nat) : Value := .float .f32 (wd xs j)
def Small (xs : List Nat) : Prop := ∀ x ∈ xs, x < 4294967296
theorem Small.at_ {xs : List Nat} (h : Small xs) (k : Nat) : wd xs k < 4294967296 := by
  unfold wd; rw [List.getD_eq_getElem?_getD]
  cases e : xs[k]? with
  | none => simp
  | some x => simpa using h x (List.mem_of_getElem? e)

/-- A slice (address A, length n) that reads as the words xs in the world w, and lies below block B. -/
def Fs (w : World) (B : Nat) (A : Option Addr) (n : Nat) (xs : List Nat) : Prop :=
  xs.length = n ∧ Small xs ∧ (0 < n → ∃ g off, A = some ⟨g, off, none⟩ ∧ g < B ∧ ∀ k, k < n → w.cell? ⟨g, off + k, none⟩ = some (fv xs k))

theorem Fs.keep {w w' : World} {B : Nat} {A : Option Addr} {n : Nat} {xs : List Nat} (h : Fs w B A n xs) (hk : ∀ g o, g < B → w'.cell? ⟨g, o, none⟩ = w.cell? ⟨g, o, none⟩) : Fs w' B A n xs :=
  ⟨h.1, h.2.1, fun hn => by
    obtain ⟨g, off, e, hg, hc⟩ := h.2.2 hn
    exact ⟨g, off, e, hg, fun k hk' => (hk g _ hg).trans (hc k hk')⟩⟩
theorem Fs.more {w : World} {B B' : Nat} {A : Option Addr} {n : Nat} {xs : List Nat} (h : Fs w B A n xs) (hB : B ≤ B') : Fs w B' A n xs :=
  ⟨h.1, h.2.1, fun hn => by
    obtain ⟨g, off, e, hg, hc⟩ := h.2.2 hn
    exact ⟨g, off, e, by omega, hc⟩⟩
theorem Fs.since {w w' : World} {B : Nat} {A : Option Addr} {n : Nat} {xs : List Nat} (h : Fs w B A n xs) (hs : w.Since B w') : Fs w' B A n xs :=
  h.keep fun g o hg => hs.cell (a := ⟨g, o, none⟩) hg
theorem Fs.drewN {w : World} {B : Nat} {A : Option Addr} {n : Nat} {xs : List Nat} (h : Fs w B A n xs) (k : Nat) : Fs (w.drewN k) B A n xs := h
theorem fs_drewN {w : World} {B : Nat} {A : Option Addr} {n : Nat} {xs : List Nat} (h : Fs w B A n xs) (k : Nat) : Fs (w.drewN k) B A n xs := h
theorem since_drewN {B : Nat} {a w : World} (h : a.Since B w) (n : Nat) : a.Since B (w.drewN n) := ⟨h.os, h.tape, h.output, h.size, h.block⟩
theorem rowIs_drewN {w : World} {b : Nat} {t : TypeId} {n : Nat} {f : Nat → Value} (h : w.rowIs b t n f) (k : Nat) : (w.drewN k).rowIs b t n f := h
theorem since_mono {B B' : Nat} {a w : World} (h : a.Since B w) (hB : B' ≤ B) : a.Since B' w := ⟨h.os, h.tape, h.output, h.size, fun k hk => h.block k (by omega)⟩
/-- what came in reads as it did, in whatever world has grown out of the first -/
theorem Fs.now {w w1 : World} {A : Option Addr} {n : Nat} {xs : List Nat} (h : Fs w w.heap.size A n xs) (s : w.Since w.heap.size w1) : Fs w1 w1.heap.size A n xs := (h.since s).more s.size
/-- one step more behind a start -/
theorem since_step {w w1 w2 : World} (h : w.Since w.heap.size w1) (k : w1.Since w1.heap.size w2) : w.Since w.heap.size w2 := h.trans (since_mono k h.size)
/-- a row of the call's own reads as a slice -/
theorem Fs.of_row {w : World} {g : Nat} {t : TypeId} {n : Nat} {xs : List Nat} {B : Nat} (h : w.rowIs g t n (fv xs)) (hl : xs.length = n) (hs : Small xs) (hg : g < B) : Fs w B (some ⟨g, 0, none⟩) n xs :=
  ⟨hl, hs, fun _ => ⟨g, 0, rfl, hg, fun k hk => by rw [Nat.zero_add]; exact h.cell hk⟩⟩

@[go_sem] theorem store_fl (P : Program) (w : World) (a : Addr) (m : Mode) (k : FloatKind) (b : Nat) : (store a (.float k b) m).run P w = stored P w a (.float k b) m := run_store P w a _ m rfl

/-- a call that returns a float standing for v, and has only drawn -/
def RetF (k : FloatKind) (v : Option Nat) (w : World) (e : Ending) (w' : World) : Prop := ∃ r m : Nat, e = .returned (.float k r) ∧ Fv k r v ∧ w' = w.drewN m
def RetFB (k : FloatKind) (v : Option Nat) (b : Bool) (w : World) (e : Ending) (w' : World) : Prop := ∃ r m : Nat, e = .returned (.tuple #[.float k r, .bool b]) ∧ Fv k r v ∧ w' = w.drewN m

/-! a conversion to 64 bits as an equation -/
def wv (x : Nat) (w : World) : Nat := if (ab .f32 x).isNone then (Question.nanConv .f64 x).cut (w.tape w.drawn (.nanConv .f64 x)) else FloatKind.f64.encode (FloatKind.f32.decode x)
def wn (x : Nat) : Nat := if (ab .f32 x).isNone then 1 else 0
theorem wv_fv (x : Nat) (w : World) : Fv .f64 (wv x w) (wide (ab .f32 x)) := by
  unfold wv
  cases h : ab .f32 x with
  | none => exact fv_nan64 _
  | some b =>
    obtain rfl := ab_some h
    have hd : (FloatKind.f32.decode b).isNaN = false := by
      have := read_nan (k := .f32) (b := b)
      rw [h] at this; exact this
    exact fv_write .f64 hd
theorem run_wide {P : Program} (src dst : TypeId) (x : Nat) (hs : (P.underlying src).isSome = true) (hd : P.underlying dst = some (.float .f64)) (w : World) :
    (convert src dst (.float .f32 x)).run P w = .ok (.float .f64 (wv x w)) (w.drewN (wn x)) := by
  obtain ⟨u, hs'⟩ := Option.isSome_iff_exists.1 hs
  have e : (convert src dst (.float .f32 x)).run P w = (Conv.floatToFloat .f32 x .f64).run P w := by
    cases u <;> simp [convert, run_underlying hs', run_underlying hd]
  rw [e]
  unfold Conv.floatToFloat wv wn
  rw [if_neg (by decide)]
  have hn := read_nan (k := .f32) (b := x)
  have hfit := fits_wide x
  cases hdec : FloatKind.f32.decode x with
  | nan g f =>
    have h2 : FloatKind.f32.format.read x = .nan g f := hdec
    rw [h2] at hn
    have hnone : ab .f32 x = none := by simpa [Datum.isNaN] using hn
    rw [hnone]; rfl
  | infinity g =>
    have h2 : FloatKind.f32.format.read x = .infinity g := hdec
    rw [h2] at hn
    have hsome : (ab .f32 x).isNone = false := by simpa [Datum.isNaN] using hn.symm
    rw [hsome]; rfl
  | number g m e =>
    have h2 : FloatKind.f32.format.read x = .number g m e := hdec
    rw [h2] at hn
    have hsome : (ab .f32 x).isNone = false := by simpa [Datum.isNaN] using hn.symm
    rcases hfit with h | h
    · cases h
    · rw [hdec] at h
      simp only [hsome]
      simp [h]; rfl

/-! the four operations as an equation -/
def ov (op : BinOp) (k : FloatKind) (x y : Nat) (w : World) : Nat := match floatBits op k x y with
  | some r => r
  | none => (Question.nanBits k x y).cut (w.tape w.drawn (.nanBits k x y))
def on (op : BinOp) (k : FloatKind) (x y : Nat) : Nat := if (floatBits op k x y).isNone then 1 else 0
theorem ov_fv {op : BinOp} (hf : isF op = true) (k : FloatKind) (x y : Nat) (w : World) : Fv k (ov op k x y w) (opO op k (ab k x) (ab k y)) := by
  rw [← floatBits_ab (isF_of hf)]
  unfold ov
  cases h : floatBits op k x y with
  | some r => exact fv_op (isF_of hf) h
  | none => cases k; exact fv_nan32 _; exact fv_nan64 _
theorem run_fopE {P : Program} {op : BinOp} (hf : isF op = true) (t : TypeId) (k : FloatKind) (x y : Nat) (w : World) :
    (binOp op t (.float k x) (.float k y)).run P w = .ok (.float k (ov op k x y w)) (w.drewN (on op k x y)) := by
  unfold ov on
  cases h : floatBits op k x y with
  | some r => exact run_float_arith w op t k x y r h
  | none =>
    have e : (binOp op t (.float k x) (.float k y)).run P w = ((choose (.nanBits k x y)).run P w).andThen fun r w' => .ok (.float k r) w' := by
      rcases isF_of hf with rfl | rfl | rfl | rfl <;> simp only [floatBits] at h <;> simp [binOp, Op.floatArith, h]
    rw [e]
    cases k <;> rfl
end Fl
end Go.Proofs.Ytflpackchlpedaa
