/- Small laws on filters, walked. -/
import Derived.Test.YtebocaicebolaaaGd
import Derived.Deep.DeepCutAuto
set_option linter.unusedVariables false
set_option linter.unusedSimpArgs false
namespace Go.Proofs.Ytebocaicebolaaa
open Fl Go.RowKit
theorem sinUD {w v : World} (h : w.drew.Since w.drew.heap.size v) : w.Since w.heap.size v := ⟨h.os, h.tape, h.output, h.size, h.block⟩
theorem fvOne : Hid (Fv .f32 1065353216 (some 1065353216)) := Lib.hid ⟨by decide, by rw [ab32]; rfl⟩
def FilPost (w : World) (F : Fil) (e : Ending) (w' : World) : Prop := ∃ b0 b1 b2 a1 a2 : Nat, e = .returned (.agg #[.float .f32 b0, .float .f32 b1, .float .f32 b2, .float .f32 a1, .float .f32 a2]) ∧ FvF ⟨b0, b1, b2, a1, a2⟩ F ∧ w.Since w.heap.size w'
def FloPost (w : World) (F : O) (e : Ending) (w' : World) : Prop := ∃ r : Nat, e = .returned (.float .f32 r) ∧ Hid (Fv .f32 r F) ∧ w.Since w.heap.size w'

set_option maxHeartbeats 4000000 in
set_option maxRecDepth 100000 in
theorem eqFilter_any (f g : FilN) (F : Fil) (w : World) (hf : FvF f F) (hg : FvF g F) :
    Calls Try.prog 76 #[f.val, g.val] w fun e w' => e = .returned (.bool true) ∧ w.Since w.heap.size w' := by
  obtain ⟨b0, b1, b2, a1, a2⟩ := f
  obtain ⟨c0, c1, c2, d1, d2⟩ := g
  obtain ⟨m0, m1, m2, m3, m4⟩ := hf
  obtain ⟨n0, n1, n2, n3, n4⟩ := hg
  simp only at m0 m1 m2 m3 m4 n0 n1 n2 n3 n4
  unfold FilN.val
  go_enter Try.func76, Try.ntmps76
  go_wp2_with (first | (with_reducible_and_instances refine Lo.wpList_wi _ rfl _ _ _ rfl _ _ rfl (by kernel_rfl) (by kernel_rfl) (by assumption) ?_; intro rr nn hrr) | (go_at_call 61; refine (sameFloat_any _ _ _ _ (by assumption : Hid _) (by assumption : Hid _)).mono ?_; rintro e w' ⟨rfl, n1, rfl⟩))
  go_ret
  exact ⟨rfl, by (repeat (first | (with_reducible refine Fl.sinDrew ?_) | (with_reducible refine World.Since.drew ?_) | (with_reducible refine Fl.sinSet ?_ ?_; rotate_left) | (with_reducible refine Fl.sinAlloc ?_ ?_; rotate_left) | with_reducible exact World.Since.refl _ _ | with_reducible assumption | (with_reducible refine Fl.sinStep (by with_reducible assumption) ?_))); all_goals (first | omega | (simp; done) | (simp; omega) | (simp [go_sem]; done) | (simp [go_sem]; omega))⟩


set_option maxRecDepth 100000 in
theorem implLevel_any (f : FilN) (F : Fil) (w : World) (hF : FvF f F) :
    Calls Try.prog 52 #[f.val] w (FloPost w (opO .quo .f32 (ad (ad F.b0 F.b1) F.b2) (ad (ad (some 1065353216) F.a1) F.a2))) := by
  obtain ⟨b0, b1, b2, a1, a2⟩ := f
  obtain ⟨f0, f1, f2, f3, f4⟩ := hF
  simp only at f0 f1 f2 f3 f4
  unfold FilN.val
  have h1 := fvOne
  go_enter Try.func52, Try.ntmps52
  go_wp2_with (with_reducible_and_instances refine Lo.wpList_fo _ rfl _ _ _ _ _ rfl _ _ _ _ _ rfl rfl rfl (by assumption) (by assumption) ?_; intro rr nn hrr)
  go_ret
  exact ⟨rr, rfl, hrr, by (repeat (first | (with_reducible refine Fl.sinDrew ?_) | (with_reducible refine World.Since.drew ?_) | (with_reducible refine Fl.sinSet ?_ ?_; rotate_left) | (with_reducible refine Fl.sinAlloc ?_ ?_; rotate_left) | with_reducible exact World.Since.refl _ _ | with_reducible assumption | (with_reducible refine Fl.sinStep (by with_reducible assumption) ?_))); all_goals (first | omega | (simp; done) | (simp; omega) | (simp [go_sem]; done) | (simp [go_sem]; omega))⟩
set_option maxRecDepth 100000 in
theorem implSmooth_any (x : Nat) (X : O) (w : World) (hx : Hid (Fv .f32 x X)) :
    Calls Try.prog 57 #[.float .f32 x] w (FilPost w ⟨X, some 0, some 0, su X (some 1065353216), some 0⟩) := by
  have h1 := fvOne
  go_enter Try.func57, Try.ntmps57
  go_wp2_with (with_reducible_and_instances refine Lo.wpList_fo _ rfl _ _ _ _ _ rfl _ _ _ _ _ rfl rfl rfl (by assumption) (by assumption) ?_; intro rr nn hrr)
  exact bodyPost_ret (v := .agg #[.float .f32 x, .float .f32 0, .float .f32 0, .float .f32 rr, .float .f32 0]) (by simp [results, Try.results57, go_sem]) rfl ⟨x, 0, 0, rr, 0, rfl, ⟨hx, fvZ, fvZ, hrr, fvZ⟩, by (repeat (first | (with_reducible refine Fl.sinDrew ?_) | (with_reducible refine World.Since.drew ?_) | (with_reducible refine Fl.sinSet ?_ ?_; rotate_left) | (with_reducible refine Fl.sinAlloc ?_ ?_; rotate_left) | with_reducible exact World.Since.refl _ _ | with_reducible assumption | (with_reducible refine Fl.sinStep (by with_reducible assumption) ?_))); all_goals (first | omega | (simp; done) | (simp; omega) | (simp [go_sem]; done) | (simp [go_sem]; omega))⟩
set_option maxRecDepth 100000 in
theorem implScale_any (f : FilN) (F : Fil) (x : Nat) (X : O) (w : World) (hF : FvF f F) (hx : Hid (Fv .f32 x X)) :
    Calls Try.prog 55 #[f.val, .float .f32 x] w (FilPost w ⟨mu F.b0 X, mu F.b1 X, mu F.b2 X, F.a1, F.a2⟩) := by
  obtain ⟨b0, b1, b2, a1, a2⟩ := f
  obtain ⟨f0, f1, f2, f3, f4⟩ := hF
  simp only at f0 f1 f2 f3 f4
  unfold FilN.val
  go_enter Try.func55, Try.ntmps55
  go_wp2_with (with_reducible_and_instances refine Lo.wpList_fo _ rfl _ _ _ _ _ rfl _ _ _ _ _ rfl rfl rfl (by assumption) (by assumption) ?_; intro rr nn hrr)
  rename_i r0 _ h0 r1 _ h1
  exact bodyPost_ret (v := .agg #[.float .f32 r0, .float .f32 r1, .float .f32 rr, .float .f32 a1, .float .f32 a2]) (by simp [results, Try.results55, go_sem]) rfl ⟨r0, r1, rr, a1, a2, rfl, ⟨h0, h1, hrr, f3, f4⟩, by (repeat (first | (with_reducible refine Fl.sinDrew ?_) | (with_reducible refine World.Since.drew ?_) | (with_reducible refine Fl.sinSet ?_ ?_; rotate_left) | (with_reducible refine Fl.sinAlloc ?_ ?_; rotate_left) | with_reducible exact World.Since.refl _ _ | with_reducible assumption | (with_reducible refine Fl.sinStep (by with_reducible assumption) ?_))); all_goals (first | omega | (simp; done) | (simp; omega) | (simp [go_sem]; done) | (simp [go_sem]; omega))⟩


def ofF (f : FilN) : Fil := ⟨ab .f32 f.b0, ab .f32 f.b1, ab .f32 f.b2, ab .f32 f.a1, ab .f32 f.a2⟩
def ofM (m : MemN) : Mem := ⟨ab .f32 m.a, ab .f32 m.b, ab .f32 m.c, ab .f32 m.d⟩
end Go.Proofs.Ytebocaicebolaaa
