/- Small laws on filters, walked. -/
import Derived.Test.YtleioidlihpjgaaGd
import Derived.Deep.DeepCutAuto
set_option linter.unusedVariables false
set_option linter.unusedSimpArgs false
namespace Go.Proofs.Ytleioidlihpjgaa
open Fl Go.RowKit
theorem sinUD {w v : World} (h : w.drew.Since w.drew.heap.size v) : w.Since w.heap.size v := ⟨h.os, h.tape, h.output, h.size, h.block⟩
theorem fvOne : Hid (Fv .f32 1065353216 (some 1065353216)) := Lib.hid ⟨by decide, by rw [ab32]; rfl⟩
def FilPost (w : World) (F : Fil) (e : Ending) (w' : World) : Prop := ∃ b0 b1 b2 a1 a2 : Nat, e = .returned (.agg #[.float .f32 b0, .float .f32 b1, .float .f32 b2, .float .f32 a1, .float .f32 a2]) ∧ FvF ⟨b0, b1, b2, a1, a2⟩ F ∧ w.Since w.heap.size w'
def FloPost (w : World) (F : O) (e : Ending) (w' : World) : Prop := ∃ r : Nat, e = .returned (.float .f32 r) ∧ Hid (Fv .f32 r F) ∧ w.Since w.heap.size w'

set_option maxHeartbeats 4000000 in
set_option maxRecDepth 100000 in
theorem eqFilter_any (f g : FilN) (F : Fil) (w : World) (hf : FvF f F) (hg : FvF g F) :
    Calls Try.prog 46 #[f.val, g.val] w fun e w' => e = .returned (.bool true) ∧ w.Since w.heap.size w' := by
  obtain ⟨b0, b1, b2, a1, a2⟩ := f
  obtain ⟨c0, c1, c2, d1, d2⟩ := g
  obtain ⟨m0, m1, m2, m3, m4⟩ := hf
  obtain ⟨n0, n1, n2, n3, n4⟩ := hg
  simp only at m0 m1 m2 m3 m4 n0 n1 n2 n3 n4
  unfold FilN.val
  go_enter Try.func46, Try.ntmps46
  go_wp2_with (first | (with_reducible_and_instances refine Lo.wpList_wi _ rfl _ _ _ rfl _ _ rfl (by kernel_rfl) (by kernel_rfl) (by assumption) ?_; intro rr nn hrr) | (go_at_call 19; refine (sameFloat_any _ _ _ _ (by assumption : Hid _) (by assumption : Hid _)).mono ?_; rintro e w' ⟨rfl, n1, rfl⟩))
  go_ret
  exact ⟨rfl, by (repeat (first | (with_reducible refine Fl.sinDrew ?_) | (with_reducible refine World.Since.drew ?_) | (with_reducible refine Fl.sinSet ?_ ?_; rotate_left) | (with_reducible refine Fl.sinAlloc ?_ ?_; rotate_left) | with_reducible exact World.Since.refl _ _ | with_reducible assumption | (with_reducible refine Fl.sinStep (by with_reducible assumption) ?_))); all_goals (first | omega | (simp; done) | (simp; omega) | (simp [go_sem]; done) | (simp [go_sem]; omega))⟩


set_option maxRecDepth 100000 in
theorem specLevel_any (f : FilN) (F : Fil) (w : World) (hF : FvF f F) :
    Calls Try.prog 42 #[f.val] w (FloPost w (opO .quo .f32 (ad (ad F.b0 F.b1) F.b2) (ad (ad (some 1065353216) F.a1) F.a2))) := by
  obtain ⟨b0, b1, b2, a1, a2⟩ := f
  obtain ⟨f0, f1, f2, f3, f4⟩ := hF
  simp only at f0 f1 f2 f3 f4
  unfold FilN.val
  have h1 := fvOne
  go_enter Try.func42, Try.ntmps42
  go_wp2_with (with_reducible_and_instances refine Lo.wpList_fo _ rfl _ _ _ _ _ rfl _ _ _ _ _ rfl rfl rfl (by assumption) (by assumption) ?_; intro rr nn hrr)
  go_ret
  exact ⟨rr, rfl, hrr, by (repeat (first | (with_reducible refine Fl.sinDrew ?_) | (with_reducible refine World.Since.drew ?_) | (with_reducible refine Fl.sinSet ?_ ?_; rotate_left) | (with_reducible refine Fl.sinAlloc ?_ ?_; rotate_left) | with_reducible exact World.Since.refl _ _ | with_reducible assumption | (with_reducible refine Fl.sinStep (by with_reducible assumption) ?_))); all_goals (first | omega | (simp; done) | (simp; omega) | (simp [go_sem]; done) | (simp [go_sem]; omega))⟩
set_option maxRecDepth 100000 in
theorem specSmooth_any (x : Nat) (X : O) (w : World) (hx : Hid (Fv .f32 x X)) :
    Calls Try.prog 44 #[.float .f32 x] w (FilPost w ⟨X, some 0, some 0, su X (some 1065353216), some 0⟩) := by
  have h1 := fvOne
  go_enter Try.func44, Try.ntmps44
  go_wp2_with (with_reducible_and_instances refine Lo.wpList_fo _ rfl _ _ _ _ _ rfl _ _ _ _ _ rfl rfl rfl (by assumption) (by assumption) ?_; intro rr nn hrr)
  exact bodyPost_ret (v := .agg #[.float .f32 x, .float .f32 0, .float .f32 0, .float .f32 rr, .float .f32 0]) (by simp [results, Try.results44, go_sem]) rfl ⟨x, 0, 0, rr, 0, rfl, ⟨hx, fvZ, fvZ, hrr, fvZ⟩, by (repeat (first | (with_reducible refine Fl.sinDrew ?_) | (with_reducible refine World.Since.drew ?_) | (with_reducible refine Fl.sinSet ?_ ?_; rotate_left) | (with_reducible refine Fl.sinAlloc ?_ ?_; rotate_left) | with_reducible exact World.Since.refl _ _ | with_reducible assumption | (with_reducible refine Fl.sinStep (by with_reducible assumption) ?_))); all_goals (first | omega | (simp; done) | (simp; omega) | (simp [go_sem]; done) | (simp [go_sem]; omega))⟩
set_option maxRecDepth 100000 in
theorem specScale_any (f : FilN) (F : Fil) (x : Nat) (X : O) (w : World) (hF : FvF f F) (hx : Hid (Fv .f32 x X)) :
    Calls Try.prog 47 #[f.val, .float .f32 x] w (FilPost w ⟨mu F.b0 X, mu F.b1 X, mu F.b2 X, F.a1, F.a2⟩) := by
  obtain ⟨b0, b1, b2, a1, a2⟩ := f
  obtain ⟨f0, f1, f2, f3, f4⟩ := hF
  simp only at f0 f1 f2 f3 f4
  unfold FilN.val
  go_enter Try.func47, Try.ntmps47
  go_wp2_with (with_reducible_and_instances refine Lo.wpList_fo _ rfl _ _ _ _ _ rfl _ _ _ _ _ rfl rfl rfl (by assumption) (by assumption) ?_; intro rr nn hrr)
  rename_i r0 _ h0 r1 _ h1
  exact bodyPost_ret (v := .agg #[.float .f32 r0, .float .f32 r1, .float .f32 rr, .float .f32 a1, .float .f32 a2]) (by simp [results, Try.results47, go_sem]) rfl ⟨r0, r1, rr, a1, a2, rfl, ⟨h0, h1, hrr, f3, f4⟩, by (repeat (first | (with_reducible refine Fl.sinDrew ?_) | (with_reducible refine World.Since.drew ?_) | (with_reducible refine Fl.sinSet ?_ ?_; rotate_left) | (with_reducible refine Fl.sinAlloc ?_ ?_; rotate_left) | with_reducible exact World.Since.refl _ _ | with_reducible assumption | (with_reducible refine Fl.sinStep (by with_reducible assumption) ?_))); all_goals (first | omega | (simp; done) | (simp; omega) | (simp [go_sem]; done) | (simp [go_sem]; omega))⟩


set_option maxRecDepth 100000 in
theorem implLevel_any (f : FilN) (F : Fil) (w : World) (hF : FvF f F) :
    Calls Try.prog 43 #[f.val] w (FloPost w (opO .quo .f32 (ad (ad F.b0 F.b1) F.b2) (ad (ad (some 1065353216) F.a1) F.a2))) := by
  obtain ⟨b0, b1, b2, a1, a2⟩ := f
  obtain ⟨f0, f1, f2, f3, f4⟩ := hF
  simp only at f0 f1 f2 f3 f4
  unfold FilN.val
  have h1 := fvOne
  go_enter Try.func43, Try.ntmps43
  go_wp2_with (with_reducible_and_instances refine Lo.wpList_fo _ rfl _ _ _ _ _ rfl _ _ _ _ _ rfl rfl rfl (by assumption) (by assumption) ?_; intro rr nn hrr)
  go_ret
  exact ⟨rr, rfl, hrr, by (repeat (first | (with_reducible refine Fl.sinDrew ?_) | (with_reducible refine World.Since.drew ?_) | (with_reducible refine Fl.sinSet ?_ ?_; rotate_left) | (with_reducible refine Fl.sinAlloc ?_ ?_; rotate_left) | with_reducible exact World.Since.refl _ _ | with_reducible assumption | (with_reducible refine Fl.sinStep (by with_reducible assumption) ?_))); all_goals (first | omega | (simp; done) | (simp; omega) | (simp [go_sem]; done) | (simp [go_sem]; omega))⟩
set_option maxRecDepth 100000 in
theorem implSmooth_any (x : Nat) (X : O) (w : World) (hx : Hid (Fv .f32 x X)) :
    Calls Try.prog 45 #[.float .f32 x] w (FilPost w ⟨X, some 0, some 0, su X (some 1065353216), some 0⟩) := by
  have h1 := fvOne
  go_enter Try.func45, Try.ntmps45
  go_wp2_with (with_reducible_and_instances refine Lo.wpList_fo _ rfl _ _ _ _ _ rfl _ _ _ _ _ rfl rfl rfl (by assumption) (by assumption) ?_; intro rr nn hrr)
  exact bodyPost_ret (v := .agg #[.float .f32 x, .float .f32 0, .float .f32 0, .float .f32 rr, .float .f32 0]) (by simp [results, Try.results45, go_sem]) rfl ⟨x, 0, 0, rr, 0, rfl, ⟨hx, fvZ, fvZ, hrr, fvZ⟩, by (repeat (first | (with_reducible refine Fl.sinDrew ?_) | (with_reducible refine World.Since.drew ?_) | (with_reducible refine Fl.sinSet ?_ ?_; rotate_left) | (with_reducible refine Fl.sinAlloc ?_ ?_; rotate_left) | with_reducible exact World.Since.refl _ _ | with_reducible assumption | (with_reducible refine Fl.sinStep (by with_reducible assumption) ?_))); all_goals (first | omega | (simp; done) | (simp; omega) | (simp [go_sem]; done) | (simp [go_sem]; omega))⟩
set_option maxRecDepth 100000 in
theorem implScale_any (f : FilN) (F : Fil) (x : Nat) (X : O) (w : World) (hF : FvF f F) (hx : Hid (Fv .f32 x X)) :
    Calls Try.prog 48 #[f.val, .float .f32 x] w (FilPost w ⟨mu F.b0 X, mu F.b1 X, mu F.b2 X, F.a1, F.a2⟩) := by
  obtain ⟨b0, b1, b2, a1, a2⟩ := f
  obtain ⟨f0, f1, f2, f3, f4⟩ := hF
  simp only at f0 f1 f2 f3 f4
  unfold FilN.val
  go_enter Try.func48, Try.ntmps48
  go_wp2_with (with_reducible_and_instances refine Lo.wpList_fo _ rfl _ _ _ _ _ rfl _ _ _ _ _ rfl rfl rfl (by assumption) (by assumption) ?_; intro rr nn hrr)
  rename_i r0 _ h0 r1 _ h1
  exact bodyPost_ret (v := .agg #[.float .f32 r0, .float .f32 r1, .float .f32 rr, .float .f32 a1, .float .f32 a2]) (by simp [results, Try.results48, go_sem]) rfl ⟨r0, r1, rr, a1, a2, rfl, ⟨h0, h1, hrr, f3, f4⟩, by (repeat (first | (with_reducible refine Fl.sinDrew ?_) | (with_reducible refine World.Since.drew ?_) | (with_reducible refine Fl.sinSet ?_ ?_; rotate_left) | (with_reducible refine Fl.sinAlloc ?_ ?_; rotate_left) | with_reducible exact World.Since.refl _ _ | with_reducible assumption | (with_reducible refine Fl.sinStep (by with_reducible assumption) ?_))); all_goals (first | omega | (simp; done) | (simp; omega) | (simp [go_sem]; done) | (simp [go_sem]; omega))⟩


set_option maxHeartbeats 4000000 in
set_option maxRecDepth 100000 in
theorem lawLevel (f : FilN) (F : Fil) (w : World) (hF : FvF f F) :
    Calls Try.prog 8 #[f.val] w fun e w' => e = .returned (.bool true) ∧ w.Since w.heap.size w' := by
  have htf := toFilter_any f
  have h1 := fun w => specLevel_any f F w hF
  have h2 := fun w => implLevel_any f F w hF
  obtain ⟨b0, b1, b2, a1, a2⟩ := f
  unfold FilN.val at *
  have HTF := Lib.hid htf; clear htf
  have H1 := Lib.hid h1; clear h1
  have H2 := Lib.hid h2; clear h2
  have HFF := Lib.hid hF; clear hF
  go_enter Try.func8, Try.ntmps8
  go_upto_region 2 with (first | (go_at_call 16; refine (HTF.out _).mono ?_; rintro e w1 ⟨rfl, hs⟩; (try replace hs := sinUD hs); (try have y10 : w.heap.size < w1.heap.size := (by have hsz := hs.size; (try simp only [World.drew, World.drewN, Go.Deep.nblk_alloc, Go.Deep.nblk_setCell] at hsz); omega)); (try have v1 : w.heap.size ≤ w1.heap.size := (by have hsz := hs.size; (try simp only [World.drew, World.drewN, Go.Deep.nblk_alloc, Go.Deep.nblk_setCell] at hsz); omega)); obtain ⟨hc1, hf1⟩ := Fl.sinCell hs; have S1 := Lib.hid hs; clear hs) | (go_at_call 42; refine (H1.out _).mono ?_; rintro e w2 ⟨r1, rfl, hr1, hs⟩; (try replace hs := sinUD hs); (try have y20 : w.heap.size < w2.heap.size := (by have hsz := hs.size; (try simp only [World.drew, World.drewN, Go.Deep.nblk_alloc, Go.Deep.nblk_setCell] at hsz); omega)); (try have v2 : w.heap.size ≤ w2.heap.size := (by have hsz := hs.size; (try simp only [World.drew, World.drewN, Go.Deep.nblk_alloc, Go.Deep.nblk_setCell] at hsz); omega)); obtain ⟨hc2, hf2⟩ := Fl.sinCell hs; have S2 := Lib.hid hs; clear hs))
  go_wp2_with (first | (with_reducible_and_instances refine Lo.wpList_wi _ rfl _ _ _ rfl _ _ rfl (by kernel_rfl) (by kernel_rfl) (by assumption) ?_; intro rr nn hrr) | (go_at_call 16; refine (HTF.out _).mono ?_; rintro e w3 ⟨rfl, hs⟩; (try replace hs := sinUD hs); (try have y30 : w.heap.size < w3.heap.size := (by have hsz := hs.size; (try simp only [World.drew, World.drewN, Go.Deep.nblk_alloc, Go.Deep.nblk_setCell] at hsz); omega)); (try have v3 : w.heap.size ≤ w3.heap.size := (by have hsz := hs.size; (try simp only [World.drew, World.drewN, Go.Deep.nblk_alloc, Go.Deep.nblk_setCell] at hsz); omega)); obtain ⟨hc3, hf3⟩ := Fl.sinCell hs; have S3 := Lib.hid hs; clear hs) | (go_at_call 43; refine (H2.out _).mono ?_; rintro e w4 ⟨r2, rfl, hr2, hs⟩; (try replace hs := sinUD hs); (try have y40 : w.heap.size < w4.heap.size := (by have hsz := hs.size; (try simp only [World.drew, World.drewN, Go.Deep.nblk_alloc, Go.Deep.nblk_setCell] at hsz); omega)); (try have v4 : w.heap.size ≤ w4.heap.size := (by have hsz := hs.size; (try simp only [World.drew, World.drewN, Go.Deep.nblk_alloc, Go.Deep.nblk_setCell] at hsz); omega)); obtain ⟨hc4, hf4⟩ := Fl.sinCell hs; have S4 := Lib.hid hs; clear hs) | (go_at_call 19; refine (sameFloat_any _ _ _ _ (by assumption : Hid _) (by assumption : Hid _)).mono ?_; rintro e w' ⟨rfl, n1, rfl⟩))
  go_ret
  exact ⟨rfl, by (repeat (first | (with_reducible refine Fl.sinDrew ?_) | (with_reducible refine World.Since.drew ?_) | (with_reducible refine Fl.sinSet ?_ ?_; rotate_left) | (with_reducible refine Fl.sinAlloc ?_ ?_; rotate_left) | with_reducible exact World.Since.refl _ _ | with_reducible assumption | (with_reducible refine Fl.sinStep (by with_reducible assumption) ?_))); all_goals (first | omega | (simp; done) | (simp; omega) | (simp [go_sem]; done) | (simp [go_sem]; omega))⟩


set_option maxHeartbeats 4000000 in
set_option maxRecDepth 100000 in
theorem lawSmooth (x : Nat) (X : O) (w : World) (hx : Hid (Fv .f32 x X)) :
    Calls Try.prog 9 #[.float .f32 x] w fun e w' => e = .returned (.bool true) ∧ w.Since w.heap.size w' := by
  have H1 := Lib.hid fun w => specSmooth_any x X w hx
  have H2 := Lib.hid fun w => implSmooth_any x X w hx
  go_enter Try.func9, Try.ntmps9
  go_wp2_with (first | (go_at_call 44; refine (H1.out _).mono ?_; rintro e w1 ⟨b0, b1, b2, a1, a2, rfl, hb, hs⟩; (try replace hs := sinUD hs); (try have y10 : w.heap.size < w1.heap.size := (by have hsz := hs.size; (try simp only [World.drew, World.drewN, Go.Deep.nblk_alloc, Go.Deep.nblk_setCell] at hsz); omega)); (try have v1 : w.heap.size ≤ w1.heap.size := (by have hsz := hs.size; (try simp only [World.drew, World.drewN, Go.Deep.nblk_alloc, Go.Deep.nblk_setCell] at hsz); omega)); obtain ⟨hc1, hf1⟩ := Fl.sinCell hs; have S1 := Lib.hid hs; clear hs; have HB := Lib.hid hb; clear hb) | (go_at_call 45; refine (H2.out _).mono ?_; rintro e w2 ⟨c0, c1, c2, d1, d2, rfl, hb, hs⟩; (try replace hs := sinUD hs); (try have y20 : w1.heap.size < w2.heap.size := (by have hsz := hs.size; (try simp only [World.drew, World.drewN, Go.Deep.nblk_alloc, Go.Deep.nblk_setCell] at hsz); omega)); (try have v2 : w.heap.size ≤ w2.heap.size := (by have hsz := hs.size; (try simp only [World.drew, World.drewN, Go.Deep.nblk_alloc, Go.Deep.nblk_setCell] at hsz); omega)); obtain ⟨hc2, hf2⟩ := Fl.sinCell hs; have S2 := Lib.hid hs; clear hs; have HB2 := Lib.hid hb; clear hb) | (go_at_call 46; refine (eqFilter_any ⟨c0, c1, c2, d1, d2⟩ ⟨b0, b1, b2, a1, a2⟩ _ _ HB2.out HB.out).mono ?_; rintro e w3 ⟨rfl, hs⟩; (try replace hs := sinUD hs); (try have y30 : w1.heap.size < w3.heap.size := (by have hsz := hs.size; (try simp only [World.drew, World.drewN, Go.Deep.nblk_alloc, Go.Deep.nblk_setCell] at hsz); omega)); (try have y31 : w2.heap.size < w3.heap.size := (by have hsz := hs.size; (try simp only [World.drew, World.drewN, Go.Deep.nblk_alloc, Go.Deep.nblk_setCell] at hsz); omega)); (try have v3 : w.heap.size ≤ w3.heap.size := (by have hsz := hs.size; (try simp only [World.drew, World.drewN, Go.Deep.nblk_alloc, Go.Deep.nblk_setCell] at hsz); omega)); obtain ⟨hc3, hf3⟩ := Fl.sinCell hs; have S3 := Lib.hid hs; clear hs))
  go_ret
  exact ⟨rfl, by (repeat (first | (with_reducible refine Fl.sinDrew ?_) | (with_reducible refine World.Since.drew ?_) | (with_reducible refine Fl.sinSet ?_ ?_; rotate_left) | (with_reducible refine Fl.sinAlloc ?_ ?_; rotate_left) | with_reducible exact World.Since.refl _ _ | with_reducible assumption | (with_reducible refine Fl.sinStep (by with_reducible assumption) ?_))); all_goals (first | omega | (simp; done) | (simp; omega) | (simp [go_sem]; done) | (simp [go_sem]; omega))⟩


set_option maxHeartbeats 4000000 in
set_option maxRecDepth 100000 in
theorem lawScale (f : FilN) (F : Fil) (x : Nat) (X : O) (w : World) (hF : FvF f F) (hx : Hid (Fv .f32 x X)) :
    Calls Try.prog 10 #[f.val, .float .f32 x] w fun e w' => e = .returned (.bool true) ∧ w.Since w.heap.size w' := by
  have htf := toFilter_any f
  have h1 := fun w => specScale_any f F x X w hF hx
  have h2 := fun w => implScale_any f F x X w hF hx
  obtain ⟨b0, b1, b2, a1, a2⟩ := f
  unfold FilN.val at *
  have HTF := Lib.hid htf; clear htf
  have H1 := Lib.hid h1; clear h1
  have H2 := Lib.hid h2; clear h2
  have HFF := Lib.hid hF; clear hF
  go_enter Try.func10, Try.ntmps10
  go_upto_region 2 with (first | (go_at_call 16; refine (HTF.out _).mono ?_; rintro e w1 ⟨rfl, hs⟩; (try replace hs := sinUD hs); (try have y10 : w.heap.size < w1.heap.size := (by have hsz := hs.size; (try simp only [World.drew, World.drewN, Go.Deep.nblk_alloc, Go.Deep.nblk_setCell] at hsz); omega)); (try have v1 : w.heap.size ≤ w1.heap.size := (by have hsz := hs.size; (try simp only [World.drew, World.drewN, Go.Deep.nblk_alloc, Go.Deep.nblk_setCell] at hsz); omega)); obtain ⟨hc1, hf1⟩ := Fl.sinCell hs; have S1 := Lib.hid hs; clear hs) | (go_at_call 47; refine (H1.out _).mono ?_; rintro e w2 ⟨p0, p1, p2, q1, q2, rfl, hb, hs⟩; (try replace hs := sinUD hs); (try have y20 : w.heap.size < w2.heap.size := (by have hsz := hs.size; (try simp only [World.drew, World.drewN, Go.Deep.nblk_alloc, Go.Deep.nblk_setCell] at hsz); omega)); (try have v2 : w.heap.size ≤ w2.heap.size := (by have hsz := hs.size; (try simp only [World.drew, World.drewN, Go.Deep.nblk_alloc, Go.Deep.nblk_setCell] at hsz); omega)); obtain ⟨hc2, hf2⟩ := Fl.sinCell hs; have S2 := Lib.hid hs; clear hs; have HB := Lib.hid hb; clear hb))
  go_wp2_with (first | (go_at_call 16; refine (HTF.out _).mono ?_; rintro e w3 ⟨rfl, hs⟩; (try replace hs := sinUD hs); (try have y30 : w.heap.size < w3.heap.size := (by have hsz := hs.size; (try simp only [World.drew, World.drewN, Go.Deep.nblk_alloc, Go.Deep.nblk_setCell] at hsz); omega)); (try have y31 : w2.heap.size < w3.heap.size := (by have hsz := hs.size; (try simp only [World.drew, World.drewN, Go.Deep.nblk_alloc, Go.Deep.nblk_setCell] at hsz); omega)); (try have v3 : w.heap.size ≤ w3.heap.size := (by have hsz := hs.size; (try simp only [World.drew, World.drewN, Go.Deep.nblk_alloc, Go.Deep.nblk_setCell] at hsz); omega)); obtain ⟨hc3, hf3⟩ := Fl.sinCell hs; have S3 := Lib.hid hs; clear hs) | (go_at_call 48; refine (H2.out _).mono ?_; rintro e w4 ⟨c0, c1, c2, d1, d2, rfl, hb, hs⟩; (try replace hs := sinUD hs); (try have y40 : w.heap.size < w4.heap.size := (by have hsz := hs.size; (try simp only [World.drew, World.drewN, Go.Deep.nblk_alloc, Go.Deep.nblk_setCell] at hsz); omega)); (try have y41 : w2.heap.size < w4.heap.size := (by have hsz := hs.size; (try simp only [World.drew, World.drewN, Go.Deep.nblk_alloc, Go.Deep.nblk_setCell] at hsz); omega)); (try have v4 : w.heap.size ≤ w4.heap.size := (by have hsz := hs.size; (try simp only [World.drew, World.drewN, Go.Deep.nblk_alloc, Go.Deep.nblk_setCell] at hsz); omega)); obtain ⟨hc4, hf4⟩ := Fl.sinCell hs; have S4 := Lib.hid hs; clear hs; have HB2 := Lib.hid hb; clear hb) | (go_at_call 46; refine (eqFilter_any ⟨c0, c1, c2, d1, d2⟩ ⟨p0, p1, p2, q1, q2⟩ _ _ HB2.out HB.out).mono ?_; rintro e w5 ⟨rfl, hs⟩; (try replace hs := sinUD hs); (try have y50 : w.heap.size < w5.heap.size := (by have hsz := hs.size; (try simp only [World.drew, World.drewN, Go.Deep.nblk_alloc, Go.Deep.nblk_setCell] at hsz); omega)); (try have y51 : w2.heap.size < w5.heap.size := (by have hsz := hs.size; (try simp only [World.drew, World.drewN, Go.Deep.nblk_alloc, Go.Deep.nblk_setCell] at hsz); omega)); (try have y52 : w4.heap.size < w5.heap.size := (by have hsz := hs.size; (try simp only [World.drew, World.drewN, Go.Deep.nblk_alloc, Go.Deep.nblk_setCell] at hsz); omega)); (try have v5 : w.heap.size ≤ w5.heap.size := (by have hsz := hs.size; (try simp only [World.drew, World.drewN, Go.Deep.nblk_alloc, Go.Deep.nblk_setCell] at hsz); omega)); obtain ⟨hc5, hf5⟩ := Fl.sinCell hs; have S5 := Lib.hid hs; clear hs))
  go_ret
  exact ⟨rfl, by (repeat (first | (with_reducible refine Fl.sinDrew ?_) | (with_reducible refine World.Since.drew ?_) | (with_reducible refine Fl.sinSet ?_ ?_; rotate_left) | (with_reducible refine Fl.sinAlloc ?_ ?_; rotate_left) | with_reducible exact World.Since.refl _ _ | with_reducible assumption | (with_reducible refine Fl.sinStep (by with_reducible assumption) ?_))); all_goals (first | omega | (simp; done) | (simp; omega) | (simp [go_sem]; done) | (simp [go_sem]; omega))⟩


def ofF (f : FilN) : Fil := ⟨ab .f32 f.b0, ab .f32 f.b1, ab .f32 f.b2, ab .f32 f.a1, ab .f32 f.a2⟩
def ofM (m : MemN) : Mem := ⟨ab .f32 m.a, ab .f32 m.b, ab .f32 m.c, ab .f32 m.d⟩
theorem wLevel (f : FilN) (w : World) (hF : FvF f (ofF f)) : Calls Try.prog 8 #[f.val] w fun e w' => e = .returned (.bool true) ∧ w.Since w.heap.size w' := lawLevel f _ w hF
theorem wSmooth (x : Nat) (w : World) (hx : Fv .f32 x (ab .f32 x)) : Calls Try.prog 9 #[.float .f32 x] w fun e w' => e = .returned (.bool true) ∧ w.Since w.heap.size w' := lawSmooth x _ w hx
theorem wScale (f : FilN) (x : Nat) (w : World) (hF : FvF f (ofF f)) (hx : Fv .f32 x (ab .f32 x)) : Calls Try.prog 10 #[f.val, .float .f32 x] w fun e w' => e = .returned (.bool true) ∧ w.Since w.heap.size w' := lawScale f _ x _ w hF hx
end Go.Proofs.Ytleioidlihpjgaa
