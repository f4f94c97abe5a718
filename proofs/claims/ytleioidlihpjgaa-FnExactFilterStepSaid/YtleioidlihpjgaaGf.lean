/- The law on a filter's step, walked. -/
import Derived.Test.YtleioidlihpjgaaGe
import Derived.Test.YtleioidlihpjgaaFq
import Derived.Deep.DeepCutAuto
set_option linter.unusedVariables false
set_option linter.unusedSimpArgs false
namespace Go.Proofs.Ytleioidlihpjgaa
open Fl Go.RowKit
def ofF (f : FilN) : Fil := ⟨ab .f32 f.b0, ab .f32 f.b1, ab .f32 f.b2, ab .f32 f.a1, ab .f32 f.a2⟩
def ofM (m : MemN) : Mem := ⟨ab .f32 m.a, ab .f32 m.b, ab .f32 m.c, ab .f32 m.d⟩
/-- what the law holds of one of the two -/
def FSR (W : World) (ok : Bool) (Y : O) (M : Mem) (s t u : Value) (v : World) : Prop :=
  ∃ (y g a b c d : Nat), s = .float .f32 y ∧ t = .pointer (some ⟨g, 0, none⟩) ∧ u = .bool ok ∧ Hid (Fv .f32 y Y) ∧ FvM ⟨a, b, c, d⟩ M ∧ g < v.heap.size ∧
    v.cell? ⟨g, 0, none⟩ = some (.float .f32 a) ∧ v.cell? ⟨g, 1, none⟩ = some (.float .f32 b) ∧ v.cell? ⟨g, 2, none⟩ = some (.float .f32 c) ∧ v.cell? ⟨g, 3, none⟩ = some (.float .f32 d) ∧ W.Since W.heap.size v

set_option maxHeartbeats 16000000 in
set_option maxRecDepth 100000 in
/-- the law, from what both say of one step -/
theorem lawFS_gen (f : FilN) (n : Int) (fu : Bool) (m : MemN) (x : Nat) (ok : Bool) (Y : O) (M : Mem) (w : World)
    (hsp : ∀ w, Calls Try.prog 15 #[f.val, .int .i64 n, .bool fu, m.val, .float .f32 x] w (FSPost w ok Y M))
    (him : ∀ w, Calls Try.prog 18 #[f.val, .int .i64 n, .bool fu, m.val, .float .f32 x] w (FSPost w ok Y M)) :
    Calls Try.prog 3 #[f.val, .int .i64 n, .bool fu, m.val, .float .f32 x] w fun e w' => e = .returned (.bool true) ∧ w.Since w.heap.size w' := by
  have htf := toFilter_any f
  have htm := toMemory_any m
  obtain ⟨b0, b1, b2, a1, a2⟩ := f
  obtain ⟨ma, mb, mc, md⟩ := m
  unfold MemN.val at *
  unfold FilN.val at *
  have HSP := Lib.hid hsp; clear hsp
  have HIM := Lib.hid him; clear him
  have HTF := Lib.hid htf; clear htf
  have HTM := Lib.hid htm; clear htm
  go_enter Try.func3, Try.ntmps3
  go_upto_region 1 with fail
  obtain ⟨W, hW⟩ : ∃ W, W = (w.alloc (.cells #[.float .f32 b0, .float .f32 b1, .float .f32 b2, .float .f32 a1, .float .f32 a2] 24)).alloc (.cells #[.float .f32 ma, .float .f32 mb, .float .f32 mc, .float .f32 md] 26) := ⟨_, rfl⟩
  rw [← hW]
  have cf0 : W.cell? ⟨w.heap.size, 0, none⟩ = some (.float .f32 b0) := by rw [hW]; simp [go_sem]
  have cf1 : W.cell? ⟨w.heap.size, 1, none⟩ = some (.float .f32 b1) := by rw [hW]; simp [go_sem]
  have cf2 : W.cell? ⟨w.heap.size, 2, none⟩ = some (.float .f32 b2) := by rw [hW]; simp [go_sem]
  have cf3 : W.cell? ⟨w.heap.size, 3, none⟩ = some (.float .f32 a1) := by rw [hW]; simp [go_sem]
  have cf4 : W.cell? ⟨w.heap.size, 4, none⟩ = some (.float .f32 a2) := by rw [hW]; simp [go_sem]
  have cm0 : W.cell? ⟨w.heap.size + 1, 0, none⟩ = some (.float .f32 ma) := by rw [hW]; simp [go_sem]
  have cm1 : W.cell? ⟨w.heap.size + 1, 1, none⟩ = some (.float .f32 mb) := by rw [hW]; simp [go_sem]
  have cm2 : W.cell? ⟨w.heap.size + 1, 2, none⟩ = some (.float .f32 mc) := by rw [hW]; simp [go_sem]
  have cm3 : W.cell? ⟨w.heap.size + 1, 3, none⟩ = some (.float .f32 md) := by rw [hW]; simp [go_sem]
  have z0 : w.heap.size < W.heap.size := by rw [hW]; simp; omega
  have z1 : w.heap.size + 1 < W.heap.size := by rw [hW]; simp
  have SW : Hid (w.Since w.heap.size W) := by rw [hW]; exact ((World.Since.refl _ _).alloc (Nat.le_refl _) _).alloc (by simp) _
  have HW := Lib.hid hW; clear hW
  go_cut [11, 12, 13] (fun s11 s12 s13 wx => FSR W ok Y M s11 s12 s13 wx)
  case first =>
    go_region_with (first | (go_at_call 16; refine (HTF.out _).mono ?_; rintro e w1 ⟨rfl, hs⟩; (try replace hs := sinUD hs); (try have y10 : w.heap.size < w1.heap.size := (by have hsz := hs.size; (try simp only [World.drew, World.drewN, Go.Deep.nblk_alloc, Go.Deep.nblk_setCell] at hsz); omega)); (try have y11 : w.heap.size + 1 < w1.heap.size := (by have hsz := hs.size; (try simp only [World.drew, World.drewN, Go.Deep.nblk_alloc, Go.Deep.nblk_setCell] at hsz); omega)); (try have y12 : W.heap.size < w1.heap.size := (by have hsz := hs.size; (try simp only [World.drew, World.drewN, Go.Deep.nblk_alloc, Go.Deep.nblk_setCell] at hsz); omega)); (try have u10 : w.heap.size ≤ w1.heap.size := (by have hsz := hs.size; (try simp only [World.drew, World.drewN, Go.Deep.nblk_alloc, Go.Deep.nblk_setCell] at hsz); omega)); (try have u11 : w.heap.size + 1 ≤ w1.heap.size := (by have hsz := hs.size; (try simp only [World.drew, World.drewN, Go.Deep.nblk_alloc, Go.Deep.nblk_setCell] at hsz); omega)); (try have u12 : W.heap.size ≤ w1.heap.size := (by have hsz := hs.size; (try simp only [World.drew, World.drewN, Go.Deep.nblk_alloc, Go.Deep.nblk_setCell] at hsz); omega)); obtain ⟨hc1, hf1⟩ := Fl.sinCell hs; have S1 := Lib.hid hs; clear hs) | (go_at_call 17; refine (HTM.out _).mono ?_; rintro e w2 ⟨rfl, hs⟩; (try replace hs := sinUD hs); (try have y20 : w.heap.size < w2.heap.size := (by have hsz := hs.size; (try simp only [World.drew, World.drewN, Go.Deep.nblk_alloc, Go.Deep.nblk_setCell] at hsz); omega)); (try have y21 : w.heap.size + 1 < w2.heap.size := (by have hsz := hs.size; (try simp only [World.drew, World.drewN, Go.Deep.nblk_alloc, Go.Deep.nblk_setCell] at hsz); omega)); (try have y22 : W.heap.size < w2.heap.size := (by have hsz := hs.size; (try simp only [World.drew, World.drewN, Go.Deep.nblk_alloc, Go.Deep.nblk_setCell] at hsz); omega)); (try have y23 : w1.heap.size < w2.heap.size := (by have hsz := hs.size; (try simp only [World.drew, World.drewN, Go.Deep.nblk_alloc, Go.Deep.nblk_setCell] at hsz); omega)); (try have u20 : w.heap.size ≤ w2.heap.size := (by have hsz := hs.size; (try simp only [World.drew, World.drewN, Go.Deep.nblk_alloc, Go.Deep.nblk_setCell] at hsz); omega)); (try have u21 : w.heap.size + 1 ≤ w2.heap.size := (by have hsz := hs.size; (try simp only [World.drew, World.drewN, Go.Deep.nblk_alloc, Go.Deep.nblk_setCell] at hsz); omega)); (try have u22 : W.heap.size ≤ w2.heap.size := (by have hsz := hs.size; (try simp only [World.drew, World.drewN, Go.Deep.nblk_alloc, Go.Deep.nblk_setCell] at hsz); omega)); (try have u23 : w1.heap.size ≤ w2.heap.size := (by have hsz := hs.size; (try simp only [World.drew, World.drewN, Go.Deep.nblk_alloc, Go.Deep.nblk_setCell] at hsz); omega)); obtain ⟨hc2, hf2⟩ := Fl.sinCell hs; have S2 := Lib.hid hs; clear hs) | (go_at_call 15; refine (HSP.out _).mono ?_; rintro e w3 ⟨y, ⟨ra, rb, rc, rd⟩, rfl, hy, hm, hs⟩; (try replace hs := sinUD hs); (try have y30 : w.heap.size < w3.heap.size := (by have hsz := hs.size; (try simp only [World.drew, World.drewN, Go.Deep.nblk_alloc, Go.Deep.nblk_setCell] at hsz); omega)); (try have y31 : w.heap.size + 1 < w3.heap.size := (by have hsz := hs.size; (try simp only [World.drew, World.drewN, Go.Deep.nblk_alloc, Go.Deep.nblk_setCell] at hsz); omega)); (try have y32 : W.heap.size < w3.heap.size := (by have hsz := hs.size; (try simp only [World.drew, World.drewN, Go.Deep.nblk_alloc, Go.Deep.nblk_setCell] at hsz); omega)); (try have y33 : w1.heap.size < w3.heap.size := (by have hsz := hs.size; (try simp only [World.drew, World.drewN, Go.Deep.nblk_alloc, Go.Deep.nblk_setCell] at hsz); omega)); (try have y34 : w2.heap.size < w3.heap.size := (by have hsz := hs.size; (try simp only [World.drew, World.drewN, Go.Deep.nblk_alloc, Go.Deep.nblk_setCell] at hsz); omega)); (try have u30 : w.heap.size ≤ w3.heap.size := (by have hsz := hs.size; (try simp only [World.drew, World.drewN, Go.Deep.nblk_alloc, Go.Deep.nblk_setCell] at hsz); omega)); (try have u31 : w.heap.size + 1 ≤ w3.heap.size := (by have hsz := hs.size; (try simp only [World.drew, World.drewN, Go.Deep.nblk_alloc, Go.Deep.nblk_setCell] at hsz); omega)); (try have u32 : W.heap.size ≤ w3.heap.size := (by have hsz := hs.size; (try simp only [World.drew, World.drewN, Go.Deep.nblk_alloc, Go.Deep.nblk_setCell] at hsz); omega)); (try have u33 : w1.heap.size ≤ w3.heap.size := (by have hsz := hs.size; (try simp only [World.drew, World.drewN, Go.Deep.nblk_alloc, Go.Deep.nblk_setCell] at hsz); omega)); (try have u34 : w2.heap.size ≤ w3.heap.size := (by have hsz := hs.size; (try simp only [World.drew, World.drewN, Go.Deep.nblk_alloc, Go.Deep.nblk_setCell] at hsz); omega)); obtain ⟨hc3, hf3⟩ := Fl.sinCell hs; have S3 := Lib.hid hs; clear hs; have HMV := Lib.hid hm; clear hm; simp only [MemN.val_mk]))
    all_goals
      go_wp2_with fail
      go_meet
      refine ⟨y, _, ra, rb, rc, rd, rfl, rfl, rfl, hy, HMV.out, ?_, ?_, ?_, ?_, ?_, by (repeat (first | (with_reducible refine Fl.sinDrew ?_) | (with_reducible refine World.Since.drew ?_) | (with_reducible refine Fl.sinSet ?_ ?_; rotate_left) | (with_reducible refine Fl.sinAlloc ?_ ?_; rotate_left) | with_reducible exact World.Since.refl _ _ | with_reducible assumption | (with_reducible refine Fl.sinStep (by with_reducible assumption) ?_))); all_goals (first | omega | (simp; done) | (simp; omega) | (simp [go_sem]; done) | (simp [go_sem]; omega))⟩
      all_goals (first | (simp [go_sem, *]; done) | (simp [go_sem]; omega))
  case rest =>
    obtain ⟨y0, g0, p0, q0, r0, t0, rfl, rfl, rfl, hy0, hm0, hg0, d0, d1, d2, d3, hs⟩ := hcut
    have v0 : w.heap.size < wc.heap.size := Nat.lt_of_lt_of_le z0 hs.size
    have v1 : w.heap.size + 1 < wc.heap.size := Nat.lt_of_lt_of_le z1 hs.size
    obtain ⟨hcc, hff⟩ := Fl.sinCell hs
    have SC := Lib.hid hs; clear hs
    have HM0 := Lib.hid hm0; clear hm0
    obtain ⟨wa, rfl⟩ : ∃ wa : World, wa = wc := ⟨_, rfl⟩
    go_upto_region 2 with fail
    go_cut [14, 15, 16] (fun s14 s15 s16 wx => FSR wa ok Y M s14 s15 s16 wx)
    case first =>
      go_region_with (first | (go_at_call 16; refine (HTF.out _).mono ?_; rintro e w1 ⟨rfl, hs⟩; (try replace hs := sinUD hs); (try have y10 : w.heap.size < w1.heap.size := (by have hsz := hs.size; (try simp only [World.drew, World.drewN, Go.Deep.nblk_alloc, Go.Deep.nblk_setCell] at hsz); omega)); (try have y11 : w.heap.size + 1 < w1.heap.size := (by have hsz := hs.size; (try simp only [World.drew, World.drewN, Go.Deep.nblk_alloc, Go.Deep.nblk_setCell] at hsz); omega)); (try have y12 : wa.heap.size < w1.heap.size := (by have hsz := hs.size; (try simp only [World.drew, World.drewN, Go.Deep.nblk_alloc, Go.Deep.nblk_setCell] at hsz); omega)); (try have u10 : w.heap.size ≤ w1.heap.size := (by have hsz := hs.size; (try simp only [World.drew, World.drewN, Go.Deep.nblk_alloc, Go.Deep.nblk_setCell] at hsz); omega)); (try have u11 : w.heap.size + 1 ≤ w1.heap.size := (by have hsz := hs.size; (try simp only [World.drew, World.drewN, Go.Deep.nblk_alloc, Go.Deep.nblk_setCell] at hsz); omega)); (try have u12 : wa.heap.size ≤ w1.heap.size := (by have hsz := hs.size; (try simp only [World.drew, World.drewN, Go.Deep.nblk_alloc, Go.Deep.nblk_setCell] at hsz); omega)); obtain ⟨hc1, hf1⟩ := Fl.sinCell hs; have S1 := Lib.hid hs; clear hs) | (go_at_call 17; refine (HTM.out _).mono ?_; rintro e w2 ⟨rfl, hs⟩; (try replace hs := sinUD hs); (try have y20 : w.heap.size < w2.heap.size := (by have hsz := hs.size; (try simp only [World.drew, World.drewN, Go.Deep.nblk_alloc, Go.Deep.nblk_setCell] at hsz); omega)); (try have y21 : w.heap.size + 1 < w2.heap.size := (by have hsz := hs.size; (try simp only [World.drew, World.drewN, Go.Deep.nblk_alloc, Go.Deep.nblk_setCell] at hsz); omega)); (try have y22 : wa.heap.size < w2.heap.size := (by have hsz := hs.size; (try simp only [World.drew, World.drewN, Go.Deep.nblk_alloc, Go.Deep.nblk_setCell] at hsz); omega)); (try have y23 : w1.heap.size < w2.heap.size := (by have hsz := hs.size; (try simp only [World.drew, World.drewN, Go.Deep.nblk_alloc, Go.Deep.nblk_setCell] at hsz); omega)); (try have u20 : w.heap.size ≤ w2.heap.size := (by have hsz := hs.size; (try simp only [World.drew, World.drewN, Go.Deep.nblk_alloc, Go.Deep.nblk_setCell] at hsz); omega)); (try have u21 : w.heap.size + 1 ≤ w2.heap.size := (by have hsz := hs.size; (try simp only [World.drew, World.drewN, Go.Deep.nblk_alloc, Go.Deep.nblk_setCell] at hsz); omega)); (try have u22 : wa.heap.size ≤ w2.heap.size := (by have hsz := hs.size; (try simp only [World.drew, World.drewN, Go.Deep.nblk_alloc, Go.Deep.nblk_setCell] at hsz); omega)); (try have u23 : w1.heap.size ≤ w2.heap.size := (by have hsz := hs.size; (try simp only [World.drew, World.drewN, Go.Deep.nblk_alloc, Go.Deep.nblk_setCell] at hsz); omega)); obtain ⟨hc2, hf2⟩ := Fl.sinCell hs; have S2 := Lib.hid hs; clear hs) | (go_at_call 18; refine (HIM.out _).mono ?_; rintro e w3 ⟨y, ⟨ra, rb, rc, rd⟩, rfl, hy, hm, hs⟩; (try replace hs := sinUD hs); (try have y30 : w.heap.size < w3.heap.size := (by have hsz := hs.size; (try simp only [World.drew, World.drewN, Go.Deep.nblk_alloc, Go.Deep.nblk_setCell] at hsz); omega)); (try have y31 : w.heap.size + 1 < w3.heap.size := (by have hsz := hs.size; (try simp only [World.drew, World.drewN, Go.Deep.nblk_alloc, Go.Deep.nblk_setCell] at hsz); omega)); (try have y32 : wa.heap.size < w3.heap.size := (by have hsz := hs.size; (try simp only [World.drew, World.drewN, Go.Deep.nblk_alloc, Go.Deep.nblk_setCell] at hsz); omega)); (try have y33 : w1.heap.size < w3.heap.size := (by have hsz := hs.size; (try simp only [World.drew, World.drewN, Go.Deep.nblk_alloc, Go.Deep.nblk_setCell] at hsz); omega)); (try have y34 : w2.heap.size < w3.heap.size := (by have hsz := hs.size; (try simp only [World.drew, World.drewN, Go.Deep.nblk_alloc, Go.Deep.nblk_setCell] at hsz); omega)); (try have u30 : w.heap.size ≤ w3.heap.size := (by have hsz := hs.size; (try simp only [World.drew, World.drewN, Go.Deep.nblk_alloc, Go.Deep.nblk_setCell] at hsz); omega)); (try have u31 : w.heap.size + 1 ≤ w3.heap.size := (by have hsz := hs.size; (try simp only [World.drew, World.drewN, Go.Deep.nblk_alloc, Go.Deep.nblk_setCell] at hsz); omega)); (try have u32 : wa.heap.size ≤ w3.heap.size := (by have hsz := hs.size; (try simp only [World.drew, World.drewN, Go.Deep.nblk_alloc, Go.Deep.nblk_setCell] at hsz); omega)); (try have u33 : w1.heap.size ≤ w3.heap.size := (by have hsz := hs.size; (try simp only [World.drew, World.drewN, Go.Deep.nblk_alloc, Go.Deep.nblk_setCell] at hsz); omega)); (try have u34 : w2.heap.size ≤ w3.heap.size := (by have hsz := hs.size; (try simp only [World.drew, World.drewN, Go.Deep.nblk_alloc, Go.Deep.nblk_setCell] at hsz); omega)); obtain ⟨hc3, hf3⟩ := Fl.sinCell hs; have S3 := Lib.hid hs; clear hs; have HMV := Lib.hid hm; clear hm; simp only [MemN.val_mk]))
      all_goals
        go_wp2_with fail
        go_meet
        refine ⟨y, _, ra, rb, rc, rd, rfl, rfl, rfl, hy, HMV.out, ?_, ?_, ?_, ?_, ?_, by (repeat (first | (with_reducible refine Fl.sinDrew ?_) | (with_reducible refine World.Since.drew ?_) | (with_reducible refine Fl.sinSet ?_ ?_; rotate_left) | (with_reducible refine Fl.sinAlloc ?_ ?_; rotate_left) | with_reducible exact World.Since.refl _ _ | with_reducible assumption | (with_reducible refine Fl.sinStep (by with_reducible assumption) ?_))); all_goals (first | omega | (simp; done) | (simp; omega) | (simp [go_sem]; done) | (simp [go_sem]; omega))⟩
        all_goals (first | (simp [go_sem, *]; done) | (simp [go_sem]; omega))
    case rest =>
      obtain ⟨y5, g5, p5, q5, r5, t5, rfl, rfl, rfl, hy5, hm5, hg5, e0, e1, e2, e3, hs⟩ := hcut
      obtain ⟨hc5, hf5⟩ := Fl.sinCell hs
      have v5 : g0 < wc.heap.size := Nat.lt_of_lt_of_le hg0 hs.size
      have S5 := Lib.hid hs; clear hs
      have HM5 := Lib.hid hm5; clear hm5
      go_wp2_with (first | (with_reducible_and_instances refine Lo.wpList_wi _ rfl _ _ _ rfl _ _ rfl (by kernel_rfl) (by kernel_rfl) (by assumption) ?_; intro rr nn hrr) | (go_at_call 19; refine (sameFloat_any _ _ _ _ (by assumption : Hid _) (by assumption : Hid _)).mono ?_; rintro e w' ⟨rfl, n1, rfl⟩) | (go_at_call 20; refine (eqMemory_any ⟨p5, q5, r5, t5⟩ ⟨p0, q0, r0, t0⟩ _ _ HM5.out HM0.out).mono ?_; rintro e w9 ⟨rfl, hs⟩; have S9 := Lib.hid hs; clear hs))
      go_ret
      refine ⟨rfl, ?_⟩
      (repeat (first | (with_reducible refine Fl.sinDrew ?_) | (with_reducible refine World.Since.drew ?_) | (with_reducible refine Fl.sinSet ?_ ?_; rotate_left) | (with_reducible refine Fl.sinAlloc ?_ ?_; rotate_left) | with_reducible exact World.Since.refl _ _ | with_reducible assumption | (with_reducible refine Fl.sinStep (by with_reducible assumption) ?_))); all_goals (first | omega | (simp; done) | (simp; omega) | (simp [go_sem]; done) | (simp [go_sem]; omega))

theorem wFS (f : FilN) (n : Int) (fu : Bool) (m : MemN) (x : Nat) (w : World) (hF : FvF f (ofF f)) (_ : (Lit.int .i64 n).wf = true) (hM : FvM m (ofM m)) (hx : Fv .f32 x (ab .f32 x)) :
    Calls Try.prog 3 #[f.val, .int .i64 n, .bool fu, m.val, .float .f32 x] w fun e w' => e = .returned (.bool true) ∧ w.Since w.heap.size w' := by
  by_cases h : inB n 0 2 = true
  · have hn : n = 0 ∨ n = 1 ∨ n = 2 := by simp [inB] at h; omega
    rcases hn with rfl | rfl | rfl
    · exact lawFS_gen f 0 fu m x _ _ _ w (fun w => specFS_Dir f fu m x _ _ _ w hF hM hx) (fun w => implFS_Dir f fu m x _ _ _ w hF hM hx)
    · exact lawFS_gen f 1 fu m x _ _ _ w (fun w => specFS_Tur f fu m x _ _ _ w hF hM hx) (fun w => implFS_Tur f fu m x _ _ _ w hF hM hx)
    · exact lawFS_gen f 2 fu m x _ _ _ w (fun w => specFS_Can f fu m x _ _ _ w hF hM hx) (fun w => implFS_Can f fu m x _ _ _ w hF hM hx)
  · have h2 : inB n 0 2 = false := by simpa using h
    exact lawFS_gen f n fu m x _ _ _ w (fun w => specFS_out f n fu m x w h2) (fun w => implFS_out f n fu m x w h2)
end Go.Proofs.Ytleioidlihpjgaa
