/- The program's next step and memory. -/
import Derived.Test.YtipdgnhbmfmhnaaGc
set_option linter.unusedVariables false
set_option linter.unusedSimpArgs false
namespace Go.Proofs.Ytipdgnhbmfmhnaa
open Fl Go.RowKit
set_option maxHeartbeats 4000000 in
set_option maxRecDepth 100000 in
theorem nextDir_any (fu : Bool) (f : FilN) (m : MemN) (x : Nat) (F : Fil) (M : Mem) (X : O) (w : World) (hF : FvF f F) (hM : FvM m M) (hx : Hid (Fv .f32 x X)) :
    Calls Try.prog 15 #[setV f fu, .func (.func 20) #[] #[], m.val, .float .f32 x] w (StepPost w (stepY 0 fu F M X) (flM fu (rawM 0 fu F M X))) := by
  have hfl := flushed_any f fu
  have hst := implDir_any fu f m x F M X
  obtain ⟨b0, b1, b2, a1, a2⟩ := f
  obtain ⟨ma, mb, mc, md⟩ := m
  unfold MemN.val at *
  unfold setV at *
  have HF := Lib.hid hfl; clear hfl
  have HT := Lib.hid hst; clear hst
  have HX := Lib.hid hx; clear hx
  have HFF := Lib.hid hF; clear hF
  have HMM := Lib.hid hM; clear hM
  go_enter Try.func15, Try.ntmps15
  go_wp2_with (go_at_call 20; refine (HT.out _ HFF.out HMM.out HX.out).mono ?_; rintro e w' ⟨y, ⟨ra, rb, rc, rd⟩, rfl, hy, hm, hs⟩; have z0 : w.heap.size < w'.heap.size := (by have hsz := hs.size; simp only [Fl.size_drewN, Go.Deep.nblk_alloc, Go.Deep.nblk_setCell] at hsz; omega); have z1 : w.heap.size + 1 < w'.heap.size := (by have hsz := hs.size; simp only [Fl.size_drewN, Go.Deep.nblk_alloc, Go.Deep.nblk_setCell] at hsz; omega); have z2 : w.heap.size + 1 + 1 < w'.heap.size := (by have hsz := hs.size; simp only [Fl.size_drewN, Go.Deep.nblk_alloc, Go.Deep.nblk_setCell] at hsz; omega); obtain ⟨hcc, hff⟩ := Fl.sinCell hs; have HS := Lib.hid hs; clear hs; have HMV := Lib.hid hm; clear hm; unfold MemN.val)
  have i0 : ∀ w, (Instr.index 48 (.agg #[.float .f32 ra, .float .f32 rb, .float .f32 rc, .float .f32 rd]) (.int .i64 0)).run Try.prog w = .ok (.float .f32 ra) w := fun _ => by kernel_rfl
  have i1 : ∀ w, (Instr.index 48 (.agg #[.float .f32 ra, .float .f32 rb, .float .f32 rc, .float .f32 rd]) (.int .i64 1)).run Try.prog w = .ok (.float .f32 rb) w := fun _ => by kernel_rfl
  have i2 : ∀ w, (Instr.index 48 (.agg #[.float .f32 ra, .float .f32 rb, .float .f32 rc, .float .f32 rd]) (.int .i64 2)).run Try.prog w = .ok (.float .f32 rc) w := fun _ => by kernel_rfl
  have i3 : ∀ w, (Instr.index 48 (.agg #[.float .f32 ra, .float .f32 rb, .float .f32 rc, .float .f32 rd]) (.int .i64 3)).run Try.prog w = .ok (.float .f32 rd) w := fun _ => by kernel_rfl
  refine wp_loop_rounds 5 ?_
  rw [rounds_succ]
  go_wp2_with (go_at_call 23; refine (HF.out _ _ _ HMV.out.a).mono ?_; rintro e w1 ⟨p1, rfl, hp1, hs⟩; have y10 : w.heap.size < w1.heap.size := (by have hsz := hs.size; simp only [Fl.size_drewN, Go.Deep.nblk_alloc, Go.Deep.nblk_setCell] at hsz; omega); have y11 : w.heap.size + 1 < w1.heap.size := (by have hsz := hs.size; simp only [Fl.size_drewN, Go.Deep.nblk_alloc, Go.Deep.nblk_setCell] at hsz; omega); have y12 : w.heap.size + 1 + 1 < w1.heap.size := (by have hsz := hs.size; simp only [Fl.size_drewN, Go.Deep.nblk_alloc, Go.Deep.nblk_setCell] at hsz; omega); obtain ⟨hc1, hf1⟩ := Fl.sinCell hs; have S1 := Lib.hid hs; clear hs)
  rw [rounds_succ]
  go_wp2_with (go_at_call 23; refine (HF.out _ _ _ HMV.out.b).mono ?_; rintro e w2 ⟨p2, rfl, hp2, hs⟩; have y20 : w.heap.size < w2.heap.size := (by have hsz := hs.size; simp only [Fl.size_drewN, Go.Deep.nblk_alloc, Go.Deep.nblk_setCell] at hsz; omega); have y21 : w.heap.size + 1 < w2.heap.size := (by have hsz := hs.size; simp only [Fl.size_drewN, Go.Deep.nblk_alloc, Go.Deep.nblk_setCell] at hsz; omega); have y22 : w.heap.size + 1 + 1 < w2.heap.size := (by have hsz := hs.size; simp only [Fl.size_drewN, Go.Deep.nblk_alloc, Go.Deep.nblk_setCell] at hsz; omega); obtain ⟨hc2, hf2⟩ := Fl.sinCell hs; have S2 := Lib.hid hs; clear hs)
  rw [rounds_succ]
  go_wp2_with (go_at_call 23; refine (HF.out _ _ _ HMV.out.c).mono ?_; rintro e w3 ⟨p3, rfl, hp3, hs⟩; have y30 : w.heap.size < w3.heap.size := (by have hsz := hs.size; simp only [Fl.size_drewN, Go.Deep.nblk_alloc, Go.Deep.nblk_setCell] at hsz; omega); have y31 : w.heap.size + 1 < w3.heap.size := (by have hsz := hs.size; simp only [Fl.size_drewN, Go.Deep.nblk_alloc, Go.Deep.nblk_setCell] at hsz; omega); have y32 : w.heap.size + 1 + 1 < w3.heap.size := (by have hsz := hs.size; simp only [Fl.size_drewN, Go.Deep.nblk_alloc, Go.Deep.nblk_setCell] at hsz; omega); obtain ⟨hc3, hf3⟩ := Fl.sinCell hs; have S3 := Lib.hid hs; clear hs)
  rw [rounds_succ]
  go_wp2_with (go_at_call 23; refine (HF.out _ _ _ HMV.out.d).mono ?_; rintro e w4 ⟨p4, rfl, hp4, hs⟩; have y40 : w.heap.size < w4.heap.size := (by have hsz := hs.size; simp only [Fl.size_drewN, Go.Deep.nblk_alloc, Go.Deep.nblk_setCell] at hsz; omega); have y41 : w.heap.size + 1 < w4.heap.size := (by have hsz := hs.size; simp only [Fl.size_drewN, Go.Deep.nblk_alloc, Go.Deep.nblk_setCell] at hsz; omega); have y42 : w.heap.size + 1 + 1 < w4.heap.size := (by have hsz := hs.size; simp only [Fl.size_drewN, Go.Deep.nblk_alloc, Go.Deep.nblk_setCell] at hsz; omega); obtain ⟨hc4, hf4⟩ := Fl.sinCell hs; have S4 := Lib.hid hs; clear hs)
  rw [rounds_succ]
  go_wp2
  have a1 : w1.cell? ⟨w.heap.size + 1, 0, none⟩ = some (.float .f32 ra) := by simp [go_sem, hcc, hff, z0, z1, z2, hc1, hf1, y10, y11, y12, hc2, hf2, y20, y21, y22, hc3, hf3, y30, y31, y32, hc4, hf4, y40, y41, y42]
  have a2 : w2.cell? ⟨w.heap.size + 1, 1, none⟩ = some (.float .f32 rb) := by simp [go_sem, hcc, hff, z0, z1, z2, hc1, hf1, y10, y11, y12, hc2, hf2, y20, y21, y22, hc3, hf3, y30, y31, y32, hc4, hf4, y40, y41, y42]
  have a3 : w3.cell? ⟨w.heap.size + 1, 2, none⟩ = some (.float .f32 rc) := by simp [go_sem, hcc, hff, z0, z1, z2, hc1, hf1, y10, y11, y12, hc2, hf2, y20, y21, y22, hc3, hf3, y30, y31, y32, hc4, hf4, y40, y41, y42]
  have e0 : w4.cell? ⟨w.heap.size + 1, 0, none⟩ = some (.float .f32 p1) := by simp [go_sem, hcc, hff, z0, z1, z2, hc1, hf1, y10, y11, y12, hc2, hf2, y20, y21, y22, hc3, hf3, y30, y31, y32, hc4, hf4, y40, y41, y42, World.cell?_setCell_same _ _ _ a1]
  have e1 : w4.cell? ⟨w.heap.size + 1, 1, none⟩ = some (.float .f32 p2) := by simp [go_sem, hcc, hff, z0, z1, z2, hc1, hf1, y10, y11, y12, hc2, hf2, y20, y21, y22, hc3, hf3, y30, y31, y32, hc4, hf4, y40, y41, y42, World.cell?_setCell_same _ _ _ a2]
  have e2 : w4.cell? ⟨w.heap.size + 1, 2, none⟩ = some (.float .f32 p3) := by simp [go_sem, hcc, hff, z0, z1, z2, hc1, hf1, y10, y11, y12, hc2, hf2, y20, y21, y22, hc3, hf3, y30, y31, y32, hc4, hf4, y40, y41, y42, World.cell?_setCell_same _ _ _ a3]
  have e3 : w4.cell? ⟨w.heap.size + 1, 3, none⟩ = some (.float .f32 rd) := by simp [go_sem, hcc, hff, z0, z1, z2, hc1, hf1, y10, y11, y12, hc2, hf2, y20, y21, y22, hc3, hf3, y30, y31, y32, hc4, hf4, y40, y41, y42]
  have g0 : w4.cell? ⟨w.heap.size + 1 + 1, 0, none⟩ = some (.float .f32 0) := by simp [go_sem, hcc, hff, z0, z1, z2, hc1, hf1, y10, y11, y12, hc2, hf2, y20, y21, y22, hc3, hf3, y30, y31, y32, hc4, hf4, y40, y41, y42]
  have g1 : w4.cell? ⟨w.heap.size + 1 + 1, 1, none⟩ = some (.float .f32 0) := by simp [go_sem, hcc, hff, z0, z1, z2, hc1, hf1, y10, y11, y12, hc2, hf2, y20, y21, y22, hc3, hf3, y30, y31, y32, hc4, hf4, y40, y41, y42]
  have g2 : w4.cell? ⟨w.heap.size + 1 + 1, 2, none⟩ = some (.float .f32 0) := by simp [go_sem, hcc, hff, z0, z1, z2, hc1, hf1, y10, y11, y12, hc2, hf2, y20, y21, y22, hc3, hf3, y30, y31, y32, hc4, hf4, y40, y41, y42]
  have g3 : w4.cell? ⟨w.heap.size + 1 + 1, 3, none⟩ = some (.float .f32 0) := by simp [go_sem, hcc, hff, z0, z1, z2, hc1, hf1, y10, y11, y12, hc2, hf2, y20, y21, y22, hc3, hf3, y30, y31, y32, hc4, hf4, y40, y41, y42]
  have gf : ∀ i, w4.frozen? ⟨w.heap.size + 1 + 1, i, none⟩ = false := fun i => by simp [go_sem, hcc, hff, z0, z1, z2, hc1, hf1, y10, y11, y12, hc2, hf2, y20, y21, y22, hc3, hf3, y30, y31, y32, hc4, hf4, y40, y41, y42]
  clear hc1 hc2 hc3 hc4 hf1 hf2 hf3 hf4 hcc hff
  refine Lo.wp_loose_tail [] 3 (by kernel_rfl) (by kernel_rfl) ?_
  simp only [List.take_succ_cons, List.take_zero, List.drop_succ_cons, List.drop_zero]
  repeat (first
    | (refine Lo.wpL_move rfl _ (.inl rfl) (by decide) ?_; simp only [Act.put, List.setIfInBounds_toArray, List.set_cons_succ, List.set_cons_zero])
    | (refine Lo.wpL_move rfl _ (.inr rfl) (by decide) ?_; simp only [Act.put, List.setIfInBounds_toArray, List.set_cons_succ, List.set_cons_zero])
    | (refine Lo.wpL_fop rfl _ _ _ _ rfl rfl (by decide) _ _ _ _ _ rfl rfl (by assumption) (by assumption) ?_; intro rr hrr; simp only [Act.put, List.setIfInBounds_toArray, List.set_cons_succ, List.set_cons_zero])
    | (refine Lo.wpL_wide rfl _ _ _ rfl (by decide) _ _ rfl (by kernel_rfl) (by kernel_rfl) (by assumption) ?_; intro rr hrr; simp only [Act.put, List.setIfInBounds_toArray, List.set_cons_succ, List.set_cons_zero])
    | (refine Lo.wpL_quiet rfl (by decide) (fun K hK => ?_); go_big_quiet_op; (refine hK _ ?_; clear hK K)))
  refine Lo.wpL_nil ?_
  refine Lo.after_nil ?_; intro nq
  go_wp2
  exact bodyPost_ret (v := .tuple #[.float .f32 y, .agg #[.float .f32 p1, .float .f32 p2, .float .f32 p3, .float .f32 p4]]) (by simp [results, Try.results15, go_sem, g0, g1, g2, g3]) rfl
    ⟨y, ⟨p1, p2, p3, p4⟩, rfl, hy, ⟨hp1, hp2, hp3, hp4⟩, by (repeat (first | (with_reducible refine Fl.sinDrew ?_) | (with_reducible refine World.Since.drew ?_) | (with_reducible refine Fl.sinSet ?_ ?_; rotate_left) | (with_reducible refine Fl.sinAlloc ?_ ?_; rotate_left) | with_reducible exact World.Since.refl _ _ | with_reducible assumption | (with_reducible refine Fl.sinStep (by with_reducible assumption) ?_))); all_goals (first | omega | (simp; done) | (simp; omega) | (simp [go_sem]; done) | (simp [go_sem]; omega))⟩

set_option maxHeartbeats 4000000 in
set_option maxRecDepth 100000 in
theorem nextTur_any (fu : Bool) (f : FilN) (m : MemN) (x : Nat) (F : Fil) (M : Mem) (X : O) (w : World) (hF : FvF f F) (hM : FvM m M) (hx : Hid (Fv .f32 x X)) :
    Calls Try.prog 15 #[setV f fu, .func (.func 21) #[] #[], m.val, .float .f32 x] w (StepPost w (stepY 1 fu F M X) (flM fu (rawM 1 fu F M X))) := by
  have hfl := flushed_any f fu
  have hst := implTur_any fu f m x F M X
  obtain ⟨b0, b1, b2, a1, a2⟩ := f
  obtain ⟨ma, mb, mc, md⟩ := m
  unfold MemN.val at *
  unfold setV at *
  have HF := Lib.hid hfl; clear hfl
  have HT := Lib.hid hst; clear hst
  have HX := Lib.hid hx; clear hx
  have HFF := Lib.hid hF; clear hF
  have HMM := Lib.hid hM; clear hM
  go_enter Try.func15, Try.ntmps15
  go_wp2_with (go_at_call 21; refine (HT.out _ HFF.out HMM.out HX.out).mono ?_; rintro e w' ⟨y, ⟨ra, rb, rc, rd⟩, rfl, hy, hm, hs⟩; have z0 : w.heap.size < w'.heap.size := (by have hsz := hs.size; simp only [Fl.size_drewN, Go.Deep.nblk_alloc, Go.Deep.nblk_setCell] at hsz; omega); have z1 : w.heap.size + 1 < w'.heap.size := (by have hsz := hs.size; simp only [Fl.size_drewN, Go.Deep.nblk_alloc, Go.Deep.nblk_setCell] at hsz; omega); have z2 : w.heap.size + 1 + 1 < w'.heap.size := (by have hsz := hs.size; simp only [Fl.size_drewN, Go.Deep.nblk_alloc, Go.Deep.nblk_setCell] at hsz; omega); obtain ⟨hcc, hff⟩ := Fl.sinCell hs; have HS := Lib.hid hs; clear hs; have HMV := Lib.hid hm; clear hm; unfold MemN.val)
  have i0 : ∀ w, (Instr.index 48 (.agg #[.float .f32 ra, .float .f32 rb, .float .f32 rc, .float .f32 rd]) (.int .i64 0)).run Try.prog w = .ok (.float .f32 ra) w := fun _ => by kernel_rfl
  have i1 : ∀ w, (Instr.index 48 (.agg #[.float .f32 ra, .float .f32 rb, .float .f32 rc, .float .f32 rd]) (.int .i64 1)).run Try.prog w = .ok (.float .f32 rb) w := fun _ => by kernel_rfl
  have i2 : ∀ w, (Instr.index 48 (.agg #[.float .f32 ra, .float .f32 rb, .float .f32 rc, .float .f32 rd]) (.int .i64 2)).run Try.prog w = .ok (.float .f32 rc) w := fun _ => by kernel_rfl
  have i3 : ∀ w, (Instr.index 48 (.agg #[.float .f32 ra, .float .f32 rb, .float .f32 rc, .float .f32 rd]) (.int .i64 3)).run Try.prog w = .ok (.float .f32 rd) w := fun _ => by kernel_rfl
  refine wp_loop_rounds 5 ?_
  rw [rounds_succ]
  go_wp2_with (go_at_call 23; refine (HF.out _ _ _ HMV.out.a).mono ?_; rintro e w1 ⟨p1, rfl, hp1, hs⟩; have y10 : w.heap.size < w1.heap.size := (by have hsz := hs.size; simp only [Fl.size_drewN, Go.Deep.nblk_alloc, Go.Deep.nblk_setCell] at hsz; omega); have y11 : w.heap.size + 1 < w1.heap.size := (by have hsz := hs.size; simp only [Fl.size_drewN, Go.Deep.nblk_alloc, Go.Deep.nblk_setCell] at hsz; omega); have y12 : w.heap.size + 1 + 1 < w1.heap.size := (by have hsz := hs.size; simp only [Fl.size_drewN, Go.Deep.nblk_alloc, Go.Deep.nblk_setCell] at hsz; omega); obtain ⟨hc1, hf1⟩ := Fl.sinCell hs; have S1 := Lib.hid hs; clear hs)
  rw [rounds_succ]
  go_wp2_with (go_at_call 23; refine (HF.out _ _ _ HMV.out.b).mono ?_; rintro e w2 ⟨p2, rfl, hp2, hs⟩; have y20 : w.heap.size < w2.heap.size := (by have hsz := hs.size; simp only [Fl.size_drewN, Go.Deep.nblk_alloc, Go.Deep.nblk_setCell] at hsz; omega); have y21 : w.heap.size + 1 < w2.heap.size := (by have hsz := hs.size; simp only [Fl.size_drewN, Go.Deep.nblk_alloc, Go.Deep.nblk_setCell] at hsz; omega); have y22 : w.heap.size + 1 + 1 < w2.heap.size := (by have hsz := hs.size; simp only [Fl.size_drewN, Go.Deep.nblk_alloc, Go.Deep.nblk_setCell] at hsz; omega); obtain ⟨hc2, hf2⟩ := Fl.sinCell hs; have S2 := Lib.hid hs; clear hs)
  rw [rounds_succ]
  go_wp2_with (go_at_call 23; refine (HF.out _ _ _ HMV.out.c).mono ?_; rintro e w3 ⟨p3, rfl, hp3, hs⟩; have y30 : w.heap.size < w3.heap.size := (by have hsz := hs.size; simp only [Fl.size_drewN, Go.Deep.nblk_alloc, Go.Deep.nblk_setCell] at hsz; omega); have y31 : w.heap.size + 1 < w3.heap.size := (by have hsz := hs.size; simp only [Fl.size_drewN, Go.Deep.nblk_alloc, Go.Deep.nblk_setCell] at hsz; omega); have y32 : w.heap.size + 1 + 1 < w3.heap.size := (by have hsz := hs.size; simp only [Fl.size_drewN, Go.Deep.nblk_alloc, Go.Deep.nblk_setCell] at hsz; omega); obtain ⟨hc3, hf3⟩ := Fl.sinCell hs; have S3 := Lib.hid hs; clear hs)
  rw [rounds_succ]
  go_wp2_with (go_at_call 23; refine (HF.out _ _ _ HMV.out.d).mono ?_; rintro e w4 ⟨p4, rfl, hp4, hs⟩; have y40 : w.heap.size < w4.heap.size := (by have hsz := hs.size; simp only [Fl.size_drewN, Go.Deep.nblk_alloc, Go.Deep.nblk_setCell] at hsz; omega); have y41 : w.heap.size + 1 < w4.heap.size := (by have hsz := hs.size; simp only [Fl.size_drewN, Go.Deep.nblk_alloc, Go.Deep.nblk_setCell] at hsz; omega); have y42 : w.heap.size + 1 + 1 < w4.heap.size := (by have hsz := hs.size; simp only [Fl.size_drewN, Go.Deep.nblk_alloc, Go.Deep.nblk_setCell] at hsz; omega); obtain ⟨hc4, hf4⟩ := Fl.sinCell hs; have S4 := Lib.hid hs; clear hs)
  rw [rounds_succ]
  go_wp2
  have a1 : w1.cell? ⟨w.heap.size + 1, 0, none⟩ = some (.float .f32 ra) := by simp [go_sem, hcc, hff, z0, z1, z2, hc1, hf1, y10, y11, y12, hc2, hf2, y20, y21, y22, hc3, hf3, y30, y31, y32, hc4, hf4, y40, y41, y42]
  have a2 : w2.cell? ⟨w.heap.size + 1, 1, none⟩ = some (.float .f32 rb) := by simp [go_sem, hcc, hff, z0, z1, z2, hc1, hf1, y10, y11, y12, hc2, hf2, y20, y21, y22, hc3, hf3, y30, y31, y32, hc4, hf4, y40, y41, y42]
  have a3 : w3.cell? ⟨w.heap.size + 1, 2, none⟩ = some (.float .f32 rc) := by simp [go_sem, hcc, hff, z0, z1, z2, hc1, hf1, y10, y11, y12, hc2, hf2, y20, y21, y22, hc3, hf3, y30, y31, y32, hc4, hf4, y40, y41, y42]
  have e0 : w4.cell? ⟨w.heap.size + 1, 0, none⟩ = some (.float .f32 p1) := by simp [go_sem, hcc, hff, z0, z1, z2, hc1, hf1, y10, y11, y12, hc2, hf2, y20, y21, y22, hc3, hf3, y30, y31, y32, hc4, hf4, y40, y41, y42, World.cell?_setCell_same _ _ _ a1]
  have e1 : w4.cell? ⟨w.heap.size + 1, 1, none⟩ = some (.float .f32 p2) := by simp [go_sem, hcc, hff, z0, z1, z2, hc1, hf1, y10, y11, y12, hc2, hf2, y20, y21, y22, hc3, hf3, y30, y31, y32, hc4, hf4, y40, y41, y42, World.cell?_setCell_same _ _ _ a2]
  have e2 : w4.cell? ⟨w.heap.size + 1, 2, none⟩ = some (.float .f32 p3) := by simp [go_sem, hcc, hff, z0, z1, z2, hc1, hf1, y10, y11, y12, hc2, hf2, y20, y21, y22, hc3, hf3, y30, y31, y32, hc4, hf4, y40, y41, y42, World.cell?_setCell_same _ _ _ a3]
  have e3 : w4.cell? ⟨w.heap.size + 1, 3, none⟩ = some (.float .f32 rd) := by simp [go_sem, hcc, hff, z0, z1, z2, hc1, hf1, y10, y11, y12, hc2, hf2, y20, y21, y22, hc3, hf3, y30, y31, y32, hc4, hf4, y40, y41, y42]
  have g0 : w4.cell? ⟨w.heap.size + 1 + 1, 0, none⟩ = some (.float .f32 0) := by simp [go_sem, hcc, hff, z0, z1, z2, hc1, hf1, y10, y11, y12, hc2, hf2, y20, y21, y22, hc3, hf3, y30, y31, y32, hc4, hf4, y40, y41, y42]
  have g1 : w4.cell? ⟨w.heap.size + 1 + 1, 1, none⟩ = some (.float .f32 0) := by simp [go_sem, hcc, hff, z0, z1, z2, hc1, hf1, y10, y11, y12, hc2, hf2, y20, y21, y22, hc3, hf3, y30, y31, y32, hc4, hf4, y40, y41, y42]
  have g2 : w4.cell? ⟨w.heap.size + 1 + 1, 2, none⟩ = some (.float .f32 0) := by simp [go_sem, hcc, hff, z0, z1, z2, hc1, hf1, y10, y11, y12, hc2, hf2, y20, y21, y22, hc3, hf3, y30, y31, y32, hc4, hf4, y40, y41, y42]
  have g3 : w4.cell? ⟨w.heap.size + 1 + 1, 3, none⟩ = some (.float .f32 0) := by simp [go_sem, hcc, hff, z0, z1, z2, hc1, hf1, y10, y11, y12, hc2, hf2, y20, y21, y22, hc3, hf3, y30, y31, y32, hc4, hf4, y40, y41, y42]
  have gf : ∀ i, w4.frozen? ⟨w.heap.size + 1 + 1, i, none⟩ = false := fun i => by simp [go_sem, hcc, hff, z0, z1, z2, hc1, hf1, y10, y11, y12, hc2, hf2, y20, y21, y22, hc3, hf3, y30, y31, y32, hc4, hf4, y40, y41, y42]
  clear hc1 hc2 hc3 hc4 hf1 hf2 hf3 hf4 hcc hff
  refine Lo.wp_loose_tail [] 3 (by kernel_rfl) (by kernel_rfl) ?_
  simp only [List.take_succ_cons, List.take_zero, List.drop_succ_cons, List.drop_zero]
  repeat (first
    | (refine Lo.wpL_move rfl _ (.inl rfl) (by decide) ?_; simp only [Act.put, List.setIfInBounds_toArray, List.set_cons_succ, List.set_cons_zero])
    | (refine Lo.wpL_move rfl _ (.inr rfl) (by decide) ?_; simp only [Act.put, List.setIfInBounds_toArray, List.set_cons_succ, List.set_cons_zero])
    | (refine Lo.wpL_fop rfl _ _ _ _ rfl rfl (by decide) _ _ _ _ _ rfl rfl (by assumption) (by assumption) ?_; intro rr hrr; simp only [Act.put, List.setIfInBounds_toArray, List.set_cons_succ, List.set_cons_zero])
    | (refine Lo.wpL_wide rfl _ _ _ rfl (by decide) _ _ rfl (by kernel_rfl) (by kernel_rfl) (by assumption) ?_; intro rr hrr; simp only [Act.put, List.setIfInBounds_toArray, List.set_cons_succ, List.set_cons_zero])
    | (refine Lo.wpL_quiet rfl (by decide) (fun K hK => ?_); go_big_quiet_op; (refine hK _ ?_; clear hK K)))
  refine Lo.wpL_nil ?_
  refine Lo.after_nil ?_; intro nq
  go_wp2
  exact bodyPost_ret (v := .tuple #[.float .f32 y, .agg #[.float .f32 p1, .float .f32 p2, .float .f32 p3, .float .f32 p4]]) (by simp [results, Try.results15, go_sem, g0, g1, g2, g3]) rfl
    ⟨y, ⟨p1, p2, p3, p4⟩, rfl, hy, ⟨hp1, hp2, hp3, hp4⟩, by (repeat (first | (with_reducible refine Fl.sinDrew ?_) | (with_reducible refine World.Since.drew ?_) | (with_reducible refine Fl.sinSet ?_ ?_; rotate_left) | (with_reducible refine Fl.sinAlloc ?_ ?_; rotate_left) | with_reducible exact World.Since.refl _ _ | with_reducible assumption | (with_reducible refine Fl.sinStep (by with_reducible assumption) ?_))); all_goals (first | omega | (simp; done) | (simp; omega) | (simp [go_sem]; done) | (simp [go_sem]; omega))⟩

set_option maxHeartbeats 4000000 in
set_option maxRecDepth 100000 in
theorem nextCan_any (fu : Bool) (f : FilN) (m : MemN) (x : Nat) (F : Fil) (M : Mem) (X : O) (w : World) (hF : FvF f F) (hM : FvM m M) (hx : Hid (Fv .f32 x X)) :
    Calls Try.prog 15 #[setV f fu, .func (.func 22) #[] #[], m.val, .float .f32 x] w (StepPost w (stepY 2 fu F M X) (flM fu (rawM 2 fu F M X))) := by
  have hfl := flushed_any f fu
  have hst := implCan_any fu f m x F M X
  obtain ⟨b0, b1, b2, a1, a2⟩ := f
  obtain ⟨ma, mb, mc, md⟩ := m
  unfold MemN.val at *
  unfold setV at *
  have HF := Lib.hid hfl; clear hfl
  have HT := Lib.hid hst; clear hst
  have HX := Lib.hid hx; clear hx
  have HFF := Lib.hid hF; clear hF
  have HMM := Lib.hid hM; clear hM
  go_enter Try.func15, Try.ntmps15
  go_wp2_with (go_at_call 22; refine (HT.out _ HFF.out HMM.out HX.out).mono ?_; rintro e w' ⟨y, ⟨ra, rb, rc, rd⟩, rfl, hy, hm, hs⟩; have z0 : w.heap.size < w'.heap.size := (by have hsz := hs.size; simp only [Fl.size_drewN, Go.Deep.nblk_alloc, Go.Deep.nblk_setCell] at hsz; omega); have z1 : w.heap.size + 1 < w'.heap.size := (by have hsz := hs.size; simp only [Fl.size_drewN, Go.Deep.nblk_alloc, Go.Deep.nblk_setCell] at hsz; omega); have z2 : w.heap.size + 1 + 1 < w'.heap.size := (by have hsz := hs.size; simp only [Fl.size_drewN, Go.Deep.nblk_alloc, Go.Deep.nblk_setCell] at hsz; omega); obtain ⟨hcc, hff⟩ := Fl.sinCell hs; have HS := Lib.hid hs; clear hs; have HMV := Lib.hid hm; clear hm; unfold MemN.val)
  have i0 : ∀ w, (Instr.index 48 (.agg #[.float .f32 ra, .float .f32 rb, .float .f32 rc, .float .f32 rd]) (.int .i64 0)).run Try.prog w = .ok (.float .f32 ra) w := fun _ => by kernel_rfl
  have i1 : ∀ w, (Instr.index 48 (.agg #[.float .f32 ra, .float .f32 rb, .float .f32 rc, .float .f32 rd]) (.int .i64 1)).run Try.prog w = .ok (.float .f32 rb) w := fun _ => by kernel_rfl
  have i2 : ∀ w, (Instr.index 48 (.agg #[.float .f32 ra, .float .f32 rb, .float .f32 rc, .float .f32 rd]) (.int .i64 2)).run Try.prog w = .ok (.float .f32 rc) w := fun _ => by kernel_rfl
  have i3 : ∀ w, (Instr.index 48 (.agg #[.float .f32 ra, .float .f32 rb, .float .f32 rc, .float .f32 rd]) (.int .i64 3)).run Try.prog w = .ok (.float .f32 rd) w := fun _ => by kernel_rfl
  refine wp_loop_rounds 5 ?_
  rw [rounds_succ]
  go_wp2_with (go_at_call 23; refine (HF.out _ _ _ HMV.out.a).mono ?_; rintro e w1 ⟨p1, rfl, hp1, hs⟩; have y10 : w.heap.size < w1.heap.size := (by have hsz := hs.size; simp only [Fl.size_drewN, Go.Deep.nblk_alloc, Go.Deep.nblk_setCell] at hsz; omega); have y11 : w.heap.size + 1 < w1.heap.size := (by have hsz := hs.size; simp only [Fl.size_drewN, Go.Deep.nblk_alloc, Go.Deep.nblk_setCell] at hsz; omega); have y12 : w.heap.size + 1 + 1 < w1.heap.size := (by have hsz := hs.size; simp only [Fl.size_drewN, Go.Deep.nblk_alloc, Go.Deep.nblk_setCell] at hsz; omega); obtain ⟨hc1, hf1⟩ := Fl.sinCell hs; have S1 := Lib.hid hs; clear hs)
  rw [rounds_succ]
  go_wp2_with (go_at_call 23; refine (HF.out _ _ _ HMV.out.b).mono ?_; rintro e w2 ⟨p2, rfl, hp2, hs⟩; have y20 : w.heap.size < w2.heap.size := (by have hsz := hs.size; simp only [Fl.size_drewN, Go.Deep.nblk_alloc, Go.Deep.nblk_setCell] at hsz; omega); have y21 : w.heap.size + 1 < w2.heap.size := (by have hsz := hs.size; simp only [Fl.size_drewN, Go.Deep.nblk_alloc, Go.Deep.nblk_setCell] at hsz; omega); have y22 : w.heap.size + 1 + 1 < w2.heap.size := (by have hsz := hs.size; simp only [Fl.size_drewN, Go.Deep.nblk_alloc, Go.Deep.nblk_setCell] at hsz; omega); obtain ⟨hc2, hf2⟩ := Fl.sinCell hs; have S2 := Lib.hid hs; clear hs)
  rw [rounds_succ]
  go_wp2_with (go_at_call 23; refine (HF.out _ _ _ HMV.out.c).mono ?_; rintro e w3 ⟨p3, rfl, hp3, hs⟩; have y30 : w.heap.size < w3.heap.size := (by have hsz := hs.size; simp only [Fl.size_drewN, Go.Deep.nblk_alloc, Go.Deep.nblk_setCell] at hsz; omega); have y31 : w.heap.size + 1 < w3.heap.size := (by have hsz := hs.size; simp only [Fl.size_drewN, Go.Deep.nblk_alloc, Go.Deep.nblk_setCell] at hsz; omega); have y32 : w.heap.size + 1 + 1 < w3.heap.size := (by have hsz := hs.size; simp only [Fl.size_drewN, Go.Deep.nblk_alloc, Go.Deep.nblk_setCell] at hsz; omega); obtain ⟨hc3, hf3⟩ := Fl.sinCell hs; have S3 := Lib.hid hs; clear hs)
  rw [rounds_succ]
  go_wp2_with (go_at_call 23; refine (HF.out _ _ _ HMV.out.d).mono ?_; rintro e w4 ⟨p4, rfl, hp4, hs⟩; have y40 : w.heap.size < w4.heap.size := (by have hsz := hs.size; simp only [Fl.size_drewN, Go.Deep.nblk_alloc, Go.Deep.nblk_setCell] at hsz; omega); have y41 : w.heap.size + 1 < w4.heap.size := (by have hsz := hs.size; simp only [Fl.size_drewN, Go.Deep.nblk_alloc, Go.Deep.nblk_setCell] at hsz; omega); have y42 : w.heap.size + 1 + 1 < w4.heap.size := (by have hsz := hs.size; simp only [Fl.size_drewN, Go.Deep.nblk_alloc, Go.Deep.nblk_setCell] at hsz; omega); obtain ⟨hc4, hf4⟩ := Fl.sinCell hs; have S4 := Lib.hid hs; clear hs)
  rw [rounds_succ]
  go_wp2
  have a1 : w1.cell? ⟨w.heap.size + 1, 0, none⟩ = some (.float .f32 ra) := by simp [go_sem, hcc, hff, z0, z1, z2, hc1, hf1, y10, y11, y12, hc2, hf2, y20, y21, y22, hc3, hf3, y30, y31, y32, hc4, hf4, y40, y41, y42]
  have a2 : w2.cell? ⟨w.heap.size + 1, 1, none⟩ = some (.float .f32 rb) := by simp [go_sem, hcc, hff, z0, z1, z2, hc1, hf1, y10, y11, y12, hc2, hf2, y20, y21, y22, hc3, hf3, y30, y31, y32, hc4, hf4, y40, y41, y42]
  have a3 : w3.cell? ⟨w.heap.size + 1, 2, none⟩ = some (.float .f32 rc) := by simp [go_sem, hcc, hff, z0, z1, z2, hc1, hf1, y10, y11, y12, hc2, hf2, y20, y21, y22, hc3, hf3, y30, y31, y32, hc4, hf4, y40, y41, y42]
  have e0 : w4.cell? ⟨w.heap.size + 1, 0, none⟩ = some (.float .f32 p1) := by simp [go_sem, hcc, hff, z0, z1, z2, hc1, hf1, y10, y11, y12, hc2, hf2, y20, y21, y22, hc3, hf3, y30, y31, y32, hc4, hf4, y40, y41, y42, World.cell?_setCell_same _ _ _ a1]
  have e1 : w4.cell? ⟨w.heap.size + 1, 1, none⟩ = some (.float .f32 p2) := by simp [go_sem, hcc, hff, z0, z1, z2, hc1, hf1, y10, y11, y12, hc2, hf2, y20, y21, y22, hc3, hf3, y30, y31, y32, hc4, hf4, y40, y41, y42, World.cell?_setCell_same _ _ _ a2]
  have e2 : w4.cell? ⟨w.heap.size + 1, 2, none⟩ = some (.float .f32 p3) := by simp [go_sem, hcc, hff, z0, z1, z2, hc1, hf1, y10, y11, y12, hc2, hf2, y20, y21, y22, hc3, hf3, y30, y31, y32, hc4, hf4, y40, y41, y42, World.cell?_setCell_same _ _ _ a3]
  have e3 : w4.cell? ⟨w.heap.size + 1, 3, none⟩ = some (.float .f32 rd) := by simp [go_sem, hcc, hff, z0, z1, z2, hc1, hf1, y10, y11, y12, hc2, hf2, y20, y21, y22, hc3, hf3, y30, y31, y32, hc4, hf4, y40, y41, y42]
  have g0 : w4.cell? ⟨w.heap.size + 1 + 1, 0, none⟩ = some (.float .f32 0) := by simp [go_sem, hcc, hff, z0, z1, z2, hc1, hf1, y10, y11, y12, hc2, hf2, y20, y21, y22, hc3, hf3, y30, y31, y32, hc4, hf4, y40, y41, y42]
  have g1 : w4.cell? ⟨w.heap.size + 1 + 1, 1, none⟩ = some (.float .f32 0) := by simp [go_sem, hcc, hff, z0, z1, z2, hc1, hf1, y10, y11, y12, hc2, hf2, y20, y21, y22, hc3, hf3, y30, y31, y32, hc4, hf4, y40, y41, y42]
  have g2 : w4.cell? ⟨w.heap.size + 1 + 1, 2, none⟩ = some (.float .f32 0) := by simp [go_sem, hcc, hff, z0, z1, z2, hc1, hf1, y10, y11, y12, hc2, hf2, y20, y21, y22, hc3, hf3, y30, y31, y32, hc4, hf4, y40, y41, y42]
  have g3 : w4.cell? ⟨w.heap.size + 1 + 1, 3, none⟩ = some (.float .f32 0) := by simp [go_sem, hcc, hff, z0, z1, z2, hc1, hf1, y10, y11, y12, hc2, hf2, y20, y21, y22, hc3, hf3, y30, y31, y32, hc4, hf4, y40, y41, y42]
  have gf : ∀ i, w4.frozen? ⟨w.heap.size + 1 + 1, i, none⟩ = false := fun i => by simp [go_sem, hcc, hff, z0, z1, z2, hc1, hf1, y10, y11, y12, hc2, hf2, y20, y21, y22, hc3, hf3, y30, y31, y32, hc4, hf4, y40, y41, y42]
  clear hc1 hc2 hc3 hc4 hf1 hf2 hf3 hf4 hcc hff
  refine Lo.wp_loose_tail [] 3 (by kernel_rfl) (by kernel_rfl) ?_
  simp only [List.take_succ_cons, List.take_zero, List.drop_succ_cons, List.drop_zero]
  repeat (first
    | (refine Lo.wpL_move rfl _ (.inl rfl) (by decide) ?_; simp only [Act.put, List.setIfInBounds_toArray, List.set_cons_succ, List.set_cons_zero])
    | (refine Lo.wpL_move rfl _ (.inr rfl) (by decide) ?_; simp only [Act.put, List.setIfInBounds_toArray, List.set_cons_succ, List.set_cons_zero])
    | (refine Lo.wpL_fop rfl _ _ _ _ rfl rfl (by decide) _ _ _ _ _ rfl rfl (by assumption) (by assumption) ?_; intro rr hrr; simp only [Act.put, List.setIfInBounds_toArray, List.set_cons_succ, List.set_cons_zero])
    | (refine Lo.wpL_wide rfl _ _ _ rfl (by decide) _ _ rfl (by kernel_rfl) (by kernel_rfl) (by assumption) ?_; intro rr hrr; simp only [Act.put, List.setIfInBounds_toArray, List.set_cons_succ, List.set_cons_zero])
    | (refine Lo.wpL_quiet rfl (by decide) (fun K hK => ?_); go_big_quiet_op; (refine hK _ ?_; clear hK K)))
  refine Lo.wpL_nil ?_
  refine Lo.after_nil ?_; intro nq
  go_wp2
  exact bodyPost_ret (v := .tuple #[.float .f32 y, .agg #[.float .f32 p1, .float .f32 p2, .float .f32 p3, .float .f32 p4]]) (by simp [results, Try.results15, go_sem, g0, g1, g2, g3]) rfl
    ⟨y, ⟨p1, p2, p3, p4⟩, rfl, hy, ⟨hp1, hp2, hp3, hp4⟩, by (repeat (first | (with_reducible refine Fl.sinDrew ?_) | (with_reducible refine World.Since.drew ?_) | (with_reducible refine Fl.sinSet ?_ ?_; rotate_left) | (with_reducible refine Fl.sinAlloc ?_ ?_; rotate_left) | with_reducible exact World.Since.refl _ _ | with_reducible assumption | (with_reducible refine Fl.sinStep (by with_reducible assumption) ?_))); all_goals (first | omega | (simp; done) | (simp; omega) | (simp [go_sem]; done) | (simp [go_sem]; omega))⟩


theorem stepM_raw (k : Nat) (fu : Bool) (F : Fil) (M : Mem) (X : O) : stepM k fu F M X = flM fu (rawM k fu F M X) := by
  match k with
  | 0 => rfl
  | 1 => rfl
  | n + 2 => rfl

set_option maxRecDepth 100000 in
theorem cellsOf_any (m : MemN) (w : World) :
    Calls Try.prog 14 #[m.val] w fun e w' => e = .returned m.val ∧ w.Since w.heap.size w' := by
  obtain ⟨ma, mb, mc, md⟩ := m
  unfold MemN.val
  go_enter Try.func14, Try.ntmps14
  go_wp2
  exact bodyPost_ret (v := .agg #[.float .f32 ma, .float .f32 mb, .float .f32 mc, .float .f32 md]) (by simp [results, Try.results14, go_sem]) rfl ⟨rfl, by (repeat (first | (with_reducible refine Fl.sinDrew ?_) | (with_reducible refine World.Since.drew ?_) | (with_reducible refine Fl.sinSet ?_ ?_; rotate_left) | (with_reducible refine Fl.sinAlloc ?_ ?_; rotate_left) | with_reducible exact World.Since.refl _ _ | with_reducible assumption | (with_reducible refine Fl.sinStep (by with_reducible assumption) ?_))); all_goals (first | omega | (simp; done) | (simp; omega) | (simp [go_sem]; done) | (simp [go_sem]; omega))⟩

set_option maxRecDepth 100000 in
theorem memory_any (m : MemN) (w : World) :
    Calls Try.prog 17 #[m.val] w fun e w' => e = .returned m.val ∧ w.Since w.heap.size w' := by
  obtain ⟨ma, mb, mc, md⟩ := m
  unfold MemN.val
  go_enter Try.func17, Try.ntmps17
  go_wp2
  exact bodyPost_ret (v := .agg #[.float .f32 ma, .float .f32 mb, .float .f32 mc, .float .f32 md]) (by simp [results, Try.results17, go_sem]) rfl ⟨rfl, by (repeat (first | (with_reducible refine Fl.sinDrew ?_) | (with_reducible refine World.Since.drew ?_) | (with_reducible refine Fl.sinSet ?_ ?_; rotate_left) | (with_reducible refine Fl.sinAlloc ?_ ?_; rotate_left) | with_reducible exact World.Since.refl _ _ | with_reducible assumption | (with_reducible refine Fl.sinStep (by with_reducible assumption) ?_))); all_goals (first | omega | (simp; done) | (simp; omega) | (simp [go_sem]; done) | (simp [go_sem]; omega))⟩

end Go.Proofs.Ytipdgnhbmfmhnaa
