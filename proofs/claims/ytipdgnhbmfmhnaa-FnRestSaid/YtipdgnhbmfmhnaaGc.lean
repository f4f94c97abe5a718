/- The program's step of a filter. -/
import Derived.Test.YtipdgnhbmfmhnaaGb
import Derived.Outline
set_option linter.unusedVariables false
set_option linter.unusedSimpArgs false
namespace Go.Proofs.Ytipdgnhbmfmhnaa
open Fl Go.RowKit
def setV (f : FilN) (fu : Bool) : Value := .agg #[.float .f32 f.b0, .float .f32 f.b1, .float .f32 f.b2, .float .f32 f.a1, .float .f32 f.a2, .bool fu]
def rawM (form : Nat) (fu : Bool) (f : Fil) (m : Mem) (x : O) : Mem :=
  match form with
  | 0 => ⟨x, m.a, dirY fu f.b0 f.b1 f.b2 f.a1 f.a2 m.a m.b m.c m.d x, m.c⟩
  | 1 => ⟨turA f.b1 f.a1 m.b x (turY fu f.b0 m.a x), turB f.b2 f.a2 x (turY fu f.b0 m.a x), some 0, some 0⟩
  | _ => ⟨canW fu f.a1 f.a2 m.a m.b x, m.a, some 0, some 0⟩

theorem implFlush_fv {b : Nat} {F : O} (h : Hid (Fv .f32 b F)) (w : World) : Calls Try.prog 28 #[.float .f32 b] w fun e w' => e = .returned (.float .f32 (flushN b)) ∧ w = w' :=
  implFlush_any b w h.out.1

theorem flushed_any (f : FilN) (fu : Bool) (x : Nat) (X : O) (w : World) (hx : Hid (Fv .f32 x X)) :
    Calls Try.prog 23 #[setV f fu, .float .f32 x] w fun e w' => ∃ r : Nat, e = .returned (.float .f32 r) ∧ Hid (Fv .f32 r (flO fu X)) ∧ w.Since w.heap.size w' := by
  have h2 := flO_fv hx
  obtain ⟨b0, b1, b2, a1, a2⟩ := f
  unfold setV
  cases fu
  · have h3 := h2 false
    clear h2
    go_enter Try.func23, Try.ntmps23
    go_wp2
    go_ret
    exact ⟨x, rfl, h3, by (repeat (first | (with_reducible refine Fl.sinDrew ?_) | (with_reducible refine World.Since.drew ?_) | (with_reducible refine Fl.sinSet ?_ ?_; rotate_left) | (with_reducible refine Fl.sinAlloc ?_ ?_; rotate_left) | with_reducible exact World.Since.refl _ _ | with_reducible assumption | (with_reducible refine Fl.sinStep (by with_reducible assumption) ?_))); all_goals (first | omega | (simp; done) | (simp; omega) | (simp [go_sem]; done) | (simp [go_sem]; omega))⟩
  · have h3 := h2 true
    clear h2
    go_enter Try.func23, Try.ntmps23
    go_wp2_with (go_at_call 28; refine (implFlush_fv hx _).mono ?_; rintro e w' ⟨rfl, rfl⟩)
    go_ret
    exact ⟨flushN x, rfl, h3, by (repeat (first | (with_reducible refine Fl.sinDrew ?_) | (with_reducible refine World.Since.drew ?_) | (with_reducible refine Fl.sinSet ?_ ?_; rotate_left) | (with_reducible refine Fl.sinAlloc ?_ ?_; rotate_left) | with_reducible exact World.Since.refl _ _ | with_reducible assumption | (with_reducible refine Fl.sinStep (by with_reducible assumption) ?_))); all_goals (first | omega | (simp; done) | (simp; omega) | (simp [go_sem]; done) | (simp [go_sem]; omega))⟩

set_option maxHeartbeats 4000000 in
set_option maxRecDepth 100000 in
theorem implDir_any (fu : Bool) (f : FilN) (m : MemN) (x : Nat) (F : Fil) (M : Mem) (X : O) (w : World) (hF : FvF f F) (hM : FvM m M) (hx : Hid (Fv .f32 x X)) :
    Calls Try.prog 20 #[setV f fu, m.val, .float .f32 x] w (StepPost w (stepY 0 fu F M X) (rawM 0 fu F M X)) := by
  have hfl := flushed_any f fu
  obtain ⟨b0, b1, b2, a1, a2⟩ := f
  obtain ⟨ma, mb, mc, md⟩ := m
  obtain ⟨f0, f1, f2, f3, f4⟩ := hF
  obtain ⟨m0, m1, m2, m3⟩ := hM
  simp only at f0 f1 f2 f3 f4 m0 m1 m2 m3
  unfold MemN.val
  unfold setV at *
  have HF := Lib.hid hfl; clear hfl
  go_enter Try.func20, Try.ntmps20
  go_wp2_with (first | (go_at_call 23; refine (HF.out _ _ _ (by assumption)).mono ?_; rintro e w' ⟨y, rfl, hy, hs⟩; have z0 : w.heap.size < w'.heap.size := (by have hsz := hs.size; simp only [Fl.size_drewN, Go.Deep.nblk_alloc, Go.Deep.nblk_setCell] at hsz; omega); have z1 : w.heap.size + 1 < w'.heap.size := (by have hsz := hs.size; simp only [Fl.size_drewN, Go.Deep.nblk_alloc, Go.Deep.nblk_setCell] at hsz; omega); have z2 : w.heap.size + 1 + 1 < w'.heap.size := (by have hsz := hs.size; simp only [Fl.size_drewN, Go.Deep.nblk_alloc, Go.Deep.nblk_setCell] at hsz; omega); obtain ⟨hcc, hff⟩ := Fl.sinCell hs; have HS := Lib.hid hs; clear hs) | (with_reducible_and_instances refine Lo.wpList_fo _ rfl _ _ _ _ _ rfl _ _ _ _ _ rfl rfl rfl (by assumption) (by assumption) ?_; intro rr nn hrr))
  refine Lo.wp_loose_tail [] 9 (by kernel_rfl) (by kernel_rfl) ?_
  simp only [List.take_succ_cons, List.take_zero, List.drop_succ_cons, List.drop_zero]
  repeat (first
    | (refine Lo.wpL_move rfl _ (.inl rfl) (by decide) ?_; simp only [Act.put, List.setIfInBounds_toArray, List.set_cons_succ, List.set_cons_zero])
    | (refine Lo.wpL_move rfl _ (.inr rfl) (by decide) ?_; simp only [Act.put, List.setIfInBounds_toArray, List.set_cons_succ, List.set_cons_zero])
    | (refine Lo.wpL_fop rfl _ _ _ _ rfl rfl (by decide) _ _ _ _ _ rfl rfl (by assumption) (by assumption) ?_; intro rr hrr; simp only [Act.put, List.setIfInBounds_toArray, List.set_cons_succ, List.set_cons_zero])
    | (refine Lo.wpL_wide rfl _ _ _ rfl (by decide) _ _ rfl (by kernel_rfl) (by kernel_rfl) (by assumption) ?_; intro rr hrr; simp only [Act.put, List.setIfInBounds_toArray, List.set_cons_succ, List.set_cons_zero])
    | (refine Lo.wpL_quiet rfl (by decide) (fun K hK => ?_); go_big_quiet_op; (refine hK _ ?_; clear hK K)))
  refine Lo.wpL_nil ?_
  refine Lo.after_nil ?_; intro nq
  go_wp2
  exact bodyPost_ret (v := .tuple #[.float .f32 y, .agg #[.float .f32 x, .float .f32 ma, .float .f32 y, .float .f32 mc]]) (by simp [results, Try.results20, go_sem, hcc, hff]) rfl
    ⟨y, ⟨x, ma, y, mc⟩, rfl, hy, ⟨hx, m0, hy, m2⟩, by (repeat (first | (with_reducible refine Fl.sinDrew ?_) | (with_reducible refine World.Since.drew ?_) | (with_reducible refine Fl.sinSet ?_ ?_; rotate_left) | (with_reducible refine Fl.sinAlloc ?_ ?_; rotate_left) | with_reducible exact World.Since.refl _ _ | with_reducible assumption | (with_reducible refine Fl.sinStep (by with_reducible assumption) ?_))); all_goals (first | omega | (simp; done) | (simp; omega) | (simp [go_sem]; done) | (simp [go_sem]; omega))⟩

set_option maxHeartbeats 4000000 in
set_option maxRecDepth 100000 in
theorem implTur_any (fu : Bool) (f : FilN) (m : MemN) (x : Nat) (F : Fil) (M : Mem) (X : O) (w : World) (hF : FvF f F) (hM : FvM m M) (hx : Hid (Fv .f32 x X)) :
    Calls Try.prog 21 #[setV f fu, m.val, .float .f32 x] w (StepPost w (stepY 1 fu F M X) (rawM 1 fu F M X)) := by
  have hfl := flushed_any f fu
  obtain ⟨b0, b1, b2, a1, a2⟩ := f
  obtain ⟨ma, mb, mc, md⟩ := m
  obtain ⟨f0, f1, f2, f3, f4⟩ := hF
  obtain ⟨m0, m1, m2, m3⟩ := hM
  simp only at f0 f1 f2 f3 f4 m0 m1 m2 m3
  unfold MemN.val
  unfold setV at *
  have HF := Lib.hid hfl; clear hfl
  go_enter Try.func21, Try.ntmps21
  go_wp2_with (first | (go_at_call 23; refine (HF.out _ _ _ (by assumption)).mono ?_; rintro e w' ⟨y, rfl, hy, hs⟩; have z0 : w.heap.size < w'.heap.size := (by have hsz := hs.size; simp only [Fl.size_drewN, Go.Deep.nblk_alloc, Go.Deep.nblk_setCell] at hsz; omega); have z1 : w.heap.size + 1 < w'.heap.size := (by have hsz := hs.size; simp only [Fl.size_drewN, Go.Deep.nblk_alloc, Go.Deep.nblk_setCell] at hsz; omega); have z2 : w.heap.size + 1 + 1 < w'.heap.size := (by have hsz := hs.size; simp only [Fl.size_drewN, Go.Deep.nblk_alloc, Go.Deep.nblk_setCell] at hsz; omega); obtain ⟨hcc, hff⟩ := Fl.sinCell hs; have HS := Lib.hid hs; clear hs) | (with_reducible_and_instances refine Lo.wpList_fo _ rfl _ _ _ _ _ rfl _ _ _ _ _ rfl rfl rfl (by assumption) (by assumption) ?_; intro rr nn hrr))
  rename_i _ _ _ _ _ _ rA _ hA _ _ _ _ _ _
  exact bodyPost_ret (v := .tuple #[.float .f32 y, .agg #[.float .f32 rA, .float .f32 rr, .float .f32 0, .float .f32 0]]) (by simp [results, Try.results21, go_sem, hcc, hff]) rfl
    ⟨y, ⟨rA, rr, 0, 0⟩, rfl, hy, ⟨hA, hrr, fvZ, fvZ⟩, by (repeat (first | (with_reducible refine Fl.sinDrew ?_) | (with_reducible refine World.Since.drew ?_) | (with_reducible refine Fl.sinSet ?_ ?_; rotate_left) | (with_reducible refine Fl.sinAlloc ?_ ?_; rotate_left) | with_reducible exact World.Since.refl _ _ | with_reducible assumption | (with_reducible refine Fl.sinStep (by with_reducible assumption) ?_))); all_goals (first | omega | (simp; done) | (simp; omega) | (simp [go_sem]; done) | (simp [go_sem]; omega))⟩

set_option maxHeartbeats 4000000 in
set_option maxRecDepth 100000 in
theorem implCan_any (fu : Bool) (f : FilN) (m : MemN) (x : Nat) (F : Fil) (M : Mem) (X : O) (w : World) (hF : FvF f F) (hM : FvM m M) (hx : Hid (Fv .f32 x X)) :
    Calls Try.prog 22 #[setV f fu, m.val, .float .f32 x] w (StepPost w (stepY 2 fu F M X) (rawM 2 fu F M X)) := by
  have hfl := flushed_any f fu
  obtain ⟨b0, b1, b2, a1, a2⟩ := f
  obtain ⟨ma, mb, mc, md⟩ := m
  obtain ⟨f0, f1, f2, f3, f4⟩ := hF
  obtain ⟨m0, m1, m2, m3⟩ := hM
  simp only at f0 f1 f2 f3 f4 m0 m1 m2 m3
  unfold MemN.val
  unfold setV at *
  have HF := Lib.hid hfl; clear hfl
  go_enter Try.func22, Try.ntmps22
  go_wp2_with (first | (go_at_call 23; refine (HF.out _ _ _ (by assumption)).mono ?_; rintro e w' ⟨y, rfl, hy, hs⟩; have z0 : w.heap.size < w'.heap.size := (by have hsz := hs.size; simp only [Fl.size_drewN, Go.Deep.nblk_alloc, Go.Deep.nblk_setCell] at hsz; omega); have z1 : w.heap.size + 1 < w'.heap.size := (by have hsz := hs.size; simp only [Fl.size_drewN, Go.Deep.nblk_alloc, Go.Deep.nblk_setCell] at hsz; omega); have z2 : w.heap.size + 1 + 1 < w'.heap.size := (by have hsz := hs.size; simp only [Fl.size_drewN, Go.Deep.nblk_alloc, Go.Deep.nblk_setCell] at hsz; omega); obtain ⟨hcc, hff⟩ := Fl.sinCell hs; have HS := Lib.hid hs; clear hs) | (with_reducible_and_instances refine Lo.wpList_fo _ rfl _ _ _ _ _ rfl _ _ _ _ _ rfl rfl rfl (by assumption) (by assumption) ?_; intro rr nn hrr))
  go_region_with (go_at_call 23; refine (HF.out _ _ _ (by assumption)).mono ?_; rintro e w2 ⟨z, rfl, hz, hs0⟩; have hs : w'.Since w'.heap.size w2 := ⟨hs0.os, hs0.tape, hs0.output, hs0.size, hs0.block⟩; clear hs0; have z3 : w.heap.size + 1 + 1 < w2.heap.size := Nat.lt_of_lt_of_le z2 hs.size; obtain ⟨hcc2, hff2⟩ := Fl.sinCell hs; have HS2 := Lib.hid hs; clear hs)
  all_goals
    go_wp2
    exact bodyPost_ret (v := .tuple #[.float .f32 z, .agg #[.float .f32 y, .float .f32 ma, .float .f32 0, .float .f32 0]]) (by simp [results, Try.results22, go_sem, hcc, hff, hcc2, hff2, z0, z1, z2, z3]) rfl
      ⟨z, ⟨y, ma, 0, 0⟩, rfl, hz, ⟨hy, m0, fvZ, fvZ⟩, by (repeat (first | (with_reducible refine Fl.sinDrew ?_) | (with_reducible refine World.Since.drew ?_) | (with_reducible refine Fl.sinSet ?_ ?_; rotate_left) | (with_reducible refine Fl.sinAlloc ?_ ?_; rotate_left) | with_reducible exact World.Since.refl _ _ | with_reducible assumption | (with_reducible refine Fl.sinStep (by with_reducible assumption) ?_))); all_goals (first | omega | (simp; done) | (simp; omega) | (simp [go_sem]; done) | (simp [go_sem]; omega))⟩
end Go.Proofs.Ytipdgnhbmfmhnaa
