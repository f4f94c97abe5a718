/- A filter's step at the face: the model's, the program's, the law. -/
import Derived.Test.YtebocaicebolaaaGd
set_option linter.unusedVariables false
set_option linter.unusedSimpArgs false
namespace Go.Proofs.Ytebocaicebolaaa
open Fl Go.RowKit
def FSPost (w : World) (ok : Bool) (Y : O) (M : Mem) (e : Ending) (w' : World) : Prop :=
  ∃ (y : Nat) (m : MemN), e = .returned (.tuple #[.float .f32 y, m.val, .bool ok]) ∧ Hid (Fv .f32 y Y) ∧ FvM m M ∧ w.Since w.heap.size w'
@[go_sem] theorem MemN.val_mk (a b c d : Nat) : MemN.val ⟨a, b, c, d⟩ = .agg #[.float .f32 a, .float .f32 b, .float .f32 c, .float .f32 d] := rfl
theorem sinUD {w v : World} (h : w.drew.Since w.drew.heap.size v) : w.Since w.heap.size v := ⟨h.os, h.tape, h.output, h.size, h.block⟩
def noM : Mem := ⟨some 0, some 0, some 0, some 0⟩
theorem fvNo : FvM ⟨0, 0, 0, 0⟩ noM := ⟨fvZ, fvZ, fvZ, fvZ⟩
theorem l02Form_any (n : Int) (b : Bool) (w : World) (h : inB n 0 2 = b) : Calls Try.prog 58 #[.int .i64 n] w fun e w' => e = .returned (.bool b) ∧ w = w' := by
  subst h
  go_enter Try.func58, Try.ntmps58
  go_wp2_with (go_at_call 62; refine (l00In_any _ _ _ _).mono ?_; rintro e w' ⟨rfl, rfl⟩)
  go_ret
  exact ⟨rfl, rfl⟩

theorem stepOf_out (n : Int) (w : World) (h : inB n 0 2 = false) : Calls Try.prog 63 #[.int .i64 n] w fun e w' => e = .returned (.tuple #[.nilFunc, .bool false]) ∧ w = w' := by
  have h0 : (n == 0) = false := by rw [beq_eq_false_iff_ne]; rintro rfl; exact absurd h (by decide)
  have h1 : (n == 1) = false := by rw [beq_eq_false_iff_ne]; rintro rfl; exact absurd h (by decide)
  have h2 : (n == 2) = false := by rw [beq_eq_false_iff_ne]; rintro rfl; exact absurd h (by decide)
  clear h
  go_enter Try.func63, Try.ntmps63
  go_wp2
  go_ret2
  exact ⟨rfl, rfl⟩
set_option maxRecDepth 100000 in
theorem implFS_out (f : FilN) (n : Int) (fu : Bool) (m : MemN) (x : Nat) (w : World) (h : inB n 0 2 = false) :
    Calls Try.prog 46 #[f.val, .int .i64 n, .bool fu, m.val, .float .f32 x] w (FSPost w false (some 0) noM) := by
  obtain ⟨b0, b1, b2, a1, a2⟩ := f
  obtain ⟨ma, mb, mc, md⟩ := m
  unfold MemN.val FilN.val
  go_enter Try.func46, Try.ntmps46
  go_wp2_with (go_at_call 63; refine (stepOf_out _ _ h).mono ?_; rintro e w' ⟨rfl, rfl⟩)
  exact bodyPost_ret (v := .tuple #[.float .f32 0, .agg #[.float .f32 0, .float .f32 0, .float .f32 0, .float .f32 0], .bool false]) (by simp [results, Try.results46, go_sem]) rfl ⟨0, ⟨0, 0, 0, 0⟩, rfl, fvZ, fvNo, by (repeat (first | (with_reducible refine Fl.sinDrew ?_) | (with_reducible refine World.Since.drew ?_) | (with_reducible refine Fl.sinSet ?_ ?_; rotate_left) | (with_reducible refine Fl.sinAlloc ?_ ?_; rotate_left) | with_reducible exact World.Since.refl _ _ | with_reducible assumption | (with_reducible refine Fl.sinStep (by with_reducible assumption) ?_))); all_goals (first | omega | (simp; done) | (simp; omega) | (simp [go_sem]; done) | (simp [go_sem]; omega))⟩

theorem stepOf_Dir (w : World) : Calls Try.prog 63 #[.int .i64 0] w fun e w' => e = .returned (.tuple #[.func (.func 69) #[] #[], .bool true]) ∧ w = w' := by
  go_enter Try.func63, Try.ntmps63
  go_wp2
  go_ret2
  exact ⟨rfl, rfl⟩
theorem stepOf_Tur (w : World) : Calls Try.prog 63 #[.int .i64 1] w fun e w' => e = .returned (.tuple #[.func (.func 88) #[] #[], .bool true]) ∧ w = w' := by
  go_enter Try.func63, Try.ntmps63
  go_wp2
  go_ret2
  exact ⟨rfl, rfl⟩
theorem stepOf_Can (w : World) : Calls Try.prog 63 #[.int .i64 2] w fun e w' => e = .returned (.tuple #[.func (.func 89) #[] #[], .bool true]) ∧ w = w' := by
  go_enter Try.func63, Try.ntmps63
  go_wp2
  go_ret2
  exact ⟨rfl, rfl⟩
set_option maxHeartbeats 16000000 in
set_option maxRecDepth 100000 in
theorem implFS_gen (k : FuncId) (n : Int) (f : FilN) (fu : Bool) (m : MemN) (x : Nat) (Y : O) (M : Mem) (w : World)
    (hso : ∀ w, Calls Try.prog 63 #[.int .i64 n] w fun e w' => e = .returned (.tuple #[.func (.func k) #[] #[], .bool true]) ∧ w = w')
    (hst : ∀ w, Calls Try.prog 74 #[setV f fu, .func (.func k) #[] #[], m.val, .float .f32 x] w (StepPost w Y M)) :
    Calls Try.prog 46 #[f.val, .int .i64 n, .bool fu, m.val, .float .f32 x] w (FSPost w true Y M) := by
  have hco := cellsOf_any m
  obtain ⟨b0, b1, b2, a1, a2⟩ := f
  obtain ⟨ma, mb, mc, md⟩ := m
  unfold setV at hst
  unfold MemN.val at *
  unfold FilN.val at *
  have HT := Lib.hid hst; clear hst
  have HCO := Lib.hid hco; clear hco
  have HSO := Lib.hid hso; clear hso
  go_enter Try.func46, Try.ntmps46
  go_wp2_with (go_at_call 63; refine (HSO.out _).mono ?_; rintro e w' ⟨rfl, rfl⟩)
  go_region_with (first | (go_at_call 73; refine (HCO.out _).mono ?_; rintro e w1 ⟨rfl, hs⟩; (try replace hs := sinUD hs); have y10 : w.heap.size < w1.heap.size := (by have hsz := hs.size; (try simp only [World.drew, World.drewN, Go.Deep.nblk_alloc, Go.Deep.nblk_setCell] at hsz); omega); have y11 : w.heap.size + 1 < w1.heap.size := (by have hsz := hs.size; (try simp only [World.drew, World.drewN, Go.Deep.nblk_alloc, Go.Deep.nblk_setCell] at hsz); omega); have y12 : w.heap.size + 1 + 1 < w1.heap.size := (by have hsz := hs.size; (try simp only [World.drew, World.drewN, Go.Deep.nblk_alloc, Go.Deep.nblk_setCell] at hsz); omega); (try have y13 : w.heap.size + 1 + 1 + 1 < w1.heap.size := (by have hsz := hs.size; (try simp only [World.drew, World.drewN, Go.Deep.nblk_alloc, Go.Deep.nblk_setCell] at hsz); omega)); obtain ⟨hc1, hf1⟩ := Fl.sinCell hs; have S1 := Lib.hid hs; clear hs) | (go_at_call 74; refine (HT.out _).mono ?_; rintro e w2 ⟨y, ⟨ra, rb, rc, rd⟩, rfl, hy, hm, hs⟩; (try replace hs := sinUD hs); have y20 : w.heap.size < w2.heap.size := (by have hsz := hs.size; (try simp only [World.drew, World.drewN, Go.Deep.nblk_alloc, Go.Deep.nblk_setCell] at hsz); omega); have y21 : w.heap.size + 1 < w2.heap.size := (by have hsz := hs.size; (try simp only [World.drew, World.drewN, Go.Deep.nblk_alloc, Go.Deep.nblk_setCell] at hsz); omega); have y22 : w.heap.size + 1 + 1 < w2.heap.size := (by have hsz := hs.size; (try simp only [World.drew, World.drewN, Go.Deep.nblk_alloc, Go.Deep.nblk_setCell] at hsz); omega); (try have y23 : w.heap.size + 1 + 1 + 1 < w2.heap.size := (by have hsz := hs.size; (try simp only [World.drew, World.drewN, Go.Deep.nblk_alloc, Go.Deep.nblk_setCell] at hsz); omega)); obtain ⟨hc2, hf2⟩ := Fl.sinCell hs; have S2 := Lib.hid hs; clear hs; have HMV := Lib.hid hm; clear hm; simp only [MemN.val_mk]))
  all_goals
    go_wp2_with (go_at_call 75; refine (memory_any ⟨ra, rb, rc, rd⟩ _).mono ?_; simp only [MemN.val_mk]; rintro e w3 ⟨rfl, hs⟩; (try replace hs := sinUD hs); have y30 : w.heap.size < w3.heap.size := (by have hsz := hs.size; (try simp only [World.drew, World.drewN, Go.Deep.nblk_alloc, Go.Deep.nblk_setCell] at hsz); omega); have y31 : w.heap.size + 1 < w3.heap.size := (by have hsz := hs.size; (try simp only [World.drew, World.drewN, Go.Deep.nblk_alloc, Go.Deep.nblk_setCell] at hsz); omega); have y32 : w.heap.size + 1 + 1 < w3.heap.size := (by have hsz := hs.size; (try simp only [World.drew, World.drewN, Go.Deep.nblk_alloc, Go.Deep.nblk_setCell] at hsz); omega); obtain ⟨hc3, hf3⟩ := Fl.sinCell hs; have S3 := Lib.hid hs; clear hs)
    exact bodyPost_ret (v := .tuple #[.float .f32 y, .agg #[.float .f32 ra, .float .f32 rb, .float .f32 rc, .float .f32 rd], .bool true]) (by simp [results, Try.results46, go_sem, hc1, hf1, y10, y11, y12, hc2, hf2, y20, y21, y22, hc3, hf3, y30, y31, y32]) rfl ⟨y, ⟨ra, rb, rc, rd⟩, rfl, hy, HMV.out, by (repeat (first | (with_reducible refine Fl.sinDrew ?_) | (with_reducible refine World.Since.drew ?_) | (with_reducible refine Fl.sinSet ?_ ?_; rotate_left) | (with_reducible refine Fl.sinAlloc ?_ ?_; rotate_left) | with_reducible exact World.Since.refl _ _ | with_reducible assumption | (with_reducible refine Fl.sinStep (by with_reducible assumption) ?_))); all_goals (first | omega | (simp; done) | (simp; omega) | (simp [go_sem]; done) | (simp [go_sem]; omega))⟩

theorem implFS_Dir (f : FilN) (fu : Bool) (m : MemN) (x : Nat) (F : Fil) (M : Mem) (X : O) (w : World) (hF : FvF f F) (hM : FvM m M) (hx : Hid (Fv .f32 x X)) :
    Calls Try.prog 46 #[f.val, .int .i64 0, .bool fu, m.val, .float .f32 x] w (FSPost w true (stepY 0 fu F M X) (stepM 0 fu F M X)) := by
  rw [stepM_raw]
  exact implFS_gen _ _ f fu m x _ _ w stepOf_Dir fun W => nextDir_any fu f m x F M X W hF hM hx
theorem implFS_Tur (f : FilN) (fu : Bool) (m : MemN) (x : Nat) (F : Fil) (M : Mem) (X : O) (w : World) (hF : FvF f F) (hM : FvM m M) (hx : Hid (Fv .f32 x X)) :
    Calls Try.prog 46 #[f.val, .int .i64 1, .bool fu, m.val, .float .f32 x] w (FSPost w true (stepY 1 fu F M X) (stepM 1 fu F M X)) := by
  rw [stepM_raw]
  exact implFS_gen _ _ f fu m x _ _ w stepOf_Tur fun W => nextTur_any fu f m x F M X W hF hM hx
theorem implFS_Can (f : FilN) (fu : Bool) (m : MemN) (x : Nat) (F : Fil) (M : Mem) (X : O) (w : World) (hF : FvF f F) (hM : FvM m M) (hx : Hid (Fv .f32 x X)) :
    Calls Try.prog 46 #[f.val, .int .i64 2, .bool fu, m.val, .float .f32 x] w (FSPost w true (stepY 2 fu F M X) (stepM 2 fu F M X)) := by
  rw [stepM_raw]
  exact implFS_gen _ _ f fu m x _ _ w stepOf_Can fun W => nextCan_any fu f m x F M X W hF hM hx
end Go.Proofs.Ytebocaicebolaaa
