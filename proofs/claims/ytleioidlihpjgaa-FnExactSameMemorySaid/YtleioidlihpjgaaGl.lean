/- The law of SameMemory, walked. -/
import Derived.Test.YtleioidlihpjgaaGm
import Derived.Deep.DeepCutAuto
set_option linter.unusedVariables false
set_option linter.unusedSimpArgs false
namespace Go.Proofs.Ytleioidlihpjgaa
open Fl Go.RowKit
set_option maxHeartbeats 8000000 in
set_option maxRecDepth 100000 in
theorem lawSM_gen (m n : MemN) (C : Bool) (w : World)
    (hsp : ∀ w, Calls Try.prog 53 #[m.val, n.val] w fun e w' => e = .returned (.bool C) ∧ w.Since w.heap.size w')
    (him : ∀ w, Calls Try.prog 54 #[m.val, n.val] w fun e w' => e = .returned (.bool C) ∧ w.Since w.heap.size w') :
    Calls Try.prog 13 #[m.val, n.val] w fun e w' => e = .returned (.bool true) ∧ w.Since w.heap.size w' := by
  have htm := toMemory_any m
  have htn := toMemory_any n
  obtain ⟨ma, mb, mc, md⟩ := m
  obtain ⟨na, nb, nc, nd⟩ := n
  unfold MemN.val at *
  have HSP := Lib.hid hsp; have HIM := Lib.hid him; have HTM := Lib.hid htm; have HTN := Lib.hid htn
  clear hsp him htm htn
  cases C
  all_goals
    go_enter Try.func13, Try.ntmps13
    go_upto_region 1 with fail
    go_region_with (first | (go_at_call_of 17 (Value.float .f32 ma); ((with_reducible refine (HTM.out _).mono ?_); rintro e w1 ⟨rfl, hs⟩; (try replace hs := sinUD hs); (try have y10 : w.heap.size < w1.heap.size := (by have hsz := hs.size; (try simp only [World.drew, World.drewN, Go.Deep.nblk_alloc, Go.Deep.nblk_setCell] at hsz); omega)); (try have y11 : w.heap.size + 1 < w1.heap.size := (by have hsz := hs.size; (try simp only [World.drew, World.drewN, Go.Deep.nblk_alloc, Go.Deep.nblk_setCell] at hsz); omega)); (try have v1 : w.heap.size ≤ w1.heap.size := (by have hsz := hs.size; (try simp only [World.drew, World.drewN, Go.Deep.nblk_alloc, Go.Deep.nblk_setCell] at hsz); omega)); obtain ⟨hc1, hf1⟩ := Fl.sinCell hs; have S1 := Lib.hid hs; clear hs)) | (go_at_call_of 17 (Value.float .f32 na); ((with_reducible refine (HTN.out _).mono ?_); rintro e w2 ⟨rfl, hs⟩; (try replace hs := sinUD hs); (try have y20 : w.heap.size < w2.heap.size := (by have hsz := hs.size; (try simp only [World.drew, World.drewN, Go.Deep.nblk_alloc, Go.Deep.nblk_setCell] at hsz); omega)); (try have y21 : w.heap.size + 1 < w2.heap.size := (by have hsz := hs.size; (try simp only [World.drew, World.drewN, Go.Deep.nblk_alloc, Go.Deep.nblk_setCell] at hsz); omega)); (try have v2 : w.heap.size ≤ w2.heap.size := (by have hsz := hs.size; (try simp only [World.drew, World.drewN, Go.Deep.nblk_alloc, Go.Deep.nblk_setCell] at hsz); omega)); obtain ⟨hc2, hf2⟩ := Fl.sinCell hs; have S2 := Lib.hid hs; clear hs)) | (go_at_call 53; ((with_reducible refine (HSP.out _).mono ?_); rintro e w3 ⟨rfl, hs⟩; (try replace hs := sinUD hs); (try have y30 : w.heap.size < w3.heap.size := (by have hsz := hs.size; (try simp only [World.drew, World.drewN, Go.Deep.nblk_alloc, Go.Deep.nblk_setCell] at hsz); omega)); (try have y31 : w.heap.size + 1 < w3.heap.size := (by have hsz := hs.size; (try simp only [World.drew, World.drewN, Go.Deep.nblk_alloc, Go.Deep.nblk_setCell] at hsz); omega)); (try have v3 : w.heap.size ≤ w3.heap.size := (by have hsz := hs.size; (try simp only [World.drew, World.drewN, Go.Deep.nblk_alloc, Go.Deep.nblk_setCell] at hsz); omega)); obtain ⟨hc3, hf3⟩ := Fl.sinCell hs; have S3 := Lib.hid hs; clear hs)))
    all_goals
      go_wp2_with fail
      go_region_with (first | (go_at_call_of 17 (Value.float .f32 ma); ((with_reducible refine (HTM.out _).mono ?_); rintro e w4 ⟨rfl, hs⟩; (try replace hs := sinUD hs); (try have y40 : w.heap.size < w4.heap.size := (by have hsz := hs.size; (try simp only [World.drew, World.drewN, Go.Deep.nblk_alloc, Go.Deep.nblk_setCell] at hsz); omega)); (try have y41 : w.heap.size + 1 < w4.heap.size := (by have hsz := hs.size; (try simp only [World.drew, World.drewN, Go.Deep.nblk_alloc, Go.Deep.nblk_setCell] at hsz); omega)); (try have v4 : w.heap.size ≤ w4.heap.size := (by have hsz := hs.size; (try simp only [World.drew, World.drewN, Go.Deep.nblk_alloc, Go.Deep.nblk_setCell] at hsz); omega)); obtain ⟨hc4, hf4⟩ := Fl.sinCell hs; have S4 := Lib.hid hs; clear hs)) | (go_at_call_of 17 (Value.float .f32 na); ((with_reducible refine (HTN.out _).mono ?_); rintro e w5 ⟨rfl, hs⟩; (try replace hs := sinUD hs); (try have y50 : w.heap.size < w5.heap.size := (by have hsz := hs.size; (try simp only [World.drew, World.drewN, Go.Deep.nblk_alloc, Go.Deep.nblk_setCell] at hsz); omega)); (try have y51 : w.heap.size + 1 < w5.heap.size := (by have hsz := hs.size; (try simp only [World.drew, World.drewN, Go.Deep.nblk_alloc, Go.Deep.nblk_setCell] at hsz); omega)); (try have v5 : w.heap.size ≤ w5.heap.size := (by have hsz := hs.size; (try simp only [World.drew, World.drewN, Go.Deep.nblk_alloc, Go.Deep.nblk_setCell] at hsz); omega)); obtain ⟨hc5, hf5⟩ := Fl.sinCell hs; have S5 := Lib.hid hs; clear hs)) | (go_at_call 54; ((with_reducible refine (HIM.out _).mono ?_); rintro e w6 ⟨rfl, hs⟩; (try replace hs := sinUD hs); (try have y60 : w.heap.size < w6.heap.size := (by have hsz := hs.size; (try simp only [World.drew, World.drewN, Go.Deep.nblk_alloc, Go.Deep.nblk_setCell] at hsz); omega)); (try have y61 : w.heap.size + 1 < w6.heap.size := (by have hsz := hs.size; (try simp only [World.drew, World.drewN, Go.Deep.nblk_alloc, Go.Deep.nblk_setCell] at hsz); omega)); (try have v6 : w.heap.size ≤ w6.heap.size := (by have hsz := hs.size; (try simp only [World.drew, World.drewN, Go.Deep.nblk_alloc, Go.Deep.nblk_setCell] at hsz); omega)); obtain ⟨hc6, hf6⟩ := Fl.sinCell hs; have S6 := Lib.hid hs; clear hs)))
      all_goals
        go_wp2_with fail
        go_ret
        exact ⟨rfl, by (repeat (first | (with_reducible refine Fl.sinDrew ?_) | (with_reducible refine World.Since.drew ?_) | (with_reducible refine Fl.sinSet ?_ ?_; rotate_left) | (with_reducible refine Fl.sinAlloc ?_ ?_; rotate_left) | with_reducible exact World.Since.refl _ _ | with_reducible assumption | (with_reducible refine Fl.sinStep (by with_reducible assumption) ?_))); all_goals (first | omega | (simp; done) | (simp; omega) | (simp [go_sem]; done) | (simp [go_sem]; omega))⟩
theorem wSM (m n : MemN) (w : World) (hm : FvM m (ofM m)) (hn : FvM n (ofM n)) :
    Calls Try.prog 13 #[m.val, n.val] w fun e w' => e = .returned (.bool true) ∧ w.Since w.heap.size w' :=
  lawSM_gen m n _ w (fun w => specSM_any m n w hm hn _ _ _ _ rfl rfl rfl rfl) (fun w => implSM_any m n w hm hn _ _ _ _ rfl rfl rfl rfl)
end Go.Proofs.Ytleioidlihpjgaa
