/- Walks of laws whose results are lists. -/
import Derived.Test.YtkcnjaelfajckaaDb
set_option linter.unusedVariables false
set_option linter.unusedSimpArgs false
namespace Go.Proofs.Ytkcnjaelfajckaa
open Fl Go.RowKit
set_option maxHeartbeats 16000000 in
set_option maxRecDepth 100000 in
theorem lawSilentFrom_gen (a0 : DelN) (A1 : Option Addr) (n1 c1 : Nat) (x1 : List Nat) (ri0 : Int) (rb1 : Bool) (w : World)
    (h1 : Fs w w.heap.size A1 n1 x1) (hn1 : n1 ≤ 1048576) 
    (hsp : ∀ (v : World) (b1 : Nat), Fs v v.heap.size (some ⟨b1, 0, none⟩) n1 x1 → Calls Try.prog 46 #[a0.val, .slice (some ⟨b1, 0, none⟩) n1 n1] v (PIB ri0 rb1 v))
    (him : ∀ (v : World) (b1 : Nat), Fs v v.heap.size (some ⟨b1, 0, none⟩) n1 x1 → Calls Try.prog 47 #[a0.val, .slice (some ⟨b1, 0, none⟩) n1 n1] v (PIB ri0 rb1 v)) :
    Calls Try.prog 11 #[a0.val, .slice A1 n1 c1] w fun e w' => e = .returned (.bool true) ∧ w.Since w.heap.size w' := by
  obtain ⟨a0_0, a0_1, a0_2, a0_3, a0_4⟩ := a0
  have hto0 := toDelay_any ⟨a0_0, a0_1, a0_2, a0_3, a0_4⟩
  simp only [DelN.val] at hto0 hsp him ⊢
  have HTO0 := Lib.hid hto0; clear hto0
  obtain ⟨W, hW⟩ : ∃ W, W = w.alloc (.cells #[.int .i64 a0_0, .float .f32 a0_1, .float .f32 a0_2, .float .f32 a0_3, .bool a0_4] 24) := ⟨_, rfl⟩
  have S0 : Hid (w.Since w.heap.size W) := Lib.hid (by rw [hW]; exact (World.Since.refl _ _).alloc (Nat.le_refl _) _)
  have hz : w.heap.size < W.heap.size := by rw [hW]; simp
  have BX0 : Hid (W.cell? ⟨w.heap.size, 0, none⟩ = some (.int .i64 a0_0)) := Lib.hid (by rw [hW]; simp [go_sem])
  have BX1 : Hid (W.cell? ⟨w.heap.size, 1, none⟩ = some (.float .f32 a0_1)) := Lib.hid (by rw [hW]; simp [go_sem])
  have BX2 : Hid (W.cell? ⟨w.heap.size, 2, none⟩ = some (.float .f32 a0_2)) := Lib.hid (by rw [hW]; simp [go_sem])
  have BX3 : Hid (W.cell? ⟨w.heap.size, 3, none⟩ = some (.float .f32 a0_3)) := Lib.hid (by rw [hW]; simp [go_sem])
  have BX4 : Hid (W.cell? ⟨w.heap.size, 4, none⟩ = some (.bool a0_4)) := Lib.hid (by rw [hW]; simp [go_sem])
  have F1 : Hid (Fs W W.heap.size A1 n1 x1) := Lib.hid (h1.now S0.out); clear h1
  have hd1 : decide ((1048576 : Int) < n1) = false := decide_eq_false (by omega)
  have HSP := Lib.hid hsp; have HIM := Lib.hid him; clear hsp him
  go_enter Try.func11, Try.ntmps11
  go_wp2_with fail
  rw [← hW]
  have S : Hid (W.Since W.heap.size W) := Lib.hid (World.Since.refl _ _)
  have LV : Hid (Lv 22 W.heap.size W []) := Lib.hid trivial
  go_at_call 16
  refine (HTO0.out _).mono ?_
  rintro e v1 ⟨rfl, hs⟩
  have S' := Lib.hid (since_step S.out hs); clear S; have S := S'; clear S'
  have LV' := Lib.hid (LV.out.since hs); clear LV; have LV := LV'; clear LV'
  clear hs
  go_wp2_with fail
  go_at_call 24
  refine (toL_any A1 n1 c1 x1 W _ F1.out S.out hn1).mono ?_
  rintro e v2 ⟨rfl, hg, hs⟩
  have LV' := Lib.hid (LV.out.new hs hg S.out.size); clear LV; have LV := LV'; clear LV'
  have S' := Lib.hid (since_step S.out hs); clear S; have S := S'; clear S'
  clear hs hg
  go_wp2_with fail
  go_at_call 46
  refine (HSP.out _ _ (LV.out.1.1.read)).mono ?_
  rintro e v3 ⟨rfl, hs⟩
  have LV' := Lib.hid ((LV.out.2).since hs); clear LV; have LV := LV'; clear LV'
  have S' := Lib.hid (since_step S.out hs); clear S; have S := S'; clear S'
  clear hs
  go_wp2_with fail
  go_at_call 24
  refine (toL_any A1 n1 c1 x1 W _ F1.out S.out hn1).mono ?_
  rintro e v4 ⟨rfl, hg, hs⟩
  have LV' := Lib.hid (LV.out.new hs hg S.out.size); clear LV; have LV := LV'; clear LV'
  have S' := Lib.hid (since_step S.out hs); clear S; have S := S'; clear S'
  clear hs hg
  have bx0 := (S.out.cell (a := ⟨w.heap.size, 0, none⟩) hz).trans BX0.out
  have bx1 := (S.out.cell (a := ⟨w.heap.size, 1, none⟩) hz).trans BX1.out
  have bx2 := (S.out.cell (a := ⟨w.heap.size, 2, none⟩) hz).trans BX2.out
  have bx3 := (S.out.cell (a := ⟨w.heap.size, 3, none⟩) hz).trans BX3.out
  have bx4 := (S.out.cell (a := ⟨w.heap.size, 4, none⟩) hz).trans BX4.out
  go_wp2_with fail
  go_at_call 16
  refine (HTO0.out _).mono ?_
  rintro e v5 ⟨rfl, hs⟩
  have S' := Lib.hid (since_step S.out hs); clear S; have S := S'; clear S'
  have LV' := Lib.hid (LV.out.since hs); clear LV; have LV := LV'; clear LV'
  clear hs
  clear bx0 bx1 bx2 bx3 bx4
  go_wp2_with fail
  go_at_call 47
  refine (HIM.out _ _ (LV.out.1.1.read)).mono ?_
  rintro e v6 ⟨rfl, hs⟩
  have LV' := Lib.hid ((LV.out).since hs); clear LV; have LV := LV'; clear LV'
  have S' := Lib.hid (since_step S.out hs); clear S; have S := S'; clear S'
  clear hs
  go_wp2_with fail
  go_at_call 24
  refine (toL_any A1 n1 c1 x1 W _ F1.out S.out hn1).mono ?_
  rintro e v7 ⟨rfl, hg, hs⟩
  have LV' := Lib.hid (LV.out.new hs hg S.out.size); clear LV; have LV := LV'; clear LV'
  have S' := Lib.hid (since_step S.out hs); clear S; have S := S'; clear S'
  clear hs hg
  go_wp2_with fail
  go_at_call 20
  refine (eqL_any ⟨some ⟨v3.heap.size, 0, none⟩, n1, x1⟩ ⟨some ⟨v6.heap.size, 0, none⟩, n1, x1⟩ _ _ _ _ LV.out.2.1.1.read LV.out.1.1.read (by omega) rfl (fun _ _ => rfl) (fun _ _ => rfl)).mono ?_
  rintro e v8 ⟨rfl, hs⟩
  have S' := Lib.hid (since_step S.out hs); clear S; have S := S'; clear S'
  have LV' := Lib.hid (LV.out.since hs); clear LV; have LV := LV'; clear LV'
  clear hs
  have LV' := Lib.hid LV.out.2; clear LV; have LV := LV'; clear LV'
  go_wp2_with fail
  go_ret
  exact ⟨rfl, S0.out.trans (since_mono S.out (Nat.le_of_lt hz))⟩
set_option maxHeartbeats 2000000 in
set_option maxRecDepth 100000 in
theorem lawSilentFrom_big (a0 : DelN) (A1 : Option Addr) (n1 c1 : Nat) (w : World) (h : 1048576 < n1) :
    Calls Try.prog 11 #[a0.val, .slice A1 n1 c1] w fun e w' => e = .returned (.bool true) ∧ w.Since w.heap.size w' := by
  obtain ⟨a0_0, a0_1, a0_2, a0_3, a0_4⟩ := a0
  simp only [DelN.val]
  by_cases b1 : 1048576 < n1
  · have hd1 : decide ((1048576 : Int) < n1) = true := decide_eq_true (by omega)
    go_enter Try.func11, Try.ntmps11
    go_wp2
    go_ret
    exact ⟨rfl, by (repeat (first | (with_reducible refine Fl.sinDrew ?_) | (with_reducible refine World.Since.drew ?_) | (with_reducible refine Fl.sinSet ?_ ?_; rotate_left) | (with_reducible refine Fl.sinAlloc ?_ ?_; rotate_left) | with_reducible exact World.Since.refl _ _ | with_reducible assumption | (with_reducible refine Fl.sinStep (by with_reducible assumption) ?_))); all_goals (first | omega | (simp; done) | (simp; omega) | (simp [go_sem]; done) | (simp [go_sem]; omega))⟩
  · have hd1 : decide ((1048576 : Int) < n1) = false := decide_eq_false (by omega)
    omega
end Go.Proofs.Ytkcnjaelfajckaa
