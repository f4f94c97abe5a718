/- Walks of laws whose results are lists. -/
import Derived.Test.YteggicdhgcecpaaLy
import Derived.Test.YteggicdhgcecpaaFd
set_option linter.unusedVariables false
set_option linter.unusedSimpArgs false
namespace Go.Proofs.Yteggicdhgcecpaa
open Fl Go.RowKit
set_option maxHeartbeats 16000000 in
set_option maxRecDepth 100000 in
theorem lawFollowLevel_gen (a0 : FolN) (A1 : Option Addr) (n1 c1 : Nat) (x1 : List Nat) (rn0 : Nat) (rf0 : Nat → Option Nat) (rs1 : Fol) (rb2 : Bool) (w : World)
    (h1 : Fs w w.heap.size A1 n1 x1) (hn1 : n1 ≤ 1048576) (hr0 : rn0 ≤ 1048576)
    (hsp : ∀ (v : World) (b1 : Nat), Fs v v.heap.size (some ⟨b1, 0, none⟩) n1 x1 → Calls Try.prog 20 #[a0.val, .slice (some ⟨b1, 0, none⟩) n1 n1] v (PLFB rn0 rf0 rs1 rb2 v))
    (him : ∀ (v : World) (b1 : Nat), Fs v v.heap.size (some ⟨b1, 0, none⟩) n1 x1 → Calls Try.prog 22 #[a0.val, .slice (some ⟨b1, 0, none⟩) n1 n1] v (PLFB rn0 rf0 rs1 rb2 v)) :
    Calls Try.prog 5 #[a0.val, .slice A1 n1 c1] w fun e w' => e = .returned (.bool true) ∧ w.Since w.heap.size w' := by
  obtain ⟨a0_0, a0_1, a0_2⟩ := a0
  have hto0 := toFollower_any ⟨a0_0, a0_1, a0_2⟩
  simp only [FolN.val] at hto0 hsp him ⊢
  have HTO0 := Lib.hid hto0; clear hto0
  obtain ⟨W, hW⟩ : ∃ W, W = w.alloc (.cells #[.float .f32 a0_0, .float .f32 a0_1, .float .f32 a0_2] 41) := ⟨_, rfl⟩
  have S0 : Hid (w.Since w.heap.size W) := Lib.hid (by rw [hW]; exact (World.Since.refl _ _).alloc (Nat.le_refl _) _)
  have hz : w.heap.size < W.heap.size := by rw [hW]; simp
  have BX0 : Hid (W.cell? ⟨w.heap.size, 0, none⟩ = some (.float .f32 a0_0)) := Lib.hid (by rw [hW]; simp [go_sem])
  have BX1 : Hid (W.cell? ⟨w.heap.size, 1, none⟩ = some (.float .f32 a0_1)) := Lib.hid (by rw [hW]; simp [go_sem])
  have BX2 : Hid (W.cell? ⟨w.heap.size, 2, none⟩ = some (.float .f32 a0_2)) := Lib.hid (by rw [hW]; simp [go_sem])
  have F1 : Hid (Fs W W.heap.size A1 n1 x1) := Lib.hid (h1.now S0.out); clear h1
  have hd1 : decide ((1048576 : Int) < n1) = false := decide_eq_false (by omega)
  have HSP := Lib.hid hsp; have HIM := Lib.hid him; clear hsp him
  go_enter Try.func5, Try.ntmps5
  go_wp2_with fail
  rw [← hW]
  have S : Hid (W.Since W.heap.size W) := Lib.hid (World.Since.refl _ _)
  have LV : Hid (Hx W.heap.size W []) := Lib.hid trivial
  go_at_call 21
  refine (HTO0.out _).mono ?_
  rintro e v1 ⟨rfl, hs⟩
  have S' := Lib.hid (since_step S.out hs); clear S; have S := S'; clear S'
  have LV' := Lib.hid (LV.out.since hs); clear LV; have LV := LV'; clear LV'
  clear hs
  go_wp2_with fail
  go_at_call 12
  refine (toLx_any A1 n1 c1 x1 W _ F1.out S.out hn1).mono ?_
  rintro e v2 ⟨rfl, hg, hs⟩
  have LV' := Lib.hid (LV.out.new hs hg S.out.size); clear LV; have LV := LV'; clear LV'
  have S' := Lib.hid (since_step S.out hs); clear S; have S := S'; clear S'
  clear hs hg
  go_wp2_with fail
  go_at_call 20
  refine (HSP.out _ _ ((LV.out.1.1).readF)).mono ?_
  rintro e v3 ⟨w0, kw0, w1, rfl, hnw0, hgw0, hfw0, hvw1, hs⟩
  have LV' := Lib.hid ((LV.out.2).new hs hgw0.toX S.out.size); clear LV; have LV := LV'; clear LV'
  have S' := Lib.hid (since_step S.out hs); clear S; have S := S'; clear S'
  have Kw0 := Lib.hid hfw0; have Nw0 := Lib.hid hnw0; clear hfw0 hgw0 hnw0
  clear hs
  have HVw1 := Lib.hid hvw1; clear hvw1
  obtain ⟨w1_0, w1_1, w1_2⟩ := w1
  simp only [FolN.val]
  go_wp2_with fail
  obtain ⟨v4, hV, hs, hg⟩ := boxa v3 42 [w1_0, w1_1, w1_2]
  simp only [List.map_cons, List.map_nil] at hV
  rw [← hV]
  clear hV
  have LV' := Lib.hid (LV.out.new hs hg S.out.size); clear LV; have LV := LV'; clear LV'
  have S' := Lib.hid (since_step S.out hs); clear S; have S := S'; clear S'
  clear hs hg
  go_at_call 12
  refine (toLx_any A1 n1 c1 x1 W _ F1.out S.out hn1).mono ?_
  rintro e v5 ⟨rfl, hg, hs⟩
  have LV' := Lib.hid (LV.out.new hs hg S.out.size); clear LV; have LV := LV'; clear LV'
  have S' := Lib.hid (since_step S.out hs); clear S; have S := S'; clear S'
  clear hs hg
  have bx0 := (S.out.cell (a := ⟨w.heap.size, 0, none⟩) hz).trans BX0.out
  have bx1 := (S.out.cell (a := ⟨w.heap.size, 1, none⟩) hz).trans BX1.out
  have bx2 := (S.out.cell (a := ⟨w.heap.size, 2, none⟩) hz).trans BX2.out
  go_wp2_with fail
  go_at_call 21
  refine (HTO0.out _).mono ?_
  rintro e v6 ⟨rfl, hs⟩
  have S' := Lib.hid (since_step S.out hs); clear S; have S := S'; clear S'
  have LV' := Lib.hid (LV.out.since hs); clear LV; have LV := LV'; clear LV'
  clear hs
  clear bx0 bx1 bx2
  go_wp2_with fail
  go_at_call 22
  refine (HIM.out _ _ ((LV.out.1.1).readF)).mono ?_
  rintro e v7 ⟨g0, kg0, g1, rfl, hng0, hgg0, hfg0, hvg1, hs⟩
  have LV' := Lib.hid ((LV.out).new hs hgg0.toX S.out.size); clear LV; have LV := LV'; clear LV'
  have S' := Lib.hid (since_step S.out hs); clear S; have S := S'; clear S'
  have Kg0 := Lib.hid hfg0; have Ng0 := Lib.hid hng0; clear hfg0 hgg0 hng0
  clear hs
  have HVg1 := Lib.hid hvg1; clear hvg1
  obtain ⟨g1_0, g1_1, g1_2⟩ := g1
  simp only [FolN.val]
  go_wp2_with fail
  obtain ⟨v8, hV, hs, hg⟩ := boxa v7 42 [g1_0, g1_1, g1_2]
  simp only [List.map_cons, List.map_nil] at hV
  rw [← hV]
  clear hV
  have LV' := Lib.hid (LV.out.new hs hg S.out.size); clear LV; have LV := LV'; clear LV'
  have S' := Lib.hid (since_step S.out hs); clear S; have S := S'; clear S'
  clear hs hg
  go_at_call 14
  refine (eqL_any g0 w0 _ _ _ _ (LV.out.2.1.1).readF (LV.out.2.2.2.2.1.1).readF (by rw [Ng0.out]; exact hr0) (Nw0.out.trans Ng0.out.symm) Kg0.out Kw0.out).mono ?_
  rintro e v9 ⟨rfl, hs⟩
  have S' := Lib.hid (since_step S.out hs); clear S; have S := S'; clear S'
  have LV' := Lib.hid (LV.out.since hs); clear LV; have LV := LV'; clear LV'
  clear hs
  have bg1_0 : v9.cell? ⟨v7.heap.size, 0, none⟩ = some (.float .f32 g1_0) := (LV.out.1.1).box 0 (by simp)
  have bg1_1 : v9.cell? ⟨v7.heap.size, 1, none⟩ = some (.float .f32 g1_1) := (LV.out.1.1).box 1 (by simp)
  have bg1_2 : v9.cell? ⟨v7.heap.size, 2, none⟩ = some (.float .f32 g1_2) := (LV.out.1.1).box 2 (by simp)
  have bw1_0 : v9.cell? ⟨v3.heap.size, 0, none⟩ = some (.float .f32 w1_0) := (LV.out.2.2.2.1.1).box 0 (by simp)
  have bw1_1 : v9.cell? ⟨v3.heap.size, 1, none⟩ = some (.float .f32 w1_1) := (LV.out.2.2.2.1.1).box 1 (by simp)
  have bw1_2 : v9.cell? ⟨v3.heap.size, 2, none⟩ = some (.float .f32 w1_2) := (LV.out.2.2.2.1.1).box 2 (by simp)
  go_wp2_with fail
  go_at_call 23
  refine (eqFollower_any ⟨g1_0, g1_1, g1_2⟩ ⟨w1_0, w1_1, w1_2⟩ _ _ HVg1.out HVw1.out).mono ?_
  rintro e v10 ⟨rfl, hs⟩
  clear bg1_0 bg1_1 bg1_2 bw1_0 bw1_1 bw1_2
  have S' := Lib.hid (since_step S.out hs); clear S; have S := S'; clear S'
  have LV' := Lib.hid (LV.out.since hs); clear LV; have LV := LV'; clear LV'
  clear hs
  go_wp2_with fail
  go_at_call 12
  refine (toLx_any A1 n1 c1 x1 W _ F1.out S.out hn1).mono ?_
  rintro e v11 ⟨rfl, hg, hs⟩
  have LV' := Lib.hid (LV.out.new hs hg S.out.size); clear LV; have LV := LV'; clear LV'
  have S' := Lib.hid (since_step S.out hs); clear S; have S := S'; clear S'
  clear hs hg
  go_wp2_with fail
  go_at_call 14
  refine (eqL_any ⟨some ⟨v4.heap.size, 0, none⟩, n1, x1⟩ ⟨some ⟨v10.heap.size, 0, none⟩, n1, x1⟩ _ _ _ _ (LV.out.2.2.2.1.1).readF (LV.out.1.1).readF (by omega) rfl (fun _ _ => rfl) (fun _ _ => rfl)).mono ?_
  rintro e v12 ⟨rfl, hs⟩
  have S' := Lib.hid (since_step S.out hs); clear S; have S := S'; clear S'
  have LV' := Lib.hid (LV.out.since hs); clear LV; have LV := LV'; clear LV'
  clear hs
  have LV' := Lib.hid LV.out.2; clear LV; have LV := LV'; clear LV'
  go_wp2_with fail
  go_at_call 15
  refine (markLx_any (some ⟨v4.heap.size, 0, none⟩) n1 x1 _ (1) _ _ _ _ (Hx.front [_, _] LV.out) (hn1) (by have := Ng0.out; omega) (by first | rfl | omega | (push_cast; omega))).mono ?_
  rintro e v13 ⟨rfl, hlv, hs⟩
  have LV' := Lib.hid hlv; clear LV hlv; have LV := LV'; clear LV'
  have S' := Lib.hid (since_mark S.out hs); clear S hs; have S := S'; clear S'
  go_wp2_with fail
  go_at_call 14
  refine (eqL_any g0 w0 _ _ _ _ (LV.out.2.2.1.1).readF (LV.out.2.2.2.2.1.1).readF (by rw [Ng0.out]; exact hr0) (Nw0.out.trans Ng0.out.symm) Kg0.out Kw0.out).mono ?_
  rintro e v14 ⟨rfl, hs⟩
  have S' := Lib.hid (since_step S.out hs); clear S; have S := S'; clear S'
  have LV' := Lib.hid (LV.out.since hs); clear LV; have LV := LV'; clear LV'
  clear hs
  have bg1_0 : v14.cell? ⟨v7.heap.size, 0, none⟩ = some (.float .f32 g1_0) := (LV.out.2.1.1).box 0 (by simp)
  have bg1_1 : v14.cell? ⟨v7.heap.size, 1, none⟩ = some (.float .f32 g1_1) := (LV.out.2.1.1).box 1 (by simp)
  have bg1_2 : v14.cell? ⟨v7.heap.size, 2, none⟩ = some (.float .f32 g1_2) := (LV.out.2.1.1).box 2 (by simp)
  have bw1_0 : v14.cell? ⟨v3.heap.size, 0, none⟩ = some (.float .f32 w1_0) := (LV.out.2.2.2.1.1).box 0 (by simp)
  have bw1_1 : v14.cell? ⟨v3.heap.size, 1, none⟩ = some (.float .f32 w1_1) := (LV.out.2.2.2.1.1).box 1 (by simp)
  have bw1_2 : v14.cell? ⟨v3.heap.size, 2, none⟩ = some (.float .f32 w1_2) := (LV.out.2.2.2.1.1).box 2 (by simp)
  go_wp2_with fail
  go_at_call 23
  refine (eqFollower_any ⟨g1_0, g1_1, g1_2⟩ ⟨w1_0, w1_1, w1_2⟩ _ _ HVg1.out HVw1.out).mono ?_
  rintro e v15 ⟨rfl, hs⟩
  clear bg1_0 bg1_1 bg1_2 bw1_0 bw1_1 bw1_2
  have S' := Lib.hid (since_step S.out hs); clear S; have S := S'; clear S'
  have LV' := Lib.hid (LV.out.since hs); clear LV; have LV := LV'; clear LV'
  clear hs
  go_wp2_with fail
  go_at_call 15
  refine (markLx_any g0.A g0.n g0.xs _ (1) _ _ _ _ (Hx.front [_, _] LV.out) (by rw [Ng0.out]; exact hr0) (by have := Ng0.out; omega) (by first | rfl | omega | (push_cast; omega))).mono ?_
  rintro e v16 ⟨rfl, hlv, hs⟩
  have LV' := Lib.hid hlv; clear LV hlv; have LV := LV'; clear LV'
  have S' := Lib.hid (since_mark S.out hs); clear S hs; have S := S'; clear S'
  go_wp2_with fail
  go_at_call 16
  refine (heldLx_any g0.A g0.n _ (1) _ _ _ ((LV.out.1.1)) (by rw [Ng0.out]; exact hr0) (by have := Ng0.out; omega) (by first | rfl | omega | (push_cast; omega))).mono ?_
  rintro e v ⟨rfl, rfl⟩
  have bx0 := (S.out.cell (a := ⟨w.heap.size, 0, none⟩) hz).trans BX0.out
  have bx1 := (S.out.cell (a := ⟨w.heap.size, 1, none⟩) hz).trans BX1.out
  have bx2 := (S.out.cell (a := ⟨w.heap.size, 2, none⟩) hz).trans BX2.out
  go_wp2_with fail
  go_at_call 21
  refine (HTO0.out _).mono ?_
  rintro e v17 ⟨rfl, hs⟩
  have S' := Lib.hid (since_step S.out hs); clear S; have S := S'; clear S'
  have LV' := Lib.hid (LV.out.since hs); clear LV; have LV := LV'; clear LV'
  clear hs
  go_wp2_with fail
  go_at_call 12
  refine (toLx_any A1 n1 c1 x1 W _ F1.out S.out hn1).mono ?_
  rintro e v18 ⟨rfl, hg, hs⟩
  have LV' := Lib.hid (LV.out.new hs hg S.out.size); clear LV; have LV := LV'; clear LV'
  have S' := Lib.hid (since_step S.out hs); clear S; have S := S'; clear S'
  clear hs hg
  clear bx0 bx1 bx2
  go_wp2_with fail
  go_at_call 22
  refine (HIM.out _ _ ((LV.out.1.1).readF)).mono ?_
  rintro e v19 ⟨h0, kh0, h1, rfl, hnh0, hgh0, hfh0, hvh1, hs⟩
  have LV' := Lib.hid ((LV.out.2).new hs hgh0.toX S.out.size); clear LV; have LV := LV'; clear LV'
  have S' := Lib.hid (since_step S.out hs); clear S; have S := S'; clear S'
  have Kh0 := Lib.hid hfh0; have Nh0 := Lib.hid hnh0; clear hfh0 hgh0 hnh0
  clear hs
  have HVh1 := Lib.hid hvh1; clear hvh1
  obtain ⟨h1_0, h1_1, h1_2⟩ := h1
  simp only [FolN.val]
  go_wp2_with fail
  obtain ⟨v20, hV, hs, hg⟩ := boxa v19 42 [h1_0, h1_1, h1_2]
  simp only [List.map_cons, List.map_nil] at hV
  rw [← hV]
  clear hV
  have LV' := Lib.hid (LV.out.new hs hg S.out.size); clear LV; have LV := LV'; clear LV'
  have S' := Lib.hid (since_step S.out hs); clear S; have S := S'; clear S'
  clear hs hg
  go_at_call 14
  refine (eqL_any h0 w0 _ _ _ _ (LV.out.2.1.1).readF (LV.out.2.2.2.2.2.2.1.1).readF (by rw [Nh0.out]; exact hr0) (Nw0.out.trans Nh0.out.symm) Kh0.out Kw0.out).mono ?_
  rintro e v21 ⟨rfl, hs⟩
  have S' := Lib.hid (since_step S.out hs); clear S; have S := S'; clear S'
  have LV' := Lib.hid (LV.out.since hs); clear LV; have LV := LV'; clear LV'
  clear hs
  have bh1_0 : v21.cell? ⟨v19.heap.size, 0, none⟩ = some (.float .f32 h1_0) := (LV.out.1.1).box 0 (by simp)
  have bh1_1 : v21.cell? ⟨v19.heap.size, 1, none⟩ = some (.float .f32 h1_1) := (LV.out.1.1).box 1 (by simp)
  have bh1_2 : v21.cell? ⟨v19.heap.size, 2, none⟩ = some (.float .f32 h1_2) := (LV.out.1.1).box 2 (by simp)
  have bw1_0 : v21.cell? ⟨v3.heap.size, 0, none⟩ = some (.float .f32 w1_0) := (LV.out.2.2.2.2.2.1.1).box 0 (by simp)
  have bw1_1 : v21.cell? ⟨v3.heap.size, 1, none⟩ = some (.float .f32 w1_1) := (LV.out.2.2.2.2.2.1.1).box 1 (by simp)
  have bw1_2 : v21.cell? ⟨v3.heap.size, 2, none⟩ = some (.float .f32 w1_2) := (LV.out.2.2.2.2.2.1.1).box 2 (by simp)
  go_wp2_with fail
  go_at_call 23
  refine (eqFollower_any ⟨h1_0, h1_1, h1_2⟩ ⟨w1_0, w1_1, w1_2⟩ _ _ HVh1.out HVw1.out).mono ?_
  rintro e v22 ⟨rfl, hs⟩
  clear bh1_0 bh1_1 bh1_2 bw1_0 bw1_1 bw1_2
  have S' := Lib.hid (since_step S.out hs); clear S; have S := S'; clear S'
  have LV' := Lib.hid (LV.out.since hs); clear LV; have LV := LV'; clear LV'
  clear hs
  go_wp2_with fail
  go_at_call 16
  refine (heldLx_any g0.A g0.n _ (1) _ _ _ ((LV.out.2.2.1.1)) (by rw [Ng0.out]; exact hr0) (by have := Ng0.out; omega) (by first | rfl | omega | (push_cast; omega))).mono ?_
  rintro e v ⟨rfl, rfl⟩
  go_wp2_with fail
  go_ret
  exact ⟨rfl, S0.out.trans (since_mono S.out (Nat.le_of_lt hz))⟩
set_option maxHeartbeats 2000000 in
set_option maxRecDepth 100000 in
theorem lawFollowLevel_big (a0 : FolN) (A1 : Option Addr) (n1 c1 : Nat) (w : World) (h : 1048576 < n1) :
    Calls Try.prog 5 #[a0.val, .slice A1 n1 c1] w fun e w' => e = .returned (.bool true) ∧ w.Since w.heap.size w' := by
  obtain ⟨a0_0, a0_1, a0_2⟩ := a0
  simp only [FolN.val]
  by_cases b1 : 1048576 < n1
  · have hd1 : decide ((1048576 : Int) < n1) = true := decide_eq_true (by omega)
    go_enter Try.func5, Try.ntmps5
    go_wp2
    go_ret
    exact ⟨rfl, by (repeat (first | (with_reducible refine Fl.sinDrew ?_) | (with_reducible refine World.Since.drew ?_) | (with_reducible refine Fl.sinSet ?_ ?_; rotate_left) | (with_reducible refine Fl.sinAlloc ?_ ?_; rotate_left) | with_reducible exact World.Since.refl _ _ | with_reducible assumption | (with_reducible refine Fl.sinStep (by with_reducible assumption) ?_))); all_goals (first | omega | (simp; done) | (simp; omega) | (simp [go_sem]; done) | (simp [go_sem]; omega))⟩
  · have hd1 : decide ((1048576 : Int) < n1) = false := decide_eq_false (by omega)
    omega
end Go.Proofs.Yteggicdhgcecpaa
