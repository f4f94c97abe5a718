/- Walks of laws whose arguments or results are lists. -/
import Derived.Test.YtbgjmmncjmcjfaaHb
import Derived.Test.YtbgjmmncjmcjfaaIj
import Derived.Test.YtbgjmmncjmcjfaaIk
set_option linter.unusedVariables false
set_option linter.unusedSimpArgs false
namespace Go.Proofs.Ytbgjmmncjmcjfaa
open Fl Go.RowKit
set_option maxHeartbeats 16000000 in
set_option maxRecDepth 100000 in
theorem lawRunSqueeze_gen (a0 : SquN) (A1 : Option Addr) (n1 c1 : Nat) (x1 : List Nat) (rn0 : Nat) (rf0 : Nat → Option Nat) (rs1 : Squ) (rb2 : Bool) (w : World)
    (h1 : Fs w w.heap.size A1 n1 x1) (hn1 : n1 ≤ 1048576) (hr0 : rn0 ≤ 1048576)
    (hsp : ∀ (v : World) (b1 : Nat), Fs v v.heap.size (some ⟨b1, 0, none⟩) n1 x1 → Calls Try.prog 47 #[a0.val, .slice (some ⟨b1, 0, none⟩) n1 n1] v (PLQB rn0 rf0 rs1 rb2 v))
    (him : ∀ (v : World) (b1 : Nat), Fs v v.heap.size (some ⟨b1, 0, none⟩) n1 x1 → Calls Try.prog 50 #[a0.val, .slice (some ⟨b1, 0, none⟩) n1 n1] v (PLQB rn0 rf0 rs1 rb2 v)) :
    Calls Try.prog 11 #[a0.val, .slice A1 n1 c1] w fun e w' => e = .returned (.bool true) ∧ w.Since w.heap.size w' := by
  obtain ⟨a0_0, a0_1, a0_2, a0_3, a0_4⟩ := a0
  have hto0 := toSqueeze_any ⟨a0_0, a0_1, a0_2, a0_3, a0_4⟩
  simp only [SquN.val] at hto0 hsp him ⊢
  have HTO0 := Lib.hid hto0; clear hto0
  obtain ⟨W, hW⟩ : ∃ W, W = (w.alloc (.cells #[.float .f32 a0_0, .float .f32 a0_1, .float .f32 a0_2, .float .f32 a0_3, .float .f32 a0_4] 66)) := ⟨_, rfl⟩
  have S0 : Hid (w.Since w.heap.size W) := Lib.hid (by rw [hW]; exact (World.Since.refl _ _).alloc (Nat.le_refl _) _)
  have hz : w.heap.size < W.heap.size := by rw [hW]; simp
  have BX0_0 : Hid (W.cell? ⟨w.heap.size, 0, none⟩ = some (.float .f32 a0_0)) := Lib.hid (by rw [hW]; simp [go_sem])
  have BX0_1 : Hid (W.cell? ⟨w.heap.size, 1, none⟩ = some (.float .f32 a0_1)) := Lib.hid (by rw [hW]; simp [go_sem])
  have BX0_2 : Hid (W.cell? ⟨w.heap.size, 2, none⟩ = some (.float .f32 a0_2)) := Lib.hid (by rw [hW]; simp [go_sem])
  have BX0_3 : Hid (W.cell? ⟨w.heap.size, 3, none⟩ = some (.float .f32 a0_3)) := Lib.hid (by rw [hW]; simp [go_sem])
  have BX0_4 : Hid (W.cell? ⟨w.heap.size, 4, none⟩ = some (.float .f32 a0_4)) := Lib.hid (by rw [hW]; simp [go_sem])
  have F1 : Hid (Fs W W.heap.size A1 n1 x1) := Lib.hid (h1.now S0.out); clear h1
  have hd1 : decide ((1048576 : Int) < n1) = false := decide_eq_false (by omega)
  have HSP := Lib.hid hsp; have HIM := Lib.hid him; clear hsp him
  go_enter Try.func11, Try.ntmps11
  go_wp2_with fail
  rw [← hW]
  have S : Hid (W.Since W.heap.size W) := Lib.hid (World.Since.refl _ _)
  have LV : Hid (He W.heap.size W []) := Lib.hid trivial
  go_at_call 48
  refine (HTO0.out _).mono ?_
  rintro e v1 ⟨rfl, hs⟩
  have S' := Lib.hid (since_step S.out hs); clear S; have S := S'; clear S'
  have LV' := Lib.hid (LV.out.since hs); clear LV; have LV := LV'; clear LV'
  clear hs
  go_wp2_with fail
  go_at_call 49
  refine (toFE_any A1 n1 c1 x1 W _ F1.out S.out hn1).mono ?_
  rintro e v2 ⟨rfl, hg, hs⟩
  have LV' := Lib.hid (LV.out.new hs hg S.out.size); clear LV; have LV := LV'; clear LV'
  have S' := Lib.hid (since_step S.out hs); clear S; have S := S'; clear S'
  clear hs hg
  go_wp2_with fail
  go_at_call 47
  refine (HSP.out _ _ ((LV.out.1.1).readF)).mono ?_
  rintro e v3 ⟨w0, kw0, w1, rfl, hnw0, hgw0, hfw0, hvw1, hs⟩
  have LV' := Lib.hid ((LV.out.2).new hs hgw0.toE S.out.size); clear LV; have LV := LV'; clear LV'
  have S' := Lib.hid (since_step S.out hs); clear S; have S := S'; clear S'
  have Kw0 := Lib.hid hfw0; have Nw0 := Lib.hid hnw0; clear hfw0 hgw0 hnw0
  clear hs
  have HVw1 := Lib.hid hvw1; clear hvw1
  obtain ⟨w1_0, w1_1, w1_2, w1_3, w1_4⟩ := w1
  simp only [SquN.val]
  go_wp2_with fail
  obtain ⟨v4, hV, hs, hg⟩ := boxe v3 69 [w1_0, w1_1, w1_2, w1_3, w1_4]
  simp only [List.map_cons, List.map_nil] at hV
  rw [← hV]
  clear hV
  have LV' := Lib.hid (LV.out.new hs hg S.out.size); clear LV; have LV := LV'; clear LV'
  have S' := Lib.hid (since_step S.out hs); clear S; have S := S'; clear S'
  clear hs hg
  go_at_call 49
  refine (toFE_any A1 n1 c1 x1 W _ F1.out S.out hn1).mono ?_
  rintro e v5 ⟨rfl, hg, hs⟩
  have LV' := Lib.hid (LV.out.new hs hg S.out.size); clear LV; have LV := LV'; clear LV'
  have S' := Lib.hid (since_step S.out hs); clear S; have S := S'; clear S'
  clear hs hg
  have bx0_0 := (S.out.cell (a := ⟨w.heap.size, 0, none⟩) (by omega)).trans BX0_0.out
  have bx0_1 := (S.out.cell (a := ⟨w.heap.size, 1, none⟩) (by omega)).trans BX0_1.out
  have bx0_2 := (S.out.cell (a := ⟨w.heap.size, 2, none⟩) (by omega)).trans BX0_2.out
  have bx0_3 := (S.out.cell (a := ⟨w.heap.size, 3, none⟩) (by omega)).trans BX0_3.out
  have bx0_4 := (S.out.cell (a := ⟨w.heap.size, 4, none⟩) (by omega)).trans BX0_4.out
  go_wp2_with fail
  go_at_call 48
  refine (HTO0.out _).mono ?_
  rintro e v6 ⟨rfl, hs⟩
  clear bx0_0 bx0_1 bx0_2 bx0_3 bx0_4
  have S' := Lib.hid (since_step S.out hs); clear S; have S := S'; clear S'
  have LV' := Lib.hid (LV.out.since hs); clear LV; have LV := LV'; clear LV'
  clear hs
  go_wp2_with fail
  go_at_call 50
  refine (HIM.out _ _ ((LV.out.1.1).readF)).mono ?_
  rintro e v7 ⟨g0, kg0, g1, rfl, hng0, hgg0, hfg0, hvg1, hs⟩
  have LV' := Lib.hid ((LV.out).new hs hgg0.toE S.out.size); clear LV; have LV := LV'; clear LV'
  have S' := Lib.hid (since_step S.out hs); clear S; have S := S'; clear S'
  have Kg0 := Lib.hid hfg0; have Ng0 := Lib.hid hng0; clear hfg0 hgg0 hng0
  clear hs
  have HVg1 := Lib.hid hvg1; clear hvg1
  obtain ⟨g1_0, g1_1, g1_2, g1_3, g1_4⟩ := g1
  simp only [SquN.val]
  go_wp2_with fail
  obtain ⟨v8, hV, hs, hg⟩ := boxe v7 69 [g1_0, g1_1, g1_2, g1_3, g1_4]
  simp only [List.map_cons, List.map_nil] at hV
  rw [← hV]
  clear hV
  have LV' := Lib.hid (LV.out.new hs hg S.out.size); clear LV; have LV := LV'; clear LV'
  have S' := Lib.hid (since_step S.out hs); clear S; have S := S'; clear S'
  clear hs hg
  go_at_call 51
  refine (eqL_any g0 w0 _ _ _ _ (LV.out.2.1.1).readF (LV.out.2.2.2.2.1.1).readF (by rw [Ng0.out]; exact hr0) (Nw0.out.trans Ng0.out.symm) Kg0.out Kw0.out).mono ?_
  rintro e v9 ⟨rfl, hs⟩
  have S' := Lib.hid (since_step S.out hs); clear S; have S := S'; clear S'
  have LV' := Lib.hid (LV.out.since hs); clear LV; have LV := LV'; clear LV'
  clear hs
  have bg1_0 : v9.cell? ⟨v7.heap.size, 0, none⟩ = some (.float .f32 g1_0) := (LV.out.1.1).box 0 (by simp)
  have bg1_1 : v9.cell? ⟨v7.heap.size, 1, none⟩ = some (.float .f32 g1_1) := (LV.out.1.1).box 1 (by simp)
  have bg1_2 : v9.cell? ⟨v7.heap.size, 2, none⟩ = some (.float .f32 g1_2) := (LV.out.1.1).box 2 (by simp)
  have bg1_3 : v9.cell? ⟨v7.heap.size, 3, none⟩ = some (.float .f32 g1_3) := (LV.out.1.1).box 3 (by simp)
  have bg1_4 : v9.cell? ⟨v7.heap.size, 4, none⟩ = some (.float .f32 g1_4) := (LV.out.1.1).box 4 (by simp)
  have bw1_0 : v9.cell? ⟨v3.heap.size, 0, none⟩ = some (.float .f32 w1_0) := (LV.out.2.2.2.1.1).box 0 (by simp)
  have bw1_1 : v9.cell? ⟨v3.heap.size, 1, none⟩ = some (.float .f32 w1_1) := (LV.out.2.2.2.1.1).box 1 (by simp)
  have bw1_2 : v9.cell? ⟨v3.heap.size, 2, none⟩ = some (.float .f32 w1_2) := (LV.out.2.2.2.1.1).box 2 (by simp)
  have bw1_3 : v9.cell? ⟨v3.heap.size, 3, none⟩ = some (.float .f32 w1_3) := (LV.out.2.2.2.1.1).box 3 (by simp)
  have bw1_4 : v9.cell? ⟨v3.heap.size, 4, none⟩ = some (.float .f32 w1_4) := (LV.out.2.2.2.1.1).box 4 (by simp)
  go_wp2_with fail
  go_at_call 52
  refine (eqSqueeze_any ⟨g1_0, g1_1, g1_2, g1_3, g1_4⟩ ⟨w1_0, w1_1, w1_2, w1_3, w1_4⟩ _ _ HVg1.out HVw1.out).mono ?_
  rintro e v10 ⟨rfl, hs⟩
  clear bg1_0 bg1_1 bg1_2 bg1_3 bg1_4 bw1_0 bw1_1 bw1_2 bw1_3 bw1_4
  have S' := Lib.hid (since_step S.out hs); clear S; have S := S'; clear S'
  have LV' := Lib.hid (LV.out.since hs); clear LV; have LV := LV'; clear LV'
  clear hs
  go_wp2_with fail
  go_at_call 49
  refine (toFE_any A1 n1 c1 x1 W _ F1.out S.out hn1).mono ?_
  rintro e v11 ⟨rfl, hg, hs⟩
  have LV' := Lib.hid (LV.out.new hs hg S.out.size); clear LV; have LV := LV'; clear LV'
  have S' := Lib.hid (since_step S.out hs); clear S; have S := S'; clear S'
  clear hs hg
  go_wp2_with fail
  go_at_call 51
  refine (eqL_any ⟨some ⟨v4.heap.size, 0, none⟩, n1, x1⟩ ⟨some ⟨v10.heap.size, 0, none⟩, n1, x1⟩ _ _ _ _ (LV.out.2.2.2.1.1).readF (LV.out.1.1).readF (by omega) rfl (fun _ _ => rfl) (fun _ _ => rfl)).mono ?_
  rintro e v12 ⟨rfl, hs⟩
  have S' := Lib.hid (since_step S.out hs); clear S; have S := S'; clear S'
  have LV' := Lib.hid (LV.out.since hs); clear LV; have LV := LV'; clear LV'
  clear hs
  have LV' := Lib.hid LV.out.2; clear LV; have LV := LV'; clear LV'
  go_wp2_with fail
  go_at_call 53
  refine (markFE_any (some ⟨v4.heap.size, 0, none⟩) n1 x1 _ (1) _ _ _ _ (He.front [_, _] LV.out) (hn1) (by have := Ng0.out; omega) (by first | rfl | omega | (push_cast; omega))).mono ?_
  rintro e v13 ⟨rfl, hlv, hs⟩
  have LV' := Lib.hid hlv; clear LV hlv; have LV := LV'; clear LV'
  have S' := Lib.hid (since_mark S.out hs); clear S hs; have S := S'; clear S'
  go_wp2_with fail
  go_at_call 51
  refine (eqL_any g0 w0 _ _ _ _ (LV.out.2.2.1.1).readF (LV.out.2.2.2.2.1.1).readF (by rw [Ng0.out]; exact hr0) (Nw0.out.trans Ng0.out.symm) Kg0.out Kw0.out).mono ?_
  rintro e v14 ⟨rfl, hs⟩
  have S' := Lib.hid (since_step S.out hs); clear S; have S := S'; clear S'
  have LV' := Lib.hid (LV.out.since hs); clear LV; have LV := LV'; clear LV'
  clear hs
  have bg1_0 : v14.cell? ⟨v7.heap.size, 0, none⟩ = some (.float .f32 g1_0) := (LV.out.2.1.1).box 0 (by simp)
  have bg1_1 : v14.cell? ⟨v7.heap.size, 1, none⟩ = some (.float .f32 g1_1) := (LV.out.2.1.1).box 1 (by simp)
  have bg1_2 : v14.cell? ⟨v7.heap.size, 2, none⟩ = some (.float .f32 g1_2) := (LV.out.2.1.1).box 2 (by simp)
  have bg1_3 : v14.cell? ⟨v7.heap.size, 3, none⟩ = some (.float .f32 g1_3) := (LV.out.2.1.1).box 3 (by simp)
  have bg1_4 : v14.cell? ⟨v7.heap.size, 4, none⟩ = some (.float .f32 g1_4) := (LV.out.2.1.1).box 4 (by simp)
  have bw1_0 : v14.cell? ⟨v3.heap.size, 0, none⟩ = some (.float .f32 w1_0) := (LV.out.2.2.2.1.1).box 0 (by simp)
  have bw1_1 : v14.cell? ⟨v3.heap.size, 1, none⟩ = some (.float .f32 w1_1) := (LV.out.2.2.2.1.1).box 1 (by simp)
  have bw1_2 : v14.cell? ⟨v3.heap.size, 2, none⟩ = some (.float .f32 w1_2) := (LV.out.2.2.2.1.1).box 2 (by simp)
  have bw1_3 : v14.cell? ⟨v3.heap.size, 3, none⟩ = some (.float .f32 w1_3) := (LV.out.2.2.2.1.1).box 3 (by simp)
  have bw1_4 : v14.cell? ⟨v3.heap.size, 4, none⟩ = some (.float .f32 w1_4) := (LV.out.2.2.2.1.1).box 4 (by simp)
  go_wp2_with fail
  go_at_call 52
  refine (eqSqueeze_any ⟨g1_0, g1_1, g1_2, g1_3, g1_4⟩ ⟨w1_0, w1_1, w1_2, w1_3, w1_4⟩ _ _ HVg1.out HVw1.out).mono ?_
  rintro e v15 ⟨rfl, hs⟩
  clear bg1_0 bg1_1 bg1_2 bg1_3 bg1_4 bw1_0 bw1_1 bw1_2 bw1_3 bw1_4
  have S' := Lib.hid (since_step S.out hs); clear S; have S := S'; clear S'
  have LV' := Lib.hid (LV.out.since hs); clear LV; have LV := LV'; clear LV'
  clear hs
  go_wp2_with fail
  go_at_call 53
  refine (markFE_any g0.A g0.n g0.xs _ (1) _ _ _ _ (He.front [_, _] LV.out) (by rw [Ng0.out]; exact hr0) (by have := Ng0.out; omega) (by first | rfl | omega | (push_cast; omega))).mono ?_
  rintro e v16 ⟨rfl, hlv, hs⟩
  have LV' := Lib.hid hlv; clear LV hlv; have LV := LV'; clear LV'
  have S' := Lib.hid (since_mark S.out hs); clear S hs; have S := S'; clear S'
  go_wp2_with fail
  go_at_call 54
  refine (heldFE_any g0.A g0.n _ (1) _ _ _ ((LV.out.1.1)) (by rw [Ng0.out]; exact hr0) (by have := Ng0.out; omega) (by first | rfl | omega | (push_cast; omega))).mono ?_
  rintro e v ⟨rfl, rfl⟩
  have bx0_0 := (S.out.cell (a := ⟨w.heap.size, 0, none⟩) (by omega)).trans BX0_0.out
  have bx0_1 := (S.out.cell (a := ⟨w.heap.size, 1, none⟩) (by omega)).trans BX0_1.out
  have bx0_2 := (S.out.cell (a := ⟨w.heap.size, 2, none⟩) (by omega)).trans BX0_2.out
  have bx0_3 := (S.out.cell (a := ⟨w.heap.size, 3, none⟩) (by omega)).trans BX0_3.out
  have bx0_4 := (S.out.cell (a := ⟨w.heap.size, 4, none⟩) (by omega)).trans BX0_4.out
  go_wp2_with fail
  go_at_call 48
  refine (HTO0.out _).mono ?_
  rintro e v17 ⟨rfl, hs⟩
  clear bx0_0 bx0_1 bx0_2 bx0_3 bx0_4
  have S' := Lib.hid (since_step S.out hs); clear S; have S := S'; clear S'
  have LV' := Lib.hid (LV.out.since hs); clear LV; have LV := LV'; clear LV'
  clear hs
  go_wp2_with fail
  go_at_call 49
  refine (toFE_any A1 n1 c1 x1 W _ F1.out S.out hn1).mono ?_
  rintro e v18 ⟨rfl, hg, hs⟩
  have LV' := Lib.hid (LV.out.new hs hg S.out.size); clear LV; have LV := LV'; clear LV'
  have S' := Lib.hid (since_step S.out hs); clear S; have S := S'; clear S'
  clear hs hg
  go_wp2_with fail
  go_at_call 50
  refine (HIM.out _ _ ((LV.out.1.1).readF)).mono ?_
  rintro e v19 ⟨h0, kh0, h1, rfl, hnh0, hgh0, hfh0, hvh1, hs⟩
  have LV' := Lib.hid ((LV.out.2).new hs hgh0.toE S.out.size); clear LV; have LV := LV'; clear LV'
  have S' := Lib.hid (since_step S.out hs); clear S; have S := S'; clear S'
  have Kh0 := Lib.hid hfh0; have Nh0 := Lib.hid hnh0; clear hfh0 hgh0 hnh0
  clear hs
  have HVh1 := Lib.hid hvh1; clear hvh1
  obtain ⟨h1_0, h1_1, h1_2, h1_3, h1_4⟩ := h1
  simp only [SquN.val]
  go_wp2_with fail
  obtain ⟨v20, hV, hs, hg⟩ := boxe v19 69 [h1_0, h1_1, h1_2, h1_3, h1_4]
  simp only [List.map_cons, List.map_nil] at hV
  rw [← hV]
  clear hV
  have LV' := Lib.hid (LV.out.new hs hg S.out.size); clear LV; have LV := LV'; clear LV'
  have S' := Lib.hid (since_step S.out hs); clear S; have S := S'; clear S'
  clear hs hg
  go_at_call 51
  refine (eqL_any h0 w0 _ _ _ _ (LV.out.2.1.1).readF (LV.out.2.2.2.2.2.2.1.1).readF (by rw [Nh0.out]; exact hr0) (Nw0.out.trans Nh0.out.symm) Kh0.out Kw0.out).mono ?_
  rintro e v21 ⟨rfl, hs⟩
  have S' := Lib.hid (since_step S.out hs); clear S; have S := S'; clear S'
  have LV' := Lib.hid (LV.out.since hs); clear LV; have LV := LV'; clear LV'
  clear hs
  have bh1_0 : v21.cell? ⟨v19.heap.size, 0, none⟩ = some (.float .f32 h1_0) := (LV.out.1.1).box 0 (by simp)
  have bh1_1 : v21.cell? ⟨v19.heap.size, 1, none⟩ = some (.float .f32 h1_1) := (LV.out.1.1).box 1 (by simp)
  have bh1_2 : v21.cell? ⟨v19.heap.size, 2, none⟩ = some (.float .f32 h1_2) := (LV.out.1.1).box 2 (by simp)
  have bh1_3 : v21.cell? ⟨v19.heap.size, 3, none⟩ = some (.float .f32 h1_3) := (LV.out.1.1).box 3 (by simp)
  have bh1_4 : v21.cell? ⟨v19.heap.size, 4, none⟩ = some (.float .f32 h1_4) := (LV.out.1.1).box 4 (by simp)
  have bw1_0 : v21.cell? ⟨v3.heap.size, 0, none⟩ = some (.float .f32 w1_0) := (LV.out.2.2.2.2.2.1.1).box 0 (by simp)
  have bw1_1 : v21.cell? ⟨v3.heap.size, 1, none⟩ = some (.float .f32 w1_1) := (LV.out.2.2.2.2.2.1.1).box 1 (by simp)
  have bw1_2 : v21.cell? ⟨v3.heap.size, 2, none⟩ = some (.float .f32 w1_2) := (LV.out.2.2.2.2.2.1.1).box 2 (by simp)
  have bw1_3 : v21.cell? ⟨v3.heap.size, 3, none⟩ = some (.float .f32 w1_3) := (LV.out.2.2.2.2.2.1.1).box 3 (by simp)
  have bw1_4 : v21.cell? ⟨v3.heap.size, 4, none⟩ = some (.float .f32 w1_4) := (LV.out.2.2.2.2.2.1.1).box 4 (by simp)
  go_wp2_with fail
  go_at_call 52
  refine (eqSqueeze_any ⟨h1_0, h1_1, h1_2, h1_3, h1_4⟩ ⟨w1_0, w1_1, w1_2, w1_3, w1_4⟩ _ _ HVh1.out HVw1.out).mono ?_
  rintro e v22 ⟨rfl, hs⟩
  clear bh1_0 bh1_1 bh1_2 bh1_3 bh1_4 bw1_0 bw1_1 bw1_2 bw1_3 bw1_4
  have S' := Lib.hid (since_step S.out hs); clear S; have S := S'; clear S'
  have LV' := Lib.hid (LV.out.since hs); clear LV; have LV := LV'; clear LV'
  clear hs
  go_wp2_with fail
  go_at_call 54
  refine (heldFE_any g0.A g0.n _ (1) _ _ _ ((LV.out.2.2.1.1)) (by rw [Ng0.out]; exact hr0) (by have := Ng0.out; omega) (by first | rfl | omega | (push_cast; omega))).mono ?_
  rintro e v ⟨rfl, rfl⟩
  go_wp2_with fail
  go_ret
  exact ⟨rfl, S0.out.trans (since_mono S.out (show w.heap.size ≤ W.heap.size by omega))⟩
set_option maxHeartbeats 2000000 in
set_option maxRecDepth 100000 in
theorem lawRunSqueeze_big (a0 : SquN) (A1 : Option Addr) (n1 c1 : Nat) (w : World) (h : 1048576 < n1)
    
    : Calls Try.prog 11 #[a0.val, .slice A1 n1 c1] w fun e w' => e = .returned (.bool true) ∧ w.Since w.heap.size w' := by
  obtain ⟨a0_0, a0_1, a0_2, a0_3, a0_4⟩ := a0
  simp only [SquN.val]
  by_cases b1 : 1048576 < n1
  · have hd1 : decide ((1048576 : Int) < n1) = true := decide_eq_true (by omega)
    go_enter Try.func11, Try.ntmps11
    go_wp2
    go_ret
    exact ⟨rfl, by (repeat (first | (with_reducible refine Fl.sinDrew ?_) | (with_reducible refine World.Since.drew ?_) | (with_reducible refine Fl.sinSet ?_ ?_; rotate_left) | (with_reducible refine Fl.sinAlloc ?_ ?_; rotate_left) | with_reducible exact World.Since.refl _ _ | with_reducible assumption | (with_reducible refine Fl.sinStep (by with_reducible assumption) ?_))); all_goals (first | omega | (simp; done) | (simp; omega) | (simp [go_sem]; done) | (simp [go_sem]; omega))⟩
  · have hd1 : decide ((1048576 : Int) < n1) = false := decide_eq_false (by omega)
    omega
set_option maxHeartbeats 16000000 in
set_option maxRecDepth 100000 in
theorem lawDuckSamples_gen (a0 : SquN) (A1 : Option Addr) (n1 c1 : Nat) (x1 : List Nat) (A2 : Option Addr) (n2 c2 : Nat) (x2 : List Nat) (rn0 : Nat) (rf0 : Nat → Option Nat) (rs1 : Squ) (rb2 : Bool) (w : World)
    (h1 : Fs w w.heap.size A1 n1 x1) (hn1 : n1 ≤ 1048576) (h2 : Fs w w.heap.size A2 n2 x2) (hn2 : n2 ≤ 1048576) (hr0 : rn0 ≤ 1048576)
    (hsp : ∀ (v : World) (b1 : Nat) (b2 : Nat), Fs v v.heap.size (some ⟨b1, 0, none⟩) n1 x1 → Fs v v.heap.size (some ⟨b2, 0, none⟩) n2 x2 → Calls Try.prog 55 #[a0.val, .slice (some ⟨b1, 0, none⟩) n1 n1, .slice (some ⟨b2, 0, none⟩) n2 n2] v (PLQB rn0 rf0 rs1 rb2 v))
    (him : ∀ (v : World) (b1 : Nat) (b2 : Nat), Fs v v.heap.size (some ⟨b1, 0, none⟩) n1 x1 → Fs v v.heap.size (some ⟨b2, 0, none⟩) n2 x2 → Calls Try.prog 56 #[a0.val, .slice (some ⟨b1, 0, none⟩) n1 n1, .slice (some ⟨b2, 0, none⟩) n2 n2] v (PLQB rn0 rf0 rs1 rb2 v)) :
    Calls Try.prog 12 #[a0.val, .slice A1 n1 c1, .slice A2 n2 c2] w fun e w' => e = .returned (.bool true) ∧ w.Since w.heap.size w' := by
  obtain ⟨a0_0, a0_1, a0_2, a0_3, a0_4⟩ := a0
  have hto0 := toSqueeze_any ⟨a0_0, a0_1, a0_2, a0_3, a0_4⟩
  simp only [SquN.val] at hto0 hsp him ⊢
  have HTO0 := Lib.hid hto0; clear hto0
  obtain ⟨W, hW⟩ : ∃ W, W = (w.alloc (.cells #[.float .f32 a0_0, .float .f32 a0_1, .float .f32 a0_2, .float .f32 a0_3, .float .f32 a0_4] 66)) := ⟨_, rfl⟩
  have S0 : Hid (w.Since w.heap.size W) := Lib.hid (by rw [hW]; exact (World.Since.refl _ _).alloc (Nat.le_refl _) _)
  have hz : w.heap.size < W.heap.size := by rw [hW]; simp
  have BX0_0 : Hid (W.cell? ⟨w.heap.size, 0, none⟩ = some (.float .f32 a0_0)) := Lib.hid (by rw [hW]; simp [go_sem])
  have BX0_1 : Hid (W.cell? ⟨w.heap.size, 1, none⟩ = some (.float .f32 a0_1)) := Lib.hid (by rw [hW]; simp [go_sem])
  have BX0_2 : Hid (W.cell? ⟨w.heap.size, 2, none⟩ = some (.float .f32 a0_2)) := Lib.hid (by rw [hW]; simp [go_sem])
  have BX0_3 : Hid (W.cell? ⟨w.heap.size, 3, none⟩ = some (.float .f32 a0_3)) := Lib.hid (by rw [hW]; simp [go_sem])
  have BX0_4 : Hid (W.cell? ⟨w.heap.size, 4, none⟩ = some (.float .f32 a0_4)) := Lib.hid (by rw [hW]; simp [go_sem])
  have F1 : Hid (Fs W W.heap.size A1 n1 x1) := Lib.hid (h1.now S0.out); clear h1
  have hd1 : decide ((1048576 : Int) < n1) = false := decide_eq_false (by omega)
  have F2 : Hid (Fs W W.heap.size A2 n2 x2) := Lib.hid (h2.now S0.out); clear h2
  have hd2 : decide ((1048576 : Int) < n2) = false := decide_eq_false (by omega)
  have HSP := Lib.hid hsp; have HIM := Lib.hid him; clear hsp him
  go_enter Try.func12, Try.ntmps12
  go_wp2_with fail
  rw [← hW]
  have S : Hid (W.Since W.heap.size W) := Lib.hid (World.Since.refl _ _)
  have LV : Hid (He W.heap.size W []) := Lib.hid trivial
  go_at_call 48
  refine (HTO0.out _).mono ?_
  rintro e v1 ⟨rfl, hs⟩
  have S' := Lib.hid (since_step S.out hs); clear S; have S := S'; clear S'
  have LV' := Lib.hid (LV.out.since hs); clear LV; have LV := LV'; clear LV'
  clear hs
  go_wp2_with fail
  go_at_call 49
  refine (toFE_any A1 n1 c1 x1 W _ F1.out S.out hn1).mono ?_
  rintro e v2 ⟨rfl, hg, hs⟩
  have LV' := Lib.hid (LV.out.new hs hg S.out.size); clear LV; have LV := LV'; clear LV'
  have S' := Lib.hid (since_step S.out hs); clear S; have S := S'; clear S'
  clear hs hg
  go_wp2_with fail
  go_at_call 49
  refine (toFE_any A2 n2 c2 x2 W _ F2.out S.out hn2).mono ?_
  rintro e v3 ⟨rfl, hg, hs⟩
  have LV' := Lib.hid (LV.out.new hs hg S.out.size); clear LV; have LV := LV'; clear LV'
  have S' := Lib.hid (since_step S.out hs); clear S; have S := S'; clear S'
  clear hs hg
  go_wp2_with fail
  go_at_call 55
  refine (HSP.out _ _ _ ((LV.out.2.1.1).readF) ((LV.out.1.1).readF)).mono ?_
  rintro e v4 ⟨w0, kw0, w1, rfl, hnw0, hgw0, hfw0, hvw1, hs⟩
  have LV' := Lib.hid ((LV.out.2.2).new hs hgw0.toE S.out.size); clear LV; have LV := LV'; clear LV'
  have S' := Lib.hid (since_step S.out hs); clear S; have S := S'; clear S'
  have Kw0 := Lib.hid hfw0; have Nw0 := Lib.hid hnw0; clear hfw0 hgw0 hnw0
  clear hs
  have HVw1 := Lib.hid hvw1; clear hvw1
  obtain ⟨w1_0, w1_1, w1_2, w1_3, w1_4⟩ := w1
  simp only [SquN.val]
  go_wp2_with fail
  obtain ⟨v5, hV, hs, hg⟩ := boxe v4 69 [w1_0, w1_1, w1_2, w1_3, w1_4]
  simp only [List.map_cons, List.map_nil] at hV
  rw [← hV]
  clear hV
  have LV' := Lib.hid (LV.out.new hs hg S.out.size); clear LV; have LV := LV'; clear LV'
  have S' := Lib.hid (since_step S.out hs); clear S; have S := S'; clear S'
  clear hs hg
  go_at_call 49
  refine (toFE_any A1 n1 c1 x1 W _ F1.out S.out hn1).mono ?_
  rintro e v6 ⟨rfl, hg, hs⟩
  have LV' := Lib.hid (LV.out.new hs hg S.out.size); clear LV; have LV := LV'; clear LV'
  have S' := Lib.hid (since_step S.out hs); clear S; have S := S'; clear S'
  clear hs hg
  go_wp2_with fail
  go_at_call 49
  refine (toFE_any A2 n2 c2 x2 W _ F2.out S.out hn2).mono ?_
  rintro e v7 ⟨rfl, hg, hs⟩
  have LV' := Lib.hid (LV.out.new hs hg S.out.size); clear LV; have LV := LV'; clear LV'
  have S' := Lib.hid (since_step S.out hs); clear S; have S := S'; clear S'
  clear hs hg
  have bx0_0 := (S.out.cell (a := ⟨w.heap.size, 0, none⟩) (by omega)).trans BX0_0.out
  have bx0_1 := (S.out.cell (a := ⟨w.heap.size, 1, none⟩) (by omega)).trans BX0_1.out
  have bx0_2 := (S.out.cell (a := ⟨w.heap.size, 2, none⟩) (by omega)).trans BX0_2.out
  have bx0_3 := (S.out.cell (a := ⟨w.heap.size, 3, none⟩) (by omega)).trans BX0_3.out
  have bx0_4 := (S.out.cell (a := ⟨w.heap.size, 4, none⟩) (by omega)).trans BX0_4.out
  go_wp2_with fail
  go_at_call 48
  refine (HTO0.out _).mono ?_
  rintro e v8 ⟨rfl, hs⟩
  clear bx0_0 bx0_1 bx0_2 bx0_3 bx0_4
  have S' := Lib.hid (since_step S.out hs); clear S; have S := S'; clear S'
  have LV' := Lib.hid (LV.out.since hs); clear LV; have LV := LV'; clear LV'
  clear hs
  go_wp2_with fail
  go_at_call 56
  refine (HIM.out _ _ _ ((LV.out.2.1.1).readF) ((LV.out.1.1).readF)).mono ?_
  rintro e v9 ⟨g0, kg0, g1, rfl, hng0, hgg0, hfg0, hvg1, hs⟩
  have LV' := Lib.hid ((LV.out).new hs hgg0.toE S.out.size); clear LV; have LV := LV'; clear LV'
  have S' := Lib.hid (since_step S.out hs); clear S; have S := S'; clear S'
  have Kg0 := Lib.hid hfg0; have Ng0 := Lib.hid hng0; clear hfg0 hgg0 hng0
  clear hs
  have HVg1 := Lib.hid hvg1; clear hvg1
  obtain ⟨g1_0, g1_1, g1_2, g1_3, g1_4⟩ := g1
  simp only [SquN.val]
  go_wp2_with fail
  obtain ⟨v10, hV, hs, hg⟩ := boxe v9 69 [g1_0, g1_1, g1_2, g1_3, g1_4]
  simp only [List.map_cons, List.map_nil] at hV
  rw [← hV]
  clear hV
  have LV' := Lib.hid (LV.out.new hs hg S.out.size); clear LV; have LV := LV'; clear LV'
  have S' := Lib.hid (since_step S.out hs); clear S; have S := S'; clear S'
  clear hs hg
  go_at_call 51
  refine (eqL_any g0 w0 _ _ _ _ (LV.out.2.1.1).readF (LV.out.2.2.2.2.2.1.1).readF (by rw [Ng0.out]; exact hr0) (Nw0.out.trans Ng0.out.symm) Kg0.out Kw0.out).mono ?_
  rintro e v11 ⟨rfl, hs⟩
  have S' := Lib.hid (since_step S.out hs); clear S; have S := S'; clear S'
  have LV' := Lib.hid (LV.out.since hs); clear LV; have LV := LV'; clear LV'
  clear hs
  have bg1_0 : v11.cell? ⟨v9.heap.size, 0, none⟩ = some (.float .f32 g1_0) := (LV.out.1.1).box 0 (by simp)
  have bg1_1 : v11.cell? ⟨v9.heap.size, 1, none⟩ = some (.float .f32 g1_1) := (LV.out.1.1).box 1 (by simp)
  have bg1_2 : v11.cell? ⟨v9.heap.size, 2, none⟩ = some (.float .f32 g1_2) := (LV.out.1.1).box 2 (by simp)
  have bg1_3 : v11.cell? ⟨v9.heap.size, 3, none⟩ = some (.float .f32 g1_3) := (LV.out.1.1).box 3 (by simp)
  have bg1_4 : v11.cell? ⟨v9.heap.size, 4, none⟩ = some (.float .f32 g1_4) := (LV.out.1.1).box 4 (by simp)
  have bw1_0 : v11.cell? ⟨v4.heap.size, 0, none⟩ = some (.float .f32 w1_0) := (LV.out.2.2.2.2.1.1).box 0 (by simp)
  have bw1_1 : v11.cell? ⟨v4.heap.size, 1, none⟩ = some (.float .f32 w1_1) := (LV.out.2.2.2.2.1.1).box 1 (by simp)
  have bw1_2 : v11.cell? ⟨v4.heap.size, 2, none⟩ = some (.float .f32 w1_2) := (LV.out.2.2.2.2.1.1).box 2 (by simp)
  have bw1_3 : v11.cell? ⟨v4.heap.size, 3, none⟩ = some (.float .f32 w1_3) := (LV.out.2.2.2.2.1.1).box 3 (by simp)
  have bw1_4 : v11.cell? ⟨v4.heap.size, 4, none⟩ = some (.float .f32 w1_4) := (LV.out.2.2.2.2.1.1).box 4 (by simp)
  go_wp2_with fail
  go_at_call 52
  refine (eqSqueeze_any ⟨g1_0, g1_1, g1_2, g1_3, g1_4⟩ ⟨w1_0, w1_1, w1_2, w1_3, w1_4⟩ _ _ HVg1.out HVw1.out).mono ?_
  rintro e v12 ⟨rfl, hs⟩
  clear bg1_0 bg1_1 bg1_2 bg1_3 bg1_4 bw1_0 bw1_1 bw1_2 bw1_3 bw1_4
  have S' := Lib.hid (since_step S.out hs); clear S; have S := S'; clear S'
  have LV' := Lib.hid (LV.out.since hs); clear LV; have LV := LV'; clear LV'
  clear hs
  go_wp2_with fail
  go_at_call 49
  refine (toFE_any A1 n1 c1 x1 W _ F1.out S.out hn1).mono ?_
  rintro e v13 ⟨rfl, hg, hs⟩
  have LV' := Lib.hid (LV.out.new hs hg S.out.size); clear LV; have LV := LV'; clear LV'
  have S' := Lib.hid (since_step S.out hs); clear S; have S := S'; clear S'
  clear hs hg
  go_wp2_with fail
  go_at_call 51
  refine (eqL_any ⟨some ⟨v5.heap.size, 0, none⟩, n1, x1⟩ ⟨some ⟨v12.heap.size, 0, none⟩, n1, x1⟩ _ _ _ _ (LV.out.2.2.2.2.1.1).readF (LV.out.1.1).readF (by omega) rfl (fun _ _ => rfl) (fun _ _ => rfl)).mono ?_
  rintro e v14 ⟨rfl, hs⟩
  have S' := Lib.hid (since_step S.out hs); clear S; have S := S'; clear S'
  have LV' := Lib.hid (LV.out.since hs); clear LV; have LV := LV'; clear LV'
  clear hs
  have LV' := Lib.hid LV.out.2; clear LV; have LV := LV'; clear LV'
  go_wp2_with fail
  go_at_call 49
  refine (toFE_any A2 n2 c2 x2 W _ F2.out S.out hn2).mono ?_
  rintro e v15 ⟨rfl, hg, hs⟩
  have LV' := Lib.hid (LV.out.new hs hg S.out.size); clear LV; have LV := LV'; clear LV'
  have S' := Lib.hid (since_step S.out hs); clear S; have S := S'; clear S'
  clear hs hg
  go_wp2_with fail
  go_at_call 51
  refine (eqL_any ⟨some ⟨v6.heap.size, 0, none⟩, n2, x2⟩ ⟨some ⟨v14.heap.size, 0, none⟩, n2, x2⟩ _ _ _ _ (LV.out.2.2.2.1.1).readF (LV.out.1.1).readF (by omega) rfl (fun _ _ => rfl) (fun _ _ => rfl)).mono ?_
  rintro e v16 ⟨rfl, hs⟩
  have S' := Lib.hid (since_step S.out hs); clear S; have S := S'; clear S'
  have LV' := Lib.hid (LV.out.since hs); clear LV; have LV := LV'; clear LV'
  clear hs
  have LV' := Lib.hid LV.out.2; clear LV; have LV := LV'; clear LV'
  go_wp2_with fail
  go_at_call 53
  refine (markFE_any (some ⟨v5.heap.size, 0, none⟩) n1 x1 _ (1) _ _ _ _ (He.front [_, _, _] LV.out) (hn1) (by have := Ng0.out; omega) (by first | rfl | omega | (push_cast; omega))).mono ?_
  rintro e v17 ⟨rfl, hlv, hs⟩
  have LV' := Lib.hid hlv; clear LV hlv; have LV := LV'; clear LV'
  have S' := Lib.hid (since_mark S.out hs); clear S hs; have S := S'; clear S'
  go_wp2_with fail
  go_at_call 53
  refine (markFE_any (some ⟨v6.heap.size, 0, none⟩) n2 x2 _ (1 + n1) _ _ _ _ (He.front [_, _, _] LV.out) (hn2) (by have := Ng0.out; omega) (by first | rfl | omega | (push_cast; omega))).mono ?_
  rintro e v18 ⟨rfl, hlv, hs⟩
  have LV' := Lib.hid hlv; clear LV hlv; have LV := LV'; clear LV'
  have S' := Lib.hid (since_mark S.out hs); clear S hs; have S := S'; clear S'
  go_wp2_with fail
  go_at_call 51
  refine (eqL_any g0 w0 _ _ _ _ (LV.out.2.2.2.1.1).readF (LV.out.2.2.2.2.2.1.1).readF (by rw [Ng0.out]; exact hr0) (Nw0.out.trans Ng0.out.symm) Kg0.out Kw0.out).mono ?_
  rintro e v19 ⟨rfl, hs⟩
  have S' := Lib.hid (since_step S.out hs); clear S; have S := S'; clear S'
  have LV' := Lib.hid (LV.out.since hs); clear LV; have LV := LV'; clear LV'
  clear hs
  have bg1_0 : v19.cell? ⟨v9.heap.size, 0, none⟩ = some (.float .f32 g1_0) := (LV.out.2.2.1.1).box 0 (by simp)
  have bg1_1 : v19.cell? ⟨v9.heap.size, 1, none⟩ = some (.float .f32 g1_1) := (LV.out.2.2.1.1).box 1 (by simp)
  have bg1_2 : v19.cell? ⟨v9.heap.size, 2, none⟩ = some (.float .f32 g1_2) := (LV.out.2.2.1.1).box 2 (by simp)
  have bg1_3 : v19.cell? ⟨v9.heap.size, 3, none⟩ = some (.float .f32 g1_3) := (LV.out.2.2.1.1).box 3 (by simp)
  have bg1_4 : v19.cell? ⟨v9.heap.size, 4, none⟩ = some (.float .f32 g1_4) := (LV.out.2.2.1.1).box 4 (by simp)
  have bw1_0 : v19.cell? ⟨v4.heap.size, 0, none⟩ = some (.float .f32 w1_0) := (LV.out.2.2.2.2.1.1).box 0 (by simp)
  have bw1_1 : v19.cell? ⟨v4.heap.size, 1, none⟩ = some (.float .f32 w1_1) := (LV.out.2.2.2.2.1.1).box 1 (by simp)
  have bw1_2 : v19.cell? ⟨v4.heap.size, 2, none⟩ = some (.float .f32 w1_2) := (LV.out.2.2.2.2.1.1).box 2 (by simp)
  have bw1_3 : v19.cell? ⟨v4.heap.size, 3, none⟩ = some (.float .f32 w1_3) := (LV.out.2.2.2.2.1.1).box 3 (by simp)
  have bw1_4 : v19.cell? ⟨v4.heap.size, 4, none⟩ = some (.float .f32 w1_4) := (LV.out.2.2.2.2.1.1).box 4 (by simp)
  go_wp2_with fail
  go_at_call 52
  refine (eqSqueeze_any ⟨g1_0, g1_1, g1_2, g1_3, g1_4⟩ ⟨w1_0, w1_1, w1_2, w1_3, w1_4⟩ _ _ HVg1.out HVw1.out).mono ?_
  rintro e v20 ⟨rfl, hs⟩
  clear bg1_0 bg1_1 bg1_2 bg1_3 bg1_4 bw1_0 bw1_1 bw1_2 bw1_3 bw1_4
  have S' := Lib.hid (since_step S.out hs); clear S; have S := S'; clear S'
  have LV' := Lib.hid (LV.out.since hs); clear LV; have LV := LV'; clear LV'
  clear hs
  go_wp2_with fail
  go_at_call 53
  refine (markFE_any g0.A g0.n g0.xs _ (1) _ _ _ _ (He.front [_, _, _] LV.out) (by rw [Ng0.out]; exact hr0) (by have := Ng0.out; omega) (by first | rfl | omega | (push_cast; omega))).mono ?_
  rintro e v21 ⟨rfl, hlv, hs⟩
  have LV' := Lib.hid hlv; clear LV hlv; have LV := LV'; clear LV'
  have S' := Lib.hid (since_mark S.out hs); clear S hs; have S := S'; clear S'
  go_wp2_with fail
  go_at_call 54
  refine (heldFE_any g0.A g0.n _ (1) _ _ _ ((LV.out.1.1)) (by rw [Ng0.out]; exact hr0) (by have := Ng0.out; omega) (by first | rfl | omega | (push_cast; omega))).mono ?_
  rintro e v ⟨rfl, rfl⟩
  have bx0_0 := (S.out.cell (a := ⟨w.heap.size, 0, none⟩) (by omega)).trans BX0_0.out
  have bx0_1 := (S.out.cell (a := ⟨w.heap.size, 1, none⟩) (by omega)).trans BX0_1.out
  have bx0_2 := (S.out.cell (a := ⟨w.heap.size, 2, none⟩) (by omega)).trans BX0_2.out
  have bx0_3 := (S.out.cell (a := ⟨w.heap.size, 3, none⟩) (by omega)).trans BX0_3.out
  have bx0_4 := (S.out.cell (a := ⟨w.heap.size, 4, none⟩) (by omega)).trans BX0_4.out
  go_wp2_with fail
  go_at_call 48
  refine (HTO0.out _).mono ?_
  rintro e v22 ⟨rfl, hs⟩
  clear bx0_0 bx0_1 bx0_2 bx0_3 bx0_4
  have S' := Lib.hid (since_step S.out hs); clear S; have S := S'; clear S'
  have LV' := Lib.hid (LV.out.since hs); clear LV; have LV := LV'; clear LV'
  clear hs
  go_wp2_with fail
  go_at_call 49
  refine (toFE_any A1 n1 c1 x1 W _ F1.out S.out hn1).mono ?_
  rintro e v23 ⟨rfl, hg, hs⟩
  have LV' := Lib.hid (LV.out.new hs hg S.out.size); clear LV; have LV := LV'; clear LV'
  have S' := Lib.hid (since_step S.out hs); clear S; have S := S'; clear S'
  clear hs hg
  go_wp2_with fail
  go_at_call 49
  refine (toFE_any A2 n2 c2 x2 W _ F2.out S.out hn2).mono ?_
  rintro e v24 ⟨rfl, hg, hs⟩
  have LV' := Lib.hid (LV.out.new hs hg S.out.size); clear LV; have LV := LV'; clear LV'
  have S' := Lib.hid (since_step S.out hs); clear S; have S := S'; clear S'
  clear hs hg
  go_wp2_with fail
  go_at_call 56
  refine (HIM.out _ _ _ ((LV.out.2.1.1).readF) ((LV.out.1.1).readF)).mono ?_
  rintro e v25 ⟨h0, kh0, h1, rfl, hnh0, hgh0, hfh0, hvh1, hs⟩
  have LV' := Lib.hid ((LV.out.2.2).new hs hgh0.toE S.out.size); clear LV; have LV := LV'; clear LV'
  have S' := Lib.hid (since_step S.out hs); clear S; have S := S'; clear S'
  have Kh0 := Lib.hid hfh0; have Nh0 := Lib.hid hnh0; clear hfh0 hgh0 hnh0
  clear hs
  have HVh1 := Lib.hid hvh1; clear hvh1
  obtain ⟨h1_0, h1_1, h1_2, h1_3, h1_4⟩ := h1
  simp only [SquN.val]
  go_wp2_with fail
  obtain ⟨v26, hV, hs, hg⟩ := boxe v25 69 [h1_0, h1_1, h1_2, h1_3, h1_4]
  simp only [List.map_cons, List.map_nil] at hV
  rw [← hV]
  clear hV
  have LV' := Lib.hid (LV.out.new hs hg S.out.size); clear LV; have LV := LV'; clear LV'
  have S' := Lib.hid (since_step S.out hs); clear S; have S := S'; clear S'
  clear hs hg
  go_at_call 51
  refine (eqL_any h0 w0 _ _ _ _ (LV.out.2.1.1).readF (LV.out.2.2.2.2.2.2.2.1.1).readF (by rw [Nh0.out]; exact hr0) (Nw0.out.trans Nh0.out.symm) Kh0.out Kw0.out).mono ?_
  rintro e v27 ⟨rfl, hs⟩
  have S' := Lib.hid (since_step S.out hs); clear S; have S := S'; clear S'
  have LV' := Lib.hid (LV.out.since hs); clear LV; have LV := LV'; clear LV'
  clear hs
  have bh1_0 : v27.cell? ⟨v25.heap.size, 0, none⟩ = some (.float .f32 h1_0) := (LV.out.1.1).box 0 (by simp)
  have bh1_1 : v27.cell? ⟨v25.heap.size, 1, none⟩ = some (.float .f32 h1_1) := (LV.out.1.1).box 1 (by simp)
  have bh1_2 : v27.cell? ⟨v25.heap.size, 2, none⟩ = some (.float .f32 h1_2) := (LV.out.1.1).box 2 (by simp)
  have bh1_3 : v27.cell? ⟨v25.heap.size, 3, none⟩ = some (.float .f32 h1_3) := (LV.out.1.1).box 3 (by simp)
  have bh1_4 : v27.cell? ⟨v25.heap.size, 4, none⟩ = some (.float .f32 h1_4) := (LV.out.1.1).box 4 (by simp)
  have bw1_0 : v27.cell? ⟨v4.heap.size, 0, none⟩ = some (.float .f32 w1_0) := (LV.out.2.2.2.2.2.2.1.1).box 0 (by simp)
  have bw1_1 : v27.cell? ⟨v4.heap.size, 1, none⟩ = some (.float .f32 w1_1) := (LV.out.2.2.2.2.2.2.1.1).box 1 (by simp)
  have bw1_2 : v27.cell? ⟨v4.heap.size, 2, none⟩ = some (.float .f32 w1_2) := (LV.out.2.2.2.2.2.2.1.1).box 2 (by simp)
  have bw1_3 : v27.cell? ⟨v4.heap.size, 3, none⟩ = some (.float .f32 w1_3) := (LV.out.2.2.2.2.2.2.1.1).box 3 (by simp)
  have bw1_4 : v27.cell? ⟨v4.heap.size, 4, none⟩ = some (.float .f32 w1_4) := (LV.out.2.2.2.2.2.2.1.1).box 4 (by simp)
  go_wp2_with fail
  go_at_call 52
  refine (eqSqueeze_any ⟨h1_0, h1_1, h1_2, h1_3, h1_4⟩ ⟨w1_0, w1_1, w1_2, w1_3, w1_4⟩ _ _ HVh1.out HVw1.out).mono ?_
  rintro e v28 ⟨rfl, hs⟩
  clear bh1_0 bh1_1 bh1_2 bh1_3 bh1_4 bw1_0 bw1_1 bw1_2 bw1_3 bw1_4
  have S' := Lib.hid (since_step S.out hs); clear S; have S := S'; clear S'
  have LV' := Lib.hid (LV.out.since hs); clear LV; have LV := LV'; clear LV'
  clear hs
  go_wp2_with fail
  go_at_call 54
  refine (heldFE_any g0.A g0.n _ (1) _ _ _ ((LV.out.2.2.1.1)) (by rw [Ng0.out]; exact hr0) (by have := Ng0.out; omega) (by first | rfl | omega | (push_cast; omega))).mono ?_
  rintro e v ⟨rfl, rfl⟩
  go_wp2_with fail
  go_ret
  exact ⟨rfl, S0.out.trans (since_mono S.out (show w.heap.size ≤ W.heap.size by omega))⟩
set_option maxHeartbeats 2000000 in
set_option maxRecDepth 100000 in
theorem lawDuckSamples_big (a0 : SquN) (A1 : Option Addr) (n1 c1 : Nat) (A2 : Option Addr) (n2 c2 : Nat) (w : World) (h : 1048576 < n1 ∨ 1048576 < n2)
    
    : Calls Try.prog 12 #[a0.val, .slice A1 n1 c1, .slice A2 n2 c2] w fun e w' => e = .returned (.bool true) ∧ w.Since w.heap.size w' := by
  obtain ⟨a0_0, a0_1, a0_2, a0_3, a0_4⟩ := a0
  simp only [SquN.val]
  by_cases b1 : 1048576 < n1
  · have hd1 : decide ((1048576 : Int) < n1) = true := decide_eq_true (by omega)
    go_enter Try.func12, Try.ntmps12
    go_wp2
    go_ret
    exact ⟨rfl, by (repeat (first | (with_reducible refine Fl.sinDrew ?_) | (with_reducible refine World.Since.drew ?_) | (with_reducible refine Fl.sinSet ?_ ?_; rotate_left) | (with_reducible refine Fl.sinAlloc ?_ ?_; rotate_left) | with_reducible exact World.Since.refl _ _ | with_reducible assumption | (with_reducible refine Fl.sinStep (by with_reducible assumption) ?_))); all_goals (first | omega | (simp; done) | (simp; omega) | (simp [go_sem]; done) | (simp [go_sem]; omega))⟩
  · have hd1 : decide ((1048576 : Int) < n1) = false := decide_eq_false (by omega)
    by_cases b2 : 1048576 < n2
    · have hd2 : decide ((1048576 : Int) < n2) = true := decide_eq_true (by omega)
      go_enter Try.func12, Try.ntmps12
      go_wp2
      go_ret
      exact ⟨rfl, by (repeat (first | (with_reducible refine Fl.sinDrew ?_) | (with_reducible refine World.Since.drew ?_) | (with_reducible refine Fl.sinSet ?_ ?_; rotate_left) | (with_reducible refine Fl.sinAlloc ?_ ?_; rotate_left) | with_reducible exact World.Since.refl _ _ | with_reducible assumption | (with_reducible refine Fl.sinStep (by with_reducible assumption) ?_))); all_goals (first | omega | (simp; done) | (simp; omega) | (simp [go_sem]; done) | (simp [go_sem]; omega))⟩
    · have hd2 : decide ((1048576 : Int) < n2) = false := decide_eq_false (by omega)
      omega
end Go.Proofs.Ytbgjmmncjmcjfaa
