/- Walks of laws whose arguments or results are lists. -/
import Derived.Test.YtlddppnaakjamaaHb
import Derived.Test.YtlddppnaakjamaaGq
set_option linter.unusedVariables false
set_option linter.unusedSimpArgs false
namespace Go.Proofs.Ytlddppnaakjamaa
open Fl Go.RowKit
set_option maxHeartbeats 16000000 in
set_option maxRecDepth 100000 in
theorem lawImpulseOf_gen (a0 : FilN) (a1 : Int) (a2 : Int) (rn0 : Nat) (rf0 : Nat → Option Nat) (rb1 : Bool) (w : World)
     (hr0 : rn0 ≤ 1048576)
    (hsp : ∀ (v : World) (_ : Unit), Calls Try.prog 17 #[a0.val, .int .i64 a1, .int .i64 a2] v (PLB rn0 rf0 rb1 v))
    (him : ∀ (v : World) (_ : Unit), Calls Try.prog 18 #[a0.val, .int .i64 a1, .int .i64 a2] v (PLB rn0 rf0 rb1 v)) :
    Calls Try.prog 4 #[a0.val, .int .i64 a1, .int .i64 a2] w fun e w' => e = .returned (.bool true) ∧ w.Since w.heap.size w' := by
  obtain ⟨a0_0, a0_1, a0_2, a0_3, a0_4⟩ := a0
  have hto0 := toFilter_any ⟨a0_0, a0_1, a0_2, a0_3, a0_4⟩
  simp only [FilN.val] at hto0 hsp him ⊢
  have HTO0 := Lib.hid hto0; clear hto0
  obtain ⟨W, hW⟩ : ∃ W, W = (w.alloc (.cells #[.float .f32 a0_0, .float .f32 a0_1, .float .f32 a0_2, .float .f32 a0_3, .float .f32 a0_4] 24)) := ⟨_, rfl⟩
  have S0 : Hid (w.Since w.heap.size W) := Lib.hid (by rw [hW]; exact (World.Since.refl _ _).alloc (Nat.le_refl _) _)
  have hz : w.heap.size < W.heap.size := by rw [hW]; simp
  have BX0_0 : Hid (W.cell? ⟨w.heap.size, 0, none⟩ = some (.float .f32 a0_0)) := Lib.hid (by rw [hW]; simp [go_sem])
  have BX0_1 : Hid (W.cell? ⟨w.heap.size, 1, none⟩ = some (.float .f32 a0_1)) := Lib.hid (by rw [hW]; simp [go_sem])
  have BX0_2 : Hid (W.cell? ⟨w.heap.size, 2, none⟩ = some (.float .f32 a0_2)) := Lib.hid (by rw [hW]; simp [go_sem])
  have BX0_3 : Hid (W.cell? ⟨w.heap.size, 3, none⟩ = some (.float .f32 a0_3)) := Lib.hid (by rw [hW]; simp [go_sem])
  have BX0_4 : Hid (W.cell? ⟨w.heap.size, 4, none⟩ = some (.float .f32 a0_4)) := Lib.hid (by rw [hW]; simp [go_sem])
  have HSP := Lib.hid hsp; have HIM := Lib.hid him; clear hsp him
  go_enter Try.func4, Try.ntmps4
  go_wp2_with fail
  rw [← hW]
  have S : Hid (W.Since W.heap.size W) := Lib.hid (World.Since.refl _ _)
  have LV : Hid (He W.heap.size W []) := Lib.hid trivial
  go_at_call 9
  refine (HTO0.out _).mono ?_
  rintro e v1 ⟨rfl, hs⟩
  have S' := Lib.hid (since_step S.out hs); clear S; have S := S'; clear S'
  have LV' := Lib.hid (LV.out.since hs); clear LV; have LV := LV'; clear LV'
  clear hs
  go_wp2_with fail
  go_at_call 17
  refine (HSP.out _ () ).mono ?_
  rintro e v2 ⟨w0, kw0, rfl, hnw0, hgw0, hfw0, hs⟩
  have LV' := Lib.hid ((LV.out).new hs hgw0.toE S.out.size); clear LV; have LV := LV'; clear LV'
  have S' := Lib.hid (since_step S.out hs); clear S; have S := S'; clear S'
  have Kw0 := Lib.hid hfw0; have Nw0 := Lib.hid hnw0; clear hfw0 hgw0 hnw0
  clear hs
  have bx0_0 := (S.out.cell (a := ⟨w.heap.size, 0, none⟩) (by omega)).trans BX0_0.out
  have bx0_1 := (S.out.cell (a := ⟨w.heap.size, 1, none⟩) (by omega)).trans BX0_1.out
  have bx0_2 := (S.out.cell (a := ⟨w.heap.size, 2, none⟩) (by omega)).trans BX0_2.out
  have bx0_3 := (S.out.cell (a := ⟨w.heap.size, 3, none⟩) (by omega)).trans BX0_3.out
  have bx0_4 := (S.out.cell (a := ⟨w.heap.size, 4, none⟩) (by omega)).trans BX0_4.out
  go_wp2_with fail
  go_at_call 9
  refine (HTO0.out _).mono ?_
  rintro e v3 ⟨rfl, hs⟩
  clear bx0_0 bx0_1 bx0_2 bx0_3 bx0_4
  have S' := Lib.hid (since_step S.out hs); clear S; have S := S'; clear S'
  have LV' := Lib.hid (LV.out.since hs); clear LV; have LV := LV'; clear LV'
  clear hs
  go_wp2_with fail
  go_at_call 18
  refine (HIM.out _ () ).mono ?_
  rintro e v4 ⟨g0, kg0, rfl, hng0, hgg0, hfg0, hs⟩
  have LV' := Lib.hid ((LV.out).new hs hgg0.toE S.out.size); clear LV; have LV := LV'; clear LV'
  have S' := Lib.hid (since_step S.out hs); clear S; have S := S'; clear S'
  have Kg0 := Lib.hid hfg0; have Ng0 := Lib.hid hng0; clear hfg0 hgg0 hng0
  clear hs
  go_wp2_with fail
  go_at_call 13
  refine (eqL_any g0 w0 _ _ _ _ (LV.out.1.1).readF (LV.out.2.1.1).readF (by rw [Ng0.out]; exact hr0) (Nw0.out.trans Ng0.out.symm) Kg0.out Kw0.out).mono ?_
  rintro e v5 ⟨rfl, hs⟩
  have S' := Lib.hid (since_step S.out hs); clear S; have S := S'; clear S'
  have LV' := Lib.hid (LV.out.since hs); clear LV; have LV := LV'; clear LV'
  clear hs
  go_wp2_with fail
  go_at_call 15
  refine (markFE_any g0.A g0.n g0.xs _ (1) _ _ _ _ (LV.out) (by rw [Ng0.out]; exact hr0) (by have := Ng0.out; omega) (by first | rfl | omega | (push_cast; omega))).mono ?_
  rintro e v6 ⟨rfl, hlv, hs⟩
  have LV' := Lib.hid hlv; clear LV hlv; have LV := LV'; clear LV'
  have S' := Lib.hid (since_mark S.out hs); clear S hs; have S := S'; clear S'
  go_wp2_with fail
  go_at_call 16
  refine (heldFE_any g0.A g0.n _ (1) _ _ _ ((LV.out.1.1)) (by rw [Ng0.out]; exact hr0) (by have := Ng0.out; omega) (by first | rfl | omega | (push_cast; omega))).mono ?_
  rintro e v ⟨rfl, rfl⟩
  have bx0_0 := (S.out.cell (a := ⟨w.heap.size, 0, none⟩) (by omega)).trans BX0_0.out
  have bx0_1 := (S.out.cell (a := ⟨w.heap.size, 1, none⟩) (by omega)).trans BX0_1.out
  have bx0_2 := (S.out.cell (a := ⟨w.heap.size, 2, none⟩) (by omega)).trans BX0_2.out
  have bx0_3 := (S.out.cell (a := ⟨w.heap.size, 3, none⟩) (by omega)).trans BX0_3.out
  have bx0_4 := (S.out.cell (a := ⟨w.heap.size, 4, none⟩) (by omega)).trans BX0_4.out
  go_wp2_with fail
  go_at_call 9
  refine (HTO0.out _).mono ?_
  rintro e v7 ⟨rfl, hs⟩
  clear bx0_0 bx0_1 bx0_2 bx0_3 bx0_4
  have S' := Lib.hid (since_step S.out hs); clear S; have S := S'; clear S'
  have LV' := Lib.hid (LV.out.since hs); clear LV; have LV := LV'; clear LV'
  clear hs
  go_wp2_with fail
  go_at_call 18
  refine (HIM.out _ () ).mono ?_
  rintro e v8 ⟨h0, kh0, rfl, hnh0, hgh0, hfh0, hs⟩
  have LV' := Lib.hid ((LV.out).new hs hgh0.toE S.out.size); clear LV; have LV := LV'; clear LV'
  have S' := Lib.hid (since_step S.out hs); clear S; have S := S'; clear S'
  have Kh0 := Lib.hid hfh0; have Nh0 := Lib.hid hnh0; clear hfh0 hgh0 hnh0
  clear hs
  go_wp2_with fail
  go_at_call 13
  refine (eqL_any h0 w0 _ _ _ _ (LV.out.1.1).readF (LV.out.2.2.1.1).readF (by rw [Nh0.out]; exact hr0) (Nw0.out.trans Nh0.out.symm) Kh0.out Kw0.out).mono ?_
  rintro e v9 ⟨rfl, hs⟩
  have S' := Lib.hid (since_step S.out hs); clear S; have S := S'; clear S'
  have LV' := Lib.hid (LV.out.since hs); clear LV; have LV := LV'; clear LV'
  clear hs
  go_wp2_with fail
  go_at_call 16
  refine (heldFE_any g0.A g0.n _ (1) _ _ _ ((LV.out.2.1.1)) (by rw [Ng0.out]; exact hr0) (by have := Ng0.out; omega) (by first | rfl | omega | (push_cast; omega))).mono ?_
  rintro e v ⟨rfl, rfl⟩
  go_wp2_with fail
  go_ret
  exact ⟨rfl, S0.out.trans (since_mono S.out (show w.heap.size ≤ W.heap.size by omega))⟩
end Go.Proofs.Ytlddppnaakjamaa
