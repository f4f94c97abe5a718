/- Walks of laws whose results are lists. -/
import Derived.Test.YtlodnikboekdpaaLy
import Derived.Test.YtlodnikboekdpaaVq
set_option linter.unusedVariables false
set_option linter.unusedSimpArgs false
namespace Go.Proofs.Ytlodnikboekdpaa
open Fl Go.RowKit
set_option maxHeartbeats 16000000 in
set_option maxRecDepth 100000 in
theorem lawValidOscillator_gen (a0 : OscN) (rb0 : Bool) (w : World)
     
    (hsp : ∀ (v : World) (_ : Unit), Calls Try.prog 15 #[a0.val] v (PB rb0 v))
    (him : ∀ (v : World) (_ : Unit), Calls Try.prog 17 #[a0.val] v (PB rb0 v)) :
    Calls Try.prog 3 #[a0.val] w fun e w' => e = .returned (.bool true) ∧ w.Since w.heap.size w' := by
  obtain ⟨a0_0, a0_1, a0_2⟩ := a0
  have hto0 := toOscillator_any ⟨a0_0, a0_1, a0_2⟩
  simp only [OscN.val] at hto0 hsp him ⊢
  have HTO0 := Lib.hid hto0; clear hto0
  obtain ⟨W, hW⟩ : ∃ W, W = (w.alloc (.cells #[.int .i64 a0_0, .float .f32 a0_1, .float .f32 a0_2] 24)) := ⟨_, rfl⟩
  have S0 : Hid (w.Since w.heap.size W) := Lib.hid (by rw [hW]; exact (World.Since.refl _ _).alloc (Nat.le_refl _) _)
  have hz : w.heap.size < W.heap.size := by rw [hW]; simp
  have BX0_0 : Hid (W.cell? ⟨w.heap.size, 0, none⟩ = some (.int .i64 a0_0)) := Lib.hid (by rw [hW]; simp [go_sem])
  have BX0_1 : Hid (W.cell? ⟨w.heap.size, 1, none⟩ = some (.float .f32 a0_1)) := Lib.hid (by rw [hW]; simp [go_sem])
  have BX0_2 : Hid (W.cell? ⟨w.heap.size, 2, none⟩ = some (.float .f32 a0_2)) := Lib.hid (by rw [hW]; simp [go_sem])
  have HSP := Lib.hid hsp; have HIM := Lib.hid him; clear hsp him
  go_enter Try.func3, Try.ntmps3
  go_wp2_with fail
  rw [← hW]
  have S : Hid (W.Since W.heap.size W) := Lib.hid (World.Since.refl _ _)
  have LV : Hid (Hx W.heap.size W []) := Lib.hid trivial
  go_at_call 16
  refine (HTO0.out _).mono ?_
  rintro e v1 ⟨rfl, hs⟩
  have S' := Lib.hid (since_step S.out hs); clear S; have S := S'; clear S'
  have LV' := Lib.hid (LV.out.since hs); clear LV; have LV := LV'; clear LV'
  clear hs
  go_wp2_with fail
  go_at_call 15
  refine (HSP.out _ () ).mono ?_
  rintro e v2 ⟨rfl, hs⟩
  have LV' := Lib.hid ((LV.out).since hs); clear LV; have LV := LV'; clear LV'
  have S' := Lib.hid (since_step S.out hs); clear S; have S := S'; clear S'
  clear hs
  have bx0_0 := (S.out.cell (a := ⟨w.heap.size, 0, none⟩) (by omega)).trans BX0_0.out
  have bx0_1 := (S.out.cell (a := ⟨w.heap.size, 1, none⟩) (by omega)).trans BX0_1.out
  have bx0_2 := (S.out.cell (a := ⟨w.heap.size, 2, none⟩) (by omega)).trans BX0_2.out
  go_wp2_with fail
  go_at_call 16
  refine (HTO0.out _).mono ?_
  rintro e v3 ⟨rfl, hs⟩
  clear bx0_0 bx0_1 bx0_2
  have S' := Lib.hid (since_step S.out hs); clear S; have S := S'; clear S'
  have LV' := Lib.hid (LV.out.since hs); clear LV; have LV := LV'; clear LV'
  clear hs
  go_wp2_with fail
  go_at_call 17
  refine (HIM.out _ () ).mono ?_
  rintro e v4 ⟨rfl, hs⟩
  have LV' := Lib.hid ((LV.out).since hs); clear LV; have LV := LV'; clear LV'
  have S' := Lib.hid (since_step S.out hs); clear S; have S := S'; clear S'
  clear hs
  go_wp2_with fail
  go_ret
  exact ⟨rfl, S0.out.trans (since_mono S.out (show w.heap.size ≤ W.heap.size by omega))⟩
end Go.Proofs.Ytlodnikboekdpaa
