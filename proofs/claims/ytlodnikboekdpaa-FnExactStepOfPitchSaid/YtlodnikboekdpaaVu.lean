/- Walks of laws whose results are lists. -/
import Derived.Test.YtlodnikboekdpaaLy
import Derived.Test.YtlodnikboekdpaaVt
set_option linter.unusedVariables false
set_option linter.unusedSimpArgs false
namespace Go.Proofs.Ytlodnikboekdpaa
open Fl Go.RowKit
set_option maxHeartbeats 16000000 in
set_option maxRecDepth 100000 in
theorem lawStepOfPitch_gen (a0 : Int) (ro0 : O) (rb1 : Bool) (w : World)
     
    (hsp : ∀ (v : World) (_ : Unit), Calls Try.prog 27 #[.int .i64 a0] v (PVB ro0 rb1 v))
    (him : ∀ (v : World) (_ : Unit), Calls Try.prog 28 #[.int .i64 a0] v (PVB ro0 rb1 v)) :
    Calls Try.prog 6 #[.int .i64 a0] w fun e w' => e = .returned (.bool true) ∧ w.Since w.heap.size w' := by
  have S0 : Hid (w.Since w.heap.size w) := Lib.hid (World.Since.refl _ _)
  have HSP := Lib.hid hsp; have HIM := Lib.hid him; clear hsp him
  go_enter Try.func6, Try.ntmps6
  go_wp2_with fail
  have S : Hid (w.Since w.heap.size w) := Lib.hid (World.Since.refl _ _)
  have LV : Hid (Hx w.heap.size w []) := Lib.hid trivial
  go_at_call 27
  refine (HSP.out _ () ).mono ?_
  rintro e v1 ⟨w0, rfl, how0, hs⟩
  have LV' := Lib.hid ((LV.out).since hs); clear LV; have LV := LV'; clear LV'
  have S' := Lib.hid (since_step S.out hs); clear S; have S := S'; clear S'
  clear hs
  have Vw0 := Lib.hid how0; have Lw0 := Lib.hid how0.out.1; clear how0
  go_wp2_with fail
  go_at_call 28
  refine (HIM.out _ () ).mono ?_
  rintro e v2 ⟨g0, rfl, hog0, hs⟩
  have LV' := Lib.hid ((LV.out).since hs); clear LV; have LV := LV'; clear LV'
  have S' := Lib.hid (since_step S.out hs); clear S; have S := S'; clear S'
  clear hs
  have Vg0 := Lib.hid hog0; have Lg0 := Lib.hid hog0.out.1; clear hog0
  have L1 := Lg0.out; have L2 := Lw0.out
  go_wp2_with (first | (with_reducible_and_instances refine wpList_wide _ rfl _ _ _ rfl _ rfl (by kernel_rfl) (by kernel_rfl) L1 ?_; intro r3 m3 hr; have X1 := Lib.hid hr; clear hr) | (with_reducible_and_instances refine wpList_wide _ rfl _ _ _ rfl _ rfl (by kernel_rfl) (by kernel_rfl) L2 ?_; intro r4 m4 hr; have X2 := Lib.hid hr; clear hr))
  clear L1 L2
  go_at_call 20
  refine (sameFloat_any _ _ _ _ X1.out (by have := X2.out; rw [Vw0.out.out.2, ← Vg0.out.out.2] at this; exact this)).mono ?_
  rintro e w' ⟨rfl, m5, rfl⟩
  clear X1 X2
  have hs : World.Since v2.heap.size v2 (v2.drewN (m3 + m4 + m5)) := since_drewN (World.Since.refl _ _) _
  simp only [World.drewN_drewN]
  generalize hV : World.drewN v2 (m3 + m4 + m5) = v3 at hs ⊢
  clear hV
  have S' := Lib.hid (since_step S.out hs); clear S; have S := S'; clear S'
  have LV' := Lib.hid (LV.out.since hs); clear LV; have LV := LV'; clear LV'
  clear hs
  go_wp2_with fail
  go_ret
  exact ⟨rfl, S.out⟩
end Go.Proofs.Ytlodnikboekdpaa
