/- Walks of laws whose arguments or results are lists. -/
import Derived.Test.YtbncjdeplbafiaaHb
import Derived.Test.YtbncjdeplbafiaaIb
set_option linter.unusedVariables false
set_option linter.unusedSimpArgs false
namespace Go.Proofs.Ytbncjdeplbafiaa
open Fl Go.RowKit
set_option maxHeartbeats 16000000 in
set_option maxRecDepth 100000 in
theorem lawCodesOfBytes_gen (a0 : ByteArray) (hstr0 : a0.size ≤ 1048576) (rn0 : Nat) (rf0 : List Int) (rb1 : Bool) (w : World)
     (hr0 : rn0 ≤ 1048576)
    (hsp : ∀ (v : World) (_ : Unit), Calls Try.prog 9 #[.string a0] v (PJB rn0 rf0 rb1 v))
    (him : ∀ (v : World) (_ : Unit), Calls Try.prog 10 #[.string a0] v (PJB rn0 rf0 rb1 v)) :
    Calls Try.prog 4 #[.string a0] w fun e w' => e = .returned (.bool true) ∧ w.Since w.heap.size w' := by
  have S0 : Hid (w.Since w.heap.size w) := Lib.hid (World.Since.refl _ _)
  have hd0 : decide ((1048576 : Int) < a0.size) = false := decide_eq_false (by omega)
  have HSP := Lib.hid hsp; have HIM := Lib.hid him; clear hsp him
  go_enter Try.func4, Try.ntmps4
  go_wp2_with fail
  have S : Hid (w.Since w.heap.size w) := Lib.hid (World.Since.refl _ _)
  have LV : Hid (He w.heap.size w []) := Lib.hid trivial
  go_at_call 9
  refine (HSP.out _ () ).mono ?_
  rintro e v1 ⟨w0, kw0, rfl, hnw0, hgw0, hfw0, hs⟩
  have LV' := Lib.hid ((LV.out).new hs hgw0.toE S.out.size); clear LV; have LV := LV'; clear LV'
  have S' := Lib.hid (since_step S.out hs); clear S; have S := S'; clear S'
  have Kw0 := Lib.hid hfw0; have Nw0 := Lib.hid hnw0; clear hfw0 hgw0 hnw0
  clear hs
  go_wp2_with fail
  go_at_call 10
  refine (HIM.out _ () ).mono ?_
  rintro e v2 ⟨g0, kg0, rfl, hng0, hgg0, hfg0, hs⟩
  have LV' := Lib.hid ((LV.out).new hs hgg0.toE S.out.size); clear LV; have LV := LV'; clear LV'
  have S' := Lib.hid (since_step S.out hs); clear S; have S := S'; clear S'
  have Kg0 := Lib.hid hfg0; have Ng0 := Lib.hid hng0; clear hfg0 hgg0 hng0
  clear hs
  go_wp2_with fail
  go_at_call 8
  refine (eqJ_any g0 w0 _ _ _ _ (LV.out.1.1).readI (LV.out.2.1.1).readI (by rw [Ng0.out]; exact hr0) (Nw0.out.trans Ng0.out.symm) Kg0.out Kw0.out).mono ?_
  rintro e v3 ⟨rfl, hs⟩
  have S' := Lib.hid (since_step S.out hs); clear S; have S := S'; clear S'
  have LV' := Lib.hid (LV.out.since hs); clear LV; have LV := LV'; clear LV'
  clear hs
  go_wp2_with fail
  go_at_call 11
  refine (markIE_any g0.A g0.n g0.xs _ (1) _ _ _ _ (LV.out) (by rw [Ng0.out]; exact hr0) (by have := Ng0.out; omega) (by first | rfl | omega | (push_cast; omega))).mono ?_
  rintro e v4 ⟨rfl, hlv, hs⟩
  have LV' := Lib.hid hlv; clear LV hlv; have LV := LV'; clear LV'
  have S' := Lib.hid (since_mark S.out hs); clear S hs; have S := S'; clear S'
  go_wp2_with fail
  go_at_call 12
  refine (heldIE_any g0.A g0.n _ (1) _ _ _ ((LV.out.1.1)) (by rw [Ng0.out]; exact hr0) (by have := Ng0.out; omega) (by first | rfl | omega | (push_cast; omega))).mono ?_
  rintro e v ⟨rfl, rfl⟩
  go_wp2_with fail
  go_at_call 10
  refine (HIM.out _ () ).mono ?_
  rintro e v5 ⟨h0, kh0, rfl, hnh0, hgh0, hfh0, hs⟩
  have LV' := Lib.hid ((LV.out).new hs hgh0.toE S.out.size); clear LV; have LV := LV'; clear LV'
  have S' := Lib.hid (since_step S.out hs); clear S; have S := S'; clear S'
  have Kh0 := Lib.hid hfh0; have Nh0 := Lib.hid hnh0; clear hfh0 hgh0 hnh0
  clear hs
  go_wp2_with fail
  go_at_call 8
  refine (eqJ_any h0 w0 _ _ _ _ (LV.out.1.1).readI (LV.out.2.2.1.1).readI (by rw [Nh0.out]; exact hr0) (Nw0.out.trans Nh0.out.symm) Kh0.out Kw0.out).mono ?_
  rintro e v6 ⟨rfl, hs⟩
  have S' := Lib.hid (since_step S.out hs); clear S; have S := S'; clear S'
  have LV' := Lib.hid (LV.out.since hs); clear LV; have LV := LV'; clear LV'
  clear hs
  go_wp2_with fail
  go_at_call 12
  refine (heldIE_any g0.A g0.n _ (1) _ _ _ ((LV.out.2.1.1)) (by rw [Ng0.out]; exact hr0) (by have := Ng0.out; omega) (by first | rfl | omega | (push_cast; omega))).mono ?_
  rintro e v ⟨rfl, rfl⟩
  go_wp2_with fail
  go_ret
  exact ⟨rfl, S.out⟩
end Go.Proofs.Ytbncjdeplbafiaa
