/- Walks of laws whose arguments or results are lists. -/
import Derived.Test.YtbncjdeplbafiaaHb
import Derived.Test.YtbncjdeplbafiaaIe
set_option linter.unusedVariables false
set_option linter.unusedSimpArgs false
namespace Go.Proofs.Ytbncjdeplbafiaa
open Fl Go.RowKit
set_option maxHeartbeats 16000000 in
set_option maxRecDepth 100000 in
theorem lawBytesOfCodes_gen (A0 : Option Addr) (n0 c0 : Nat) (x0 : List Int) (rt0 : ByteArray) (rb1 : Bool) (w : World)
    (h0 : Is w w.heap.size A0 n0 x0) (hn0 : n0 ≤ 1048576) 
    (hsp : ∀ (v : World) (b0 : Nat), Is v v.heap.size (some ⟨b0, 0, none⟩) n0 x0 → Calls Try.prog 5 #[.slice (some ⟨b0, 0, none⟩) n0 n0] v (PTB rt0 rb1 v))
    (him : ∀ (v : World) (b0 : Nat), Is v v.heap.size (some ⟨b0, 0, none⟩) n0 x0 → Calls Try.prog 7 #[.slice (some ⟨b0, 0, none⟩) n0 n0] v (PTB rt0 rb1 v)) :
    Calls Try.prog 3 #[.slice A0 n0 c0] w fun e w' => e = .returned (.bool true) ∧ w.Since w.heap.size w' := by
  have S0 : Hid (w.Since w.heap.size w) := Lib.hid (World.Since.refl _ _)
  have F0 : Hid (Is w w.heap.size A0 n0 x0) := Lib.hid (h0.now S0.out); clear h0
  have hd0 : decide ((1048576 : Int) < n0) = false := decide_eq_false (by omega)
  have HSP := Lib.hid hsp; have HIM := Lib.hid him; clear hsp him
  go_enter Try.func3, Try.ntmps3
  go_wp2_with fail
  have S : Hid (w.Since w.heap.size w) := Lib.hid (World.Since.refl _ _)
  have LV : Hid (He w.heap.size w []) := Lib.hid trivial
  go_at_call 6
  refine (toIE_any A0 n0 c0 x0 w _ F0.out S.out hn0).mono ?_
  rintro e v1 ⟨rfl, hg, hs⟩
  have LV' := Lib.hid (LV.out.new hs hg S.out.size); clear LV; have LV := LV'; clear LV'
  have S' := Lib.hid (since_step S.out hs); clear S; have S := S'; clear S'
  clear hs hg
  go_wp2_with fail
  go_at_call 5
  refine (HSP.out _ _ ((LV.out.1.1).readI)).mono ?_
  rintro e v2 ⟨rfl, hs⟩
  have LV' := Lib.hid ((LV.out.2).since hs); clear LV; have LV := LV'; clear LV'
  have S' := Lib.hid (since_step S.out hs); clear S; have S := S'; clear S'
  clear hs
  go_wp2_with fail
  go_at_call 6
  refine (toIE_any A0 n0 c0 x0 w _ F0.out S.out hn0).mono ?_
  rintro e v3 ⟨rfl, hg, hs⟩
  have LV' := Lib.hid (LV.out.new hs hg S.out.size); clear LV; have LV := LV'; clear LV'
  have S' := Lib.hid (since_step S.out hs); clear S; have S := S'; clear S'
  clear hs hg
  go_wp2_with fail
  go_at_call 7
  refine (HIM.out _ _ ((LV.out.1.1).readI)).mono ?_
  rintro e v4 ⟨rfl, hs⟩
  have LV' := Lib.hid ((LV.out).since hs); clear LV; have LV := LV'; clear LV'
  have S' := Lib.hid (since_step S.out hs); clear S; have S := S'; clear S'
  clear hs
  go_wp2_with fail
  go_at_call 6
  refine (toIE_any A0 n0 c0 x0 w _ F0.out S.out hn0).mono ?_
  rintro e v5 ⟨rfl, hg, hs⟩
  have LV' := Lib.hid (LV.out.new hs hg S.out.size); clear LV; have LV := LV'; clear LV'
  have S' := Lib.hid (since_step S.out hs); clear S; have S := S'; clear S'
  clear hs hg
  go_wp2_with fail
  go_at_call 8
  refine (eqJ_any ⟨some ⟨v2.heap.size, 0, none⟩, n0, x0⟩ ⟨some ⟨v4.heap.size, 0, none⟩, n0, x0⟩ _ _ _ _ (LV.out.2.1.1).readI (LV.out.1.1).readI (by omega) rfl rfl rfl).mono ?_
  rintro e v6 ⟨rfl, hs⟩
  have S' := Lib.hid (since_step S.out hs); clear S; have S := S'; clear S'
  have LV' := Lib.hid (LV.out.since hs); clear LV; have LV := LV'; clear LV'
  clear hs
  have LV' := Lib.hid LV.out.2; clear LV; have LV := LV'; clear LV'
  go_wp2_with fail
  go_ret
  exact ⟨rfl, S.out⟩
set_option maxHeartbeats 2000000 in
set_option maxRecDepth 100000 in
theorem lawBytesOfCodes_big (A0 : Option Addr) (n0 c0 : Nat) (w : World) (h : 1048576 < n0)
    
    : Calls Try.prog 3 #[.slice A0 n0 c0] w fun e w' => e = .returned (.bool true) ∧ w.Since w.heap.size w' := by
  by_cases b0 : 1048576 < n0
  · have hd0 : decide ((1048576 : Int) < n0) = true := decide_eq_true (by omega)
    go_enter Try.func3, Try.ntmps3
    go_wp2
    go_ret
    exact ⟨rfl, by (repeat (first | (with_reducible refine Fl.sinDrew ?_) | (with_reducible refine World.Since.drew ?_) | (with_reducible refine Fl.sinSet ?_ ?_; rotate_left) | (with_reducible refine Fl.sinAlloc ?_ ?_; rotate_left) | with_reducible exact World.Since.refl _ _ | with_reducible assumption | (with_reducible refine Fl.sinStep (by with_reducible assumption) ?_))); all_goals (first | omega | (simp; done) | (simp; omega) | (simp [go_sem]; done) | (simp [go_sem]; omega))⟩
  · have hd0 : decide ((1048576 : Int) < n0) = false := decide_eq_false (by omega)
    omega
end Go.Proofs.Ytbncjdeplbafiaa
