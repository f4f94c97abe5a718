/- Walks of laws whose results are lists. -/
import Derived.Test.YtmdnalkfndoicaaHb
import Derived.Test.YtmdnalkfndoicaaVb
import Derived.Test.YtmdnalkfndoicaaYa
set_option linter.unusedVariables false
set_option linter.unusedSimpArgs false
namespace Go.Proofs.Ytmdnalkfndoicaa
open Fl Go.RowKit
set_option maxHeartbeats 16000000 in
set_option maxRecDepth 100000 in
theorem lawIsLane_gen (A0 : Option Addr) (n0 c0 : Nat) (x0 : Nat → PointR) (rb0 : Bool) (w : World)
    (h0 : Rs PointR.cells 2 w w.heap.size A0 n0 x0) (hn0 : n0 ≤ 1048576) 
    (hk0 : ∀ k, k < n0 → (x0 k).ok)
    (hsp : ∀ (v : World) (b0 : Nat), Rs PointR.cells 2 v v.heap.size (some ⟨b0, 0, none⟩) n0 x0 → Calls Try.prog 16 #[.slice (some ⟨b0, 0, none⟩) n0 n0] v (PB rb0 v))
    (him : ∀ (v : World) (b0 : Nat), Rs PointR.cells 2 v v.heap.size (some ⟨b0, 0, none⟩) n0 x0 → Calls Try.prog 18 #[.slice (some ⟨b0, 0, none⟩) n0 n0] v (PB rb0 v)) :
    Calls Try.prog 3 #[.slice A0 n0 c0] w fun e w' => e = .returned (.bool true) ∧ w.Since w.heap.size w' := by
  have S0 : Hid (w.Since w.heap.size w) := Lib.hid (World.Since.refl _ _)
  have F0 : Hid (Rs PointR.cells 2 w w.heap.size A0 n0 x0) := Lib.hid (h0.now S0.out); clear h0
  have hd0 : decide ((1048576 : Int) < n0) = false := decide_eq_false (by omega)
  have HSP := Lib.hid hsp; have HIM := Lib.hid him; clear hsp him
  have hz0 : decide ((1048576 : Int) - n0 < 0) = false := decide_eq_false (by omega)
  have HK0 := Lib.hid hk0; clear hk0
  go_enter Try.func3, Try.ntmps3
  go_wp2_with fail
  go_at_call 15
  refine (szPointS_any A0 n0 c0 _ hn0).mono ?_; rintro e w' ⟨rfl, rfl⟩
  go_wp2_with fail
  have S : Hid (w.Since w.heap.size w) := Lib.hid (World.Since.refl _ _)
  have LV : Hid (He w.heap.size w []) := Lib.hid trivial
  go_at_call 17
  refine (toPointS_any A0 n0 c0 x0 w _ F0.out S.out hn0).mono ?_
  rintro e v1 ⟨rfl, hg, hs⟩
  have LV' := Lib.hid (LV.out.new hs hg S.out.size); clear LV; have LV := LV'; clear LV'
  have S' := Lib.hid (since_step S.out hs); clear S; have S := S'; clear S'
  clear hs hg
  go_wp2_with fail
  go_at_call 16
  refine (HSP.out _ _ ((LV.out.1.1).readS (by decide))).mono ?_
  rintro e v2 ⟨rfl, hs⟩
  have LV' := Lib.hid ((LV.out.2).since hs); clear LV; have LV := LV'; clear LV'
  have S' := Lib.hid (since_step S.out hs); clear S; have S := S'; clear S'
  clear hs
  go_wp2_with fail
  go_at_call 17
  refine (toPointS_any A0 n0 c0 x0 w _ F0.out S.out hn0).mono ?_
  rintro e v3 ⟨rfl, hg, hs⟩
  have LV' := Lib.hid (LV.out.new hs hg S.out.size); clear LV; have LV := LV'; clear LV'
  have S' := Lib.hid (since_step S.out hs); clear S; have S := S'; clear S'
  clear hs hg
  go_wp2_with fail
  go_at_call 18
  refine (HIM.out _ _ ((LV.out.1.1).readS (by decide))).mono ?_
  rintro e v4 ⟨rfl, hs⟩
  have LV' := Lib.hid ((LV.out).since hs); clear LV; have LV := LV'; clear LV'
  have S' := Lib.hid (since_step S.out hs); clear S; have S := S'; clear S'
  clear hs
  go_wp2_with fail
  go_at_call 17
  refine (toPointS_any A0 n0 c0 x0 w _ F0.out S.out hn0).mono ?_
  rintro e v5 ⟨rfl, hg, hs⟩
  have LV' := Lib.hid (LV.out.new hs hg S.out.size); clear LV; have LV := LV'; clear LV'
  have S' := Lib.hid (since_step S.out hs); clear S; have S := S'; clear S'
  clear hs hg
  go_wp2_with fail
  go_at_call 19
  refine (eqPointS_any _ _ n0 _ _ x0 x0 _ _ (Nat.le_refl _) ((LV.out.2.1.1).readS (by decide)) ((LV.out.1.1).readS (by decide)) hn0 (fun k hk => ⟨HK0.out k hk, HK0.out k hk, PointR.same_refl _⟩)).mono ?_
  rintro e v6 ⟨rfl, hs⟩
  have S' := Lib.hid (since_step S.out hs); clear S; have S := S'; clear S'
  have LV' := Lib.hid (LV.out.since hs); clear LV; have LV := LV'; clear LV'
  clear hs
  have LV' := Lib.hid LV.out.2; clear LV; have LV := LV'; clear LV'
  go_wp2_with fail
  go_ret
  exact ⟨rfl, S.out⟩
set_option maxHeartbeats 2000000 in
set_option maxRecDepth 100000 in
theorem lawIsLane_big (A0 : Option Addr) (n0 c0 : Nat) (w : World) (h : 1048576 < n0)
    (hb0 : n0 ≤ 9223372036854775807)
    : Calls Try.prog 3 #[.slice A0 n0 c0] w fun e w' => e = .returned (.bool true) ∧ w.Since w.heap.size w' := by
  by_cases b0 : 1048576 < n0
  · have hd0 : decide ((1048576 : Int) < n0) = true := decide_eq_true (by omega)
    go_enter Try.func3, Try.ntmps3
    go_wp2_with (go_at_call 15; refine (szPointS_big A0 n0 c0 _ b0 hb0).mono ?_; rintro e w' ⟨rfl, rfl⟩)
    go_ret
    exact ⟨rfl, by (repeat (first | (with_reducible refine Fl.sinDrew ?_) | (with_reducible refine World.Since.drew ?_) | (with_reducible refine Fl.sinSet ?_ ?_; rotate_left) | (with_reducible refine Fl.sinAlloc ?_ ?_; rotate_left) | with_reducible exact World.Since.refl _ _ | with_reducible assumption | (with_reducible refine Fl.sinStep (by with_reducible assumption) ?_))); all_goals (first | omega | (simp; done) | (simp; omega) | (simp [go_sem]; done) | (simp [go_sem]; omega))⟩
  · have hd0 : decide ((1048576 : Int) < n0) = false := decide_eq_false (by omega)
    omega
set_option maxHeartbeats 16000000 in
set_option maxRecDepth 100000 in
theorem lawLaneAt_gen (A0 : Option Addr) (n0 c0 : Nat) (x0 : Nat → PointR) (a1 : Int) (ro0 : O) (rb1 : Bool) (w : World)
    (h0 : Rs PointR.cells 2 w w.heap.size A0 n0 x0) (hn0 : n0 ≤ 1048576) 
    (hk0 : ∀ k, k < n0 → (x0 k).ok)
    (hsp : ∀ (v : World) (b0 : Nat), Rs PointR.cells 2 v v.heap.size (some ⟨b0, 0, none⟩) n0 x0 → Calls Try.prog 20 #[.slice (some ⟨b0, 0, none⟩) n0 n0, .int .i64 a1] v (PVB ro0 rb1 v))
    (him : ∀ (v : World) (b0 : Nat), Rs PointR.cells 2 v v.heap.size (some ⟨b0, 0, none⟩) n0 x0 → Calls Try.prog 21 #[.slice (some ⟨b0, 0, none⟩) n0 n0, .int .i64 a1] v (PVB ro0 rb1 v)) :
    Calls Try.prog 4 #[.slice A0 n0 c0, .int .i64 a1] w fun e w' => e = .returned (.bool true) ∧ w.Since w.heap.size w' := by
  have S0 : Hid (w.Since w.heap.size w) := Lib.hid (World.Since.refl _ _)
  have F0 : Hid (Rs PointR.cells 2 w w.heap.size A0 n0 x0) := Lib.hid (h0.now S0.out); clear h0
  have hd0 : decide ((1048576 : Int) < n0) = false := decide_eq_false (by omega)
  have HSP := Lib.hid hsp; have HIM := Lib.hid him; clear hsp him
  have hz0 : decide ((1048576 : Int) - n0 < 0) = false := decide_eq_false (by omega)
  have HK0 := Lib.hid hk0; clear hk0
  go_enter Try.func4, Try.ntmps4
  go_wp2_with fail
  go_at_call 15
  refine (szPointS_any A0 n0 c0 _ hn0).mono ?_; rintro e w' ⟨rfl, rfl⟩
  go_wp2_with fail
  have S : Hid (w.Since w.heap.size w) := Lib.hid (World.Since.refl _ _)
  have LV : Hid (He w.heap.size w []) := Lib.hid trivial
  go_at_call 17
  refine (toPointS_any A0 n0 c0 x0 w _ F0.out S.out hn0).mono ?_
  rintro e v1 ⟨rfl, hg, hs⟩
  have LV' := Lib.hid (LV.out.new hs hg S.out.size); clear LV; have LV := LV'; clear LV'
  have S' := Lib.hid (since_step S.out hs); clear S; have S := S'; clear S'
  clear hs hg
  go_wp2_with fail
  go_at_call 20
  refine (HSP.out _ _ ((LV.out.1.1).readS (by decide))).mono ?_
  rintro e v2 ⟨w0, rfl, how0, hs⟩
  have LV' := Lib.hid ((LV.out.2).since hs); clear LV; have LV := LV'; clear LV'
  have S' := Lib.hid (since_step S.out hs); clear S; have S := S'; clear S'
  clear hs
  have Vw0 := Lib.hid how0; have Lw0 := Lib.hid how0.out.1; clear how0
  go_wp2_with fail
  go_at_call 17
  refine (toPointS_any A0 n0 c0 x0 w _ F0.out S.out hn0).mono ?_
  rintro e v3 ⟨rfl, hg, hs⟩
  have LV' := Lib.hid (LV.out.new hs hg S.out.size); clear LV; have LV := LV'; clear LV'
  have S' := Lib.hid (since_step S.out hs); clear S; have S := S'; clear S'
  clear hs hg
  go_wp2_with fail
  go_at_call 21
  refine (HIM.out _ _ ((LV.out.1.1).readS (by decide))).mono ?_
  rintro e v4 ⟨g0, rfl, hog0, hs⟩
  have LV' := Lib.hid ((LV.out).since hs); clear LV; have LV := LV'; clear LV'
  have S' := Lib.hid (since_step S.out hs); clear S; have S := S'; clear S'
  clear hs
  have Vg0 := Lib.hid hog0; have Lg0 := Lib.hid hog0.out.1; clear hog0
  have L1 := Lg0.out; have L2 := Lw0.out
  go_wp2_with (first | (with_reducible_and_instances refine wpList_wide _ rfl _ _ _ rfl _ rfl (by kernel_rfl) (by kernel_rfl) L1 ?_; intro r3 m3 hr; have X1 := Lib.hid hr; clear hr) | (with_reducible_and_instances refine wpList_wide _ rfl _ _ _ rfl _ rfl (by kernel_rfl) (by kernel_rfl) L2 ?_; intro r4 m4 hr; have X2 := Lib.hid hr; clear hr))
  clear L1 L2
  go_at_call 22
  refine (sameFloat_any _ _ _ _ X1.out (by have := X2.out; rw [Vw0.out.out.2, ← Vg0.out.out.2] at this; exact this)).mono ?_
  rintro e w' ⟨rfl, m5, rfl⟩
  clear X1 X2
  have hs : World.Since v4.heap.size v4 (v4.drewN (m3 + m4 + m5)) := since_drewN (World.Since.refl _ _) _
  simp only [World.drewN_drewN]
  generalize hV : World.drewN v4 (m3 + m4 + m5) = v5 at hs ⊢
  clear hV
  have S' := Lib.hid (since_step S.out hs); clear S; have S := S'; clear S'
  have LV' := Lib.hid (LV.out.since hs); clear LV; have LV := LV'; clear LV'
  clear hs
  go_wp2_with fail
  go_at_call 17
  refine (toPointS_any A0 n0 c0 x0 w _ F0.out S.out hn0).mono ?_
  rintro e v6 ⟨rfl, hg, hs⟩
  have LV' := Lib.hid (LV.out.new hs hg S.out.size); clear LV; have LV := LV'; clear LV'
  have S' := Lib.hid (since_step S.out hs); clear S; have S := S'; clear S'
  clear hs hg
  go_wp2_with fail
  go_at_call 19
  refine (eqPointS_any _ _ n0 _ _ x0 x0 _ _ (Nat.le_refl _) ((LV.out.2.1.1).readS (by decide)) ((LV.out.1.1).readS (by decide)) hn0 (fun k hk => ⟨HK0.out k hk, HK0.out k hk, PointR.same_refl _⟩)).mono ?_
  rintro e v7 ⟨rfl, hs⟩
  have S' := Lib.hid (since_step S.out hs); clear S; have S := S'; clear S'
  have LV' := Lib.hid (LV.out.since hs); clear LV; have LV := LV'; clear LV'
  clear hs
  have LV' := Lib.hid LV.out.2; clear LV; have LV := LV'; clear LV'
  go_wp2_with fail
  go_ret
  exact ⟨rfl, S.out⟩
set_option maxHeartbeats 2000000 in
set_option maxRecDepth 100000 in
theorem lawLaneAt_big (A0 : Option Addr) (n0 c0 : Nat) (a1 : Int) (w : World) (h : 1048576 < n0)
    (hb0 : n0 ≤ 9223372036854775807)
    : Calls Try.prog 4 #[.slice A0 n0 c0, .int .i64 a1] w fun e w' => e = .returned (.bool true) ∧ w.Since w.heap.size w' := by
  by_cases b0 : 1048576 < n0
  · have hd0 : decide ((1048576 : Int) < n0) = true := decide_eq_true (by omega)
    go_enter Try.func4, Try.ntmps4
    go_wp2_with (go_at_call 15; refine (szPointS_big A0 n0 c0 _ b0 hb0).mono ?_; rintro e w' ⟨rfl, rfl⟩)
    go_ret
    exact ⟨rfl, by (repeat (first | (with_reducible refine Fl.sinDrew ?_) | (with_reducible refine World.Since.drew ?_) | (with_reducible refine Fl.sinSet ?_ ?_; rotate_left) | (with_reducible refine Fl.sinAlloc ?_ ?_; rotate_left) | with_reducible exact World.Since.refl _ _ | with_reducible assumption | (with_reducible refine Fl.sinStep (by with_reducible assumption) ?_))); all_goals (first | omega | (simp; done) | (simp; omega) | (simp [go_sem]; done) | (simp [go_sem]; omega))⟩
  · have hd0 : decide ((1048576 : Int) < n0) = false := decide_eq_false (by omega)
    omega
end Go.Proofs.Ytmdnalkfndoicaa
