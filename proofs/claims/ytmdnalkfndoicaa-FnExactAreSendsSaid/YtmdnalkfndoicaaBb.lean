/- Walks of laws whose results are lists. -/
import Derived.Test.YtmdnalkfndoicaaHb
import Derived.Test.YtmdnalkfndoicaaBa
set_option linter.unusedVariables false
set_option linter.unusedSimpArgs false
namespace Go.Proofs.Ytmdnalkfndoicaa
open Fl Go.RowKit
set_option maxHeartbeats 16000000 in
set_option maxRecDepth 100000 in
theorem lawAreSends_gen (a0 : Int) (A1 : Option Addr) (n1 c1 : Nat) (x1 : Nat → SendR) (rb0 : Bool) (w : World)
    (h1 : Rs SendR.cells 3 w w.heap.size A1 n1 x1) (hn1 : n1 ≤ 1048576) 
    (hk1 : ∀ k, k < n1 → (x1 k).ok)
    (hsp : ∀ (v : World) (b1 : Nat), Rs SendR.cells 3 v v.heap.size (some ⟨b1, 0, none⟩) n1 x1 → Calls Try.prog 39 #[.int .i64 a0, .slice (some ⟨b1, 0, none⟩) n1 n1] v (PB rb0 v))
    (him : ∀ (v : World) (b1 : Nat), Rs SendR.cells 3 v v.heap.size (some ⟨b1, 0, none⟩) n1 x1 → Calls Try.prog 41 #[.int .i64 a0, .slice (some ⟨b1, 0, none⟩) n1 n1] v (PB rb0 v)) :
    Calls Try.prog 10 #[.int .i64 a0, .slice A1 n1 c1] w fun e w' => e = .returned (.bool true) ∧ w.Since w.heap.size w' := by
  have S0 : Hid (w.Since w.heap.size w) := Lib.hid (World.Since.refl _ _)
  have F1 : Hid (Rs SendR.cells 3 w w.heap.size A1 n1 x1) := Lib.hid (h1.now S0.out); clear h1
  have hd1 : decide ((1048576 : Int) < n1) = false := decide_eq_false (by omega)
  have HSP := Lib.hid hsp; have HIM := Lib.hid him; clear hsp him
  have hz1 : decide ((1048576 : Int) - n1 < 0) = false := decide_eq_false (by omega)
  have HK1 := Lib.hid hk1; clear hk1
  go_enter Try.func10, Try.ntmps10
  go_wp2_with fail
  go_at_call 38
  refine (szSendS_any A1 n1 c1 _ hn1).mono ?_; rintro e w' ⟨rfl, rfl⟩
  go_wp2_with fail
  have S : Hid (w.Since w.heap.size w) := Lib.hid (World.Since.refl _ _)
  have LV : Hid (He w.heap.size w []) := Lib.hid trivial
  go_at_call 40
  refine (toSendS_any A1 n1 c1 x1 w _ F1.out S.out hn1).mono ?_
  rintro e v1 ⟨rfl, hg, hs⟩
  have LV' := Lib.hid (LV.out.new hs hg S.out.size); clear LV; have LV := LV'; clear LV'
  have S' := Lib.hid (since_step S.out hs); clear S; have S := S'; clear S'
  clear hs hg
  go_wp2_with fail
  go_at_call 39
  refine (HSP.out _ _ ((LV.out.1.1).readS (by decide))).mono ?_
  rintro e v2 ⟨rfl, hs⟩
  have LV' := Lib.hid ((LV.out.2).since hs); clear LV; have LV := LV'; clear LV'
  have S' := Lib.hid (since_step S.out hs); clear S; have S := S'; clear S'
  clear hs
  go_wp2_with fail
  go_at_call 40
  refine (toSendS_any A1 n1 c1 x1 w _ F1.out S.out hn1).mono ?_
  rintro e v3 ⟨rfl, hg, hs⟩
  have LV' := Lib.hid (LV.out.new hs hg S.out.size); clear LV; have LV := LV'; clear LV'
  have S' := Lib.hid (since_step S.out hs); clear S; have S := S'; clear S'
  clear hs hg
  go_wp2_with fail
  go_at_call 41
  refine (HIM.out _ _ ((LV.out.1.1).readS (by decide))).mono ?_
  rintro e v4 ⟨rfl, hs⟩
  have LV' := Lib.hid ((LV.out).since hs); clear LV; have LV := LV'; clear LV'
  have S' := Lib.hid (since_step S.out hs); clear S; have S := S'; clear S'
  clear hs
  go_wp2_with fail
  go_at_call 40
  refine (toSendS_any A1 n1 c1 x1 w _ F1.out S.out hn1).mono ?_
  rintro e v5 ⟨rfl, hg, hs⟩
  have LV' := Lib.hid (LV.out.new hs hg S.out.size); clear LV; have LV := LV'; clear LV'
  have S' := Lib.hid (since_step S.out hs); clear S; have S := S'; clear S'
  clear hs hg
  go_wp2_with fail
  go_at_call 42
  refine (eqSendS_any _ _ n1 _ _ x1 x1 _ _ (Nat.le_refl _) ((LV.out.2.1.1).readS (by decide)) ((LV.out.1.1).readS (by decide)) hn1 (fun k hk => ⟨HK1.out k hk, HK1.out k hk, SendR.same_refl _⟩)).mono ?_
  rintro e v6 ⟨rfl, hs⟩
  have S' := Lib.hid (since_step S.out hs); clear S; have S := S'; clear S'
  have LV' := Lib.hid (LV.out.since hs); clear LV; have LV := LV'; clear LV'
  clear hs
  have LV' := Lib.hid LV.out.2; clear LV; have LV := LV'; clear LV'
  go_wp2_with fail
  go_ret
  exact ⟨rfl, S.out⟩
set_option maxHeartbeats 2000000 in
set_option maxRecDepth 100000 in
theorem lawAreSends_big (a0 : Int) (A1 : Option Addr) (n1 c1 : Nat) (w : World) (h : 1048576 < n1)
    (hb1 : n1 ≤ 9223372036854775807)
    : Calls Try.prog 10 #[.int .i64 a0, .slice A1 n1 c1] w fun e w' => e = .returned (.bool true) ∧ w.Since w.heap.size w' := by
  by_cases b1 : 1048576 < n1
  · have hd1 : decide ((1048576 : Int) < n1) = true := decide_eq_true (by omega)
    go_enter Try.func10, Try.ntmps10
    go_wp2_with (go_at_call 38; refine (szSendS_big A1 n1 c1 _ b1 hb1).mono ?_; rintro e w' ⟨rfl, rfl⟩)
    go_ret
    exact ⟨rfl, by (repeat (first | (with_reducible refine Fl.sinDrew ?_) | (with_reducible refine World.Since.drew ?_) | (with_reducible refine Fl.sinSet ?_ ?_; rotate_left) | (with_reducible refine Fl.sinAlloc ?_ ?_; rotate_left) | with_reducible exact World.Since.refl _ _ | with_reducible assumption | (with_reducible refine Fl.sinStep (by with_reducible assumption) ?_))); all_goals (first | omega | (simp; done) | (simp; omega) | (simp [go_sem]; done) | (simp [go_sem]; omega))⟩
  · have hd1 : decide ((1048576 : Int) < n1) = false := decide_eq_false (by omega)
    omega
end Go.Proofs.Ytmdnalkfndoicaa
