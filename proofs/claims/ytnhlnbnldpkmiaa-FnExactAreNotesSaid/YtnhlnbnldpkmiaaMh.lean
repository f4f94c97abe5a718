/- Walks of laws whose results are lists. -/
import Derived.Test.YtnhlnbnldpkmiaaHb
import Derived.Test.YtnhlnbnldpkmiaaMg
set_option linter.unusedVariables false
set_option linter.unusedSimpArgs false
namespace Go.Proofs.Ytnhlnbnldpkmiaa
open Fl Go.RowKit
set_option maxHeartbeats 16000000 in
set_option maxRecDepth 100000 in
theorem lawAreNotes_gen (A0 : Option Addr) (n0 c0 : Nat) (x0 : Nat → NoteR) (rb0 : Bool) (w : World)
    (h0 : Rs NoteR.cells 4 w w.heap.size A0 n0 x0) (hn0 : n0 ≤ 1048576) 
    (hk0 : ∀ k, k < n0 → (x0 k).ok)
    (hsp : ∀ (v : World) (b0 : Nat), Rs NoteR.cells 4 v v.heap.size (some ⟨b0, 0, none⟩) n0 x0 → Calls Try.prog 33 #[.slice (some ⟨b0, 0, none⟩) n0 n0] v (PB rb0 v))
    (him : ∀ (v : World) (b0 : Nat), Rs NoteR.cells 4 v v.heap.size (some ⟨b0, 0, none⟩) n0 x0 → Calls Try.prog 35 #[.slice (some ⟨b0, 0, none⟩) n0 n0] v (PB rb0 v)) :
    Calls Try.prog 6 #[.slice A0 n0 c0] w fun e w' => e = .returned (.bool true) ∧ w.Since w.heap.size w' := by
  have S0 : Hid (w.Since w.heap.size w) := Lib.hid (World.Since.refl _ _)
  have F0 : Hid (Rs NoteR.cells 4 w w.heap.size A0 n0 x0) := Lib.hid (h0.now S0.out); clear h0
  have hd0 : decide ((1048576 : Int) < n0) = false := decide_eq_false (by omega)
  have HSP := Lib.hid hsp; have HIM := Lib.hid him; clear hsp him
  have hz0 : decide ((1048576 : Int) - n0 < 0) = false := decide_eq_false (by omega)
  have HK0 := Lib.hid hk0; clear hk0
  go_enter Try.func6, Try.ntmps6
  go_wp2_with fail
  go_at_call 32
  refine (szNoteS_any A0 n0 c0 _ hn0).mono ?_; rintro e w' ⟨rfl, rfl⟩
  go_wp2_with fail
  have S : Hid (w.Since w.heap.size w) := Lib.hid (World.Since.refl _ _)
  have LV : Hid (He w.heap.size w []) := Lib.hid trivial
  go_at_call 34
  refine (toNoteS_any A0 n0 c0 x0 w _ F0.out S.out hn0).mono ?_
  rintro e v1 ⟨rfl, hg, hs⟩
  have LV' := Lib.hid (LV.out.new hs hg S.out.size); clear LV; have LV := LV'; clear LV'
  have S' := Lib.hid (since_step S.out hs); clear S; have S := S'; clear S'
  clear hs hg
  go_wp2_with fail
  go_at_call 33
  refine (HSP.out _ _ ((LV.out.1.1).readS (by decide))).mono ?_
  rintro e v2 ⟨rfl, hs⟩
  have LV' := Lib.hid ((LV.out.2).since hs); clear LV; have LV := LV'; clear LV'
  have S' := Lib.hid (since_step S.out hs); clear S; have S := S'; clear S'
  clear hs
  go_wp2_with fail
  go_at_call 34
  refine (toNoteS_any A0 n0 c0 x0 w _ F0.out S.out hn0).mono ?_
  rintro e v3 ⟨rfl, hg, hs⟩
  have LV' := Lib.hid (LV.out.new hs hg S.out.size); clear LV; have LV := LV'; clear LV'
  have S' := Lib.hid (since_step S.out hs); clear S; have S := S'; clear S'
  clear hs hg
  go_wp2_with fail
  go_at_call 35
  refine (HIM.out _ _ ((LV.out.1.1).readS (by decide))).mono ?_
  rintro e v4 ⟨rfl, hs⟩
  have LV' := Lib.hid ((LV.out).since hs); clear LV; have LV := LV'; clear LV'
  have S' := Lib.hid (since_step S.out hs); clear S; have S := S'; clear S'
  clear hs
  go_wp2_with fail
  go_at_call 34
  refine (toNoteS_any A0 n0 c0 x0 w _ F0.out S.out hn0).mono ?_
  rintro e v5 ⟨rfl, hg, hs⟩
  have LV' := Lib.hid (LV.out.new hs hg S.out.size); clear LV; have LV := LV'; clear LV'
  have S' := Lib.hid (since_step S.out hs); clear S; have S := S'; clear S'
  clear hs hg
  go_wp2_with fail
  go_at_call 36
  refine (eqNoteS_any _ _ n0 _ _ x0 x0 _ _ (Nat.le_refl _) ((LV.out.2.1.1).readS (by decide)) ((LV.out.1.1).readS (by decide)) hn0 (fun k hk => ⟨HK0.out k hk, HK0.out k hk, NoteR.same_refl _⟩)).mono ?_
  rintro e v6 ⟨rfl, hs⟩
  have S' := Lib.hid (since_step S.out hs); clear S; have S := S'; clear S'
  have LV' := Lib.hid (LV.out.since hs); clear LV; have LV := LV'; clear LV'
  clear hs
  have LV' := Lib.hid LV.out.2; clear LV; have LV := LV'; clear LV'
  go_wp2_with fail
  go_ret
  exact ⟨rfl, S.out⟩
set_option maxHeartbeats 2000000 in
set_option maxRecDepth 100000 in
theorem lawAreNotes_big (A0 : Option Addr) (n0 c0 : Nat) (w : World) (h : 1048576 < n0)
    (hb0 : n0 ≤ 9223372036854775807)
    : Calls Try.prog 6 #[.slice A0 n0 c0] w fun e w' => e = .returned (.bool true) ∧ w.Since w.heap.size w' := by
  by_cases b0 : 1048576 < n0
  · have hd0 : decide ((1048576 : Int) < n0) = true := decide_eq_true (by omega)
    go_enter Try.func6, Try.ntmps6
    go_wp2_with (go_at_call 32; refine (szNoteS_big A0 n0 c0 _ b0 hb0).mono ?_; rintro e w' ⟨rfl, rfl⟩)
    go_ret
    exact ⟨rfl, by (repeat (first | (with_reducible refine Fl.sinDrew ?_) | (with_reducible refine World.Since.drew ?_) | (with_reducible refine Fl.sinSet ?_ ?_; rotate_left) | (with_reducible refine Fl.sinAlloc ?_ ?_; rotate_left) | with_reducible exact World.Since.refl _ _ | with_reducible assumption | (with_reducible refine Fl.sinStep (by with_reducible assumption) ?_))); all_goals (first | omega | (simp; done) | (simp; omega) | (simp [go_sem]; done) | (simp [go_sem]; omega))⟩
  · have hd0 : decide ((1048576 : Int) < n0) = false := decide_eq_false (by omega)
    omega
end Go.Proofs.Ytnhlnbnldpkmiaa
