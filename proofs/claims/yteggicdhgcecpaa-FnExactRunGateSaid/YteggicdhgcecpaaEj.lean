/- Walks of laws whose results are lists. -/
import Derived.Test.YteggicdhgcecpaaEi
import Derived.Test.YteggicdhgcecpaaFd
set_option linter.unusedVariables false
set_option linter.unusedSimpArgs false
namespace Go.Proofs.Yteggicdhgcecpaa
open Fl Go.RowKit
set_option maxHeartbeats 16000000 in
set_option maxRecDepth 100000 in
theorem lawClipSamples_gen (A0 : Option Addr) (n0 c0 : Nat) (x0 : List Nat) (a1 : Nat) (rn0 : Nat) (rf0 : Nat → Option Nat) (rb1 : Bool) (w : World)
    (h0 : Fs w w.heap.size A0 n0 x0) (hn0 : n0 ≤ 1048576) (hr0 : rn0 ≤ 1048576)
    (hsp : ∀ (v : World) (b0 : Nat), Fs v v.heap.size (some ⟨b0, 0, none⟩) n0 x0 → Calls Try.prog 26 #[.slice (some ⟨b0, 0, none⟩) n0 n0, .float .f32 a1] v (PLB rn0 rf0 rb1 v))
    (him : ∀ (v : World) (b0 : Nat), Fs v v.heap.size (some ⟨b0, 0, none⟩) n0 x0 → Calls Try.prog 27 #[.slice (some ⟨b0, 0, none⟩) n0 n0, .float .f32 a1] v (PLB rn0 rf0 rb1 v)) :
    Calls Try.prog 7 #[.slice A0 n0 c0, .float .f32 a1] w fun e w' => e = .returned (.bool true) ∧ w.Since w.heap.size w' := by
  have S0 : Hid (w.Since w.heap.size w) := Lib.hid (World.Since.refl _ _)
  have F0 : Hid (Fs w w.heap.size A0 n0 x0) := Lib.hid (h0.now S0.out); clear h0
  have hd0 : decide ((1048576 : Int) < n0) = false := decide_eq_false (by omega)
  have HSP := Lib.hid hsp; have HIM := Lib.hid him; clear hsp him
  go_enter Try.func7, Try.ntmps7
  go_wp2_with fail
  have S : Hid (w.Since w.heap.size w) := Lib.hid (World.Since.refl _ _)
  have LV : Hid (Lv 22 w.heap.size w []) := Lib.hid trivial
  go_at_call 12
  refine (toL_any A0 n0 c0 x0 w _ F0.out S.out hn0).mono ?_
  rintro e v1 ⟨rfl, hg, hs⟩
  have LV' := Lib.hid (LV.out.new hs hg S.out.size); clear LV; have LV := LV'; clear LV'
  have S' := Lib.hid (since_step S.out hs); clear S; have S := S'; clear S'
  clear hs hg
  go_wp2_with fail
  go_at_call 26
  refine (HSP.out _ _ (LV.out.1.1.read)).mono ?_
  rintro e v2 ⟨w0, kw0, rfl, hnw0, hgw0, hfw0, hs⟩
  have LV' := Lib.hid ((LV.out.2).new hs hgw0 S.out.size); clear LV; have LV := LV'; clear LV'
  have S' := Lib.hid (since_step S.out hs); clear S; have S := S'; clear S'
  have Kw0 := Lib.hid hfw0; have Nw0 := Lib.hid hnw0; clear hfw0 hgw0 hnw0
  clear hs
  go_wp2_with fail
  go_at_call 12
  refine (toL_any A0 n0 c0 x0 w _ F0.out S.out hn0).mono ?_
  rintro e v3 ⟨rfl, hg, hs⟩
  have LV' := Lib.hid (LV.out.new hs hg S.out.size); clear LV; have LV := LV'; clear LV'
  have S' := Lib.hid (since_step S.out hs); clear S; have S := S'; clear S'
  clear hs hg
  go_wp2_with fail
  go_at_call 27
  refine (HIM.out _ _ (LV.out.1.1.read)).mono ?_
  rintro e v4 ⟨g0, kg0, rfl, hng0, hgg0, hfg0, hs⟩
  have LV' := Lib.hid ((LV.out).new hs hgg0 S.out.size); clear LV; have LV := LV'; clear LV'
  have S' := Lib.hid (since_step S.out hs); clear S; have S := S'; clear S'
  have Kg0 := Lib.hid hfg0; have Ng0 := Lib.hid hng0; clear hfg0 hgg0 hng0
  clear hs
  go_wp2_with fail
  go_at_call 14
  refine (eqL_any g0 w0 _ _ _ _ LV.out.1.1.read LV.out.2.2.1.1.read (by rw [Ng0.out]; exact hr0) (Nw0.out.trans Ng0.out.symm) Kg0.out Kw0.out).mono ?_
  rintro e v5 ⟨rfl, hs⟩
  have S' := Lib.hid (since_step S.out hs); clear S; have S := S'; clear S'
  have LV' := Lib.hid (LV.out.since hs); clear LV; have LV := LV'; clear LV'
  clear hs
  go_wp2_with fail
  go_at_call 12
  refine (toL_any A0 n0 c0 x0 w _ F0.out S.out hn0).mono ?_
  rintro e v6 ⟨rfl, hg, hs⟩
  have LV' := Lib.hid (LV.out.new hs hg S.out.size); clear LV; have LV := LV'; clear LV'
  have S' := Lib.hid (since_step S.out hs); clear S; have S := S'; clear S'
  clear hs hg
  go_wp2_with fail
  go_at_call 14
  refine (eqL_any ⟨some ⟨v2.heap.size, 0, none⟩, n0, x0⟩ ⟨some ⟨v5.heap.size, 0, none⟩, n0, x0⟩ _ _ _ _ LV.out.2.2.1.1.read LV.out.1.1.read (by omega) rfl (fun _ _ => rfl) (fun _ _ => rfl)).mono ?_
  rintro e v7 ⟨rfl, hs⟩
  have S' := Lib.hid (since_step S.out hs); clear S; have S := S'; clear S'
  have LV' := Lib.hid (LV.out.since hs); clear LV; have LV := LV'; clear LV'
  clear hs
  have LV' := Lib.hid LV.out.2; clear LV; have LV := LV'; clear LV'
  go_wp2_with fail
  go_at_call 15
  refine (markL_any ⟨some ⟨v2.heap.size, 0, none⟩, n0, x0⟩ _ (1) _ _ _ _ (Lv.front [_] LV.out) (hn0) (by have := Ng0.out; omega) (by first | rfl | omega | (push_cast; omega))).mono ?_
  rintro e v8 ⟨rfl, hlv, hs⟩
  have LV' := Lib.hid hlv; clear LV hlv; have LV := LV'; clear LV'
  have S' := Lib.hid (since_mark S.out hs); clear S hs; have S := S'; clear S'
  go_wp2_with fail
  go_at_call 14
  refine (eqL_any g0 w0 _ _ _ _ LV.out.2.1.1.read LV.out.2.2.1.1.read (by rw [Ng0.out]; exact hr0) (Nw0.out.trans Ng0.out.symm) Kg0.out Kw0.out).mono ?_
  rintro e v9 ⟨rfl, hs⟩
  have S' := Lib.hid (since_step S.out hs); clear S; have S := S'; clear S'
  have LV' := Lib.hid (LV.out.since hs); clear LV; have LV := LV'; clear LV'
  clear hs
  go_wp2_with fail
  go_at_call 15
  refine (markL_any g0 _ (1) _ _ _ _ (Lv.front [_] LV.out) (by rw [Ng0.out]; exact hr0) (by have := Ng0.out; omega) (by first | rfl | omega | (push_cast; omega))).mono ?_
  rintro e v10 ⟨rfl, hlv, hs⟩
  have LV' := Lib.hid hlv; clear LV hlv; have LV := LV'; clear LV'
  have S' := Lib.hid (since_mark S.out hs); clear S hs; have S := S'; clear S'
  go_wp2_with fail
  go_at_call 16
  refine (heldL_any ⟨g0.A, g0.n, mk (1) g0.n⟩ _ (1) _ _ (LV.out.1.1.read) (by rw [Ng0.out]; exact hr0) (by have := Ng0.out; omega) (by first | rfl | omega | (push_cast; omega))).mono ?_
  rintro e v ⟨rfl, rfl⟩
  go_wp2_with fail
  go_at_call 12
  refine (toL_any A0 n0 c0 x0 w _ F0.out S.out hn0).mono ?_
  rintro e v11 ⟨rfl, hg, hs⟩
  have LV' := Lib.hid (LV.out.new hs hg S.out.size); clear LV; have LV := LV'; clear LV'
  have S' := Lib.hid (since_step S.out hs); clear S; have S := S'; clear S'
  clear hs hg
  go_wp2_with fail
  go_at_call 27
  refine (HIM.out _ _ (LV.out.1.1.read)).mono ?_
  rintro e v12 ⟨h0, kh0, rfl, hnh0, hgh0, hfh0, hs⟩
  have LV' := Lib.hid ((LV.out.2).new hs hgh0 S.out.size); clear LV; have LV := LV'; clear LV'
  have S' := Lib.hid (since_step S.out hs); clear S; have S := S'; clear S'
  have Kh0 := Lib.hid hfh0; have Nh0 := Lib.hid hnh0; clear hfh0 hgh0 hnh0
  clear hs
  go_wp2_with fail
  go_at_call 14
  refine (eqL_any h0 w0 _ _ _ _ LV.out.1.1.read LV.out.2.2.2.1.1.read (by rw [Nh0.out]; exact hr0) (Nw0.out.trans Nh0.out.symm) Kh0.out Kw0.out).mono ?_
  rintro e v13 ⟨rfl, hs⟩
  have S' := Lib.hid (since_step S.out hs); clear S; have S := S'; clear S'
  have LV' := Lib.hid (LV.out.since hs); clear LV; have LV := LV'; clear LV'
  clear hs
  go_wp2_with fail
  go_at_call 16
  refine (heldL_any ⟨g0.A, g0.n, mk (1) g0.n⟩ _ (1) _ _ (LV.out.2.1.1.read) (by rw [Ng0.out]; exact hr0) (by have := Ng0.out; omega) (by first | rfl | omega | (push_cast; omega))).mono ?_
  rintro e v ⟨rfl, rfl⟩
  go_wp2_with fail
  go_ret
  exact ⟨rfl, S.out⟩
set_option maxHeartbeats 2000000 in
set_option maxRecDepth 100000 in
theorem lawClipSamples_big (A0 : Option Addr) (n0 c0 : Nat) (a1 : Nat) (w : World) (h : 1048576 < n0) :
    Calls Try.prog 7 #[.slice A0 n0 c0, .float .f32 a1] w fun e w' => e = .returned (.bool true) ∧ w.Since w.heap.size w' := by
  by_cases b0 : 1048576 < n0
  · have hd0 : decide ((1048576 : Int) < n0) = true := decide_eq_true (by omega)
    go_enter Try.func7, Try.ntmps7
    go_wp2
    go_ret
    exact ⟨rfl, by (repeat (first | (with_reducible refine Fl.sinDrew ?_) | (with_reducible refine World.Since.drew ?_) | (with_reducible refine Fl.sinSet ?_ ?_; rotate_left) | (with_reducible refine Fl.sinAlloc ?_ ?_; rotate_left) | with_reducible exact World.Since.refl _ _ | with_reducible assumption | (with_reducible refine Fl.sinStep (by with_reducible assumption) ?_))); all_goals (first | omega | (simp; done) | (simp; omega) | (simp [go_sem]; done) | (simp [go_sem]; omega))⟩
  · have hd0 : decide ((1048576 : Int) < n0) = false := decide_eq_false (by omega)
    omega
set_option maxHeartbeats 16000000 in
set_option maxRecDepth 100000 in
theorem lawRunGate_gen (A0 : Option Addr) (n0 c0 : Nat) (x0 : List Nat) (a1 : Nat) (a2 : Int) (a3 : Int) (rn0 : Nat) (rf0 : Nat → Option Nat) (ri1 : Int) (rb2 : Bool) (w : World)
    (h0 : Fs w w.heap.size A0 n0 x0) (hn0 : n0 ≤ 1048576) (hr0 : rn0 ≤ 1048576)
    (hsp : ∀ (v : World) (b0 : Nat), Fs v v.heap.size (some ⟨b0, 0, none⟩) n0 x0 → Calls Try.prog 24 #[.slice (some ⟨b0, 0, none⟩) n0 n0, .float .f32 a1, .int .i64 a2, .int .i64 a3] v (PLIB rn0 rf0 ri1 rb2 v))
    (him : ∀ (v : World) (b0 : Nat), Fs v v.heap.size (some ⟨b0, 0, none⟩) n0 x0 → Calls Try.prog 25 #[.slice (some ⟨b0, 0, none⟩) n0 n0, .float .f32 a1, .int .i64 a2, .int .i64 a3] v (PLIB rn0 rf0 ri1 rb2 v)) :
    Calls Try.prog 6 #[.slice A0 n0 c0, .float .f32 a1, .int .i64 a2, .int .i64 a3] w fun e w' => e = .returned (.bool true) ∧ w.Since w.heap.size w' := by
  have S0 : Hid (w.Since w.heap.size w) := Lib.hid (World.Since.refl _ _)
  have F0 : Hid (Fs w w.heap.size A0 n0 x0) := Lib.hid (h0.now S0.out); clear h0
  have hd0 : decide ((1048576 : Int) < n0) = false := decide_eq_false (by omega)
  have HSP := Lib.hid hsp; have HIM := Lib.hid him; clear hsp him
  go_enter Try.func6, Try.ntmps6
  go_wp2_with fail
  have S : Hid (w.Since w.heap.size w) := Lib.hid (World.Since.refl _ _)
  have LV : Hid (Lv 22 w.heap.size w []) := Lib.hid trivial
  go_at_call 12
  refine (toL_any A0 n0 c0 x0 w _ F0.out S.out hn0).mono ?_
  rintro e v1 ⟨rfl, hg, hs⟩
  have LV' := Lib.hid (LV.out.new hs hg S.out.size); clear LV; have LV := LV'; clear LV'
  have S' := Lib.hid (since_step S.out hs); clear S; have S := S'; clear S'
  clear hs hg
  go_wp2_with fail
  go_at_call 24
  refine (HSP.out _ _ (LV.out.1.1.read)).mono ?_
  rintro e v2 ⟨w0, kw0, rfl, hnw0, hgw0, hfw0, hs⟩
  have LV' := Lib.hid ((LV.out.2).new hs hgw0 S.out.size); clear LV; have LV := LV'; clear LV'
  have S' := Lib.hid (since_step S.out hs); clear S; have S := S'; clear S'
  have Kw0 := Lib.hid hfw0; have Nw0 := Lib.hid hnw0; clear hfw0 hgw0 hnw0
  clear hs
  go_wp2_with fail
  go_at_call 12
  refine (toL_any A0 n0 c0 x0 w _ F0.out S.out hn0).mono ?_
  rintro e v3 ⟨rfl, hg, hs⟩
  have LV' := Lib.hid (LV.out.new hs hg S.out.size); clear LV; have LV := LV'; clear LV'
  have S' := Lib.hid (since_step S.out hs); clear S; have S := S'; clear S'
  clear hs hg
  go_wp2_with fail
  go_at_call 25
  refine (HIM.out _ _ (LV.out.1.1.read)).mono ?_
  rintro e v4 ⟨g0, kg0, rfl, hng0, hgg0, hfg0, hs⟩
  have LV' := Lib.hid ((LV.out).new hs hgg0 S.out.size); clear LV; have LV := LV'; clear LV'
  have S' := Lib.hid (since_step S.out hs); clear S; have S := S'; clear S'
  have Kg0 := Lib.hid hfg0; have Ng0 := Lib.hid hng0; clear hfg0 hgg0 hng0
  clear hs
  go_wp2_with fail
  go_at_call 14
  refine (eqL_any g0 w0 _ _ _ _ LV.out.1.1.read LV.out.2.2.1.1.read (by rw [Ng0.out]; exact hr0) (Nw0.out.trans Ng0.out.symm) Kg0.out Kw0.out).mono ?_
  rintro e v5 ⟨rfl, hs⟩
  have S' := Lib.hid (since_step S.out hs); clear S; have S := S'; clear S'
  have LV' := Lib.hid (LV.out.since hs); clear LV; have LV := LV'; clear LV'
  clear hs
  go_wp2_with fail
  go_at_call 12
  refine (toL_any A0 n0 c0 x0 w _ F0.out S.out hn0).mono ?_
  rintro e v6 ⟨rfl, hg, hs⟩
  have LV' := Lib.hid (LV.out.new hs hg S.out.size); clear LV; have LV := LV'; clear LV'
  have S' := Lib.hid (since_step S.out hs); clear S; have S := S'; clear S'
  clear hs hg
  go_wp2_with fail
  go_at_call 14
  refine (eqL_any ⟨some ⟨v2.heap.size, 0, none⟩, n0, x0⟩ ⟨some ⟨v5.heap.size, 0, none⟩, n0, x0⟩ _ _ _ _ LV.out.2.2.1.1.read LV.out.1.1.read (by omega) rfl (fun _ _ => rfl) (fun _ _ => rfl)).mono ?_
  rintro e v7 ⟨rfl, hs⟩
  have S' := Lib.hid (since_step S.out hs); clear S; have S := S'; clear S'
  have LV' := Lib.hid (LV.out.since hs); clear LV; have LV := LV'; clear LV'
  clear hs
  have LV' := Lib.hid LV.out.2; clear LV; have LV := LV'; clear LV'
  go_wp2_with fail
  go_at_call 15
  refine (markL_any ⟨some ⟨v2.heap.size, 0, none⟩, n0, x0⟩ _ (1) _ _ _ _ (Lv.front [_] LV.out) (hn0) (by have := Ng0.out; omega) (by first | rfl | omega | (push_cast; omega))).mono ?_
  rintro e v8 ⟨rfl, hlv, hs⟩
  have LV' := Lib.hid hlv; clear LV hlv; have LV := LV'; clear LV'
  have S' := Lib.hid (since_mark S.out hs); clear S hs; have S := S'; clear S'
  go_wp2_with fail
  go_at_call 14
  refine (eqL_any g0 w0 _ _ _ _ LV.out.2.1.1.read LV.out.2.2.1.1.read (by rw [Ng0.out]; exact hr0) (Nw0.out.trans Ng0.out.symm) Kg0.out Kw0.out).mono ?_
  rintro e v9 ⟨rfl, hs⟩
  have S' := Lib.hid (since_step S.out hs); clear S; have S := S'; clear S'
  have LV' := Lib.hid (LV.out.since hs); clear LV; have LV := LV'; clear LV'
  clear hs
  go_wp2_with fail
  go_at_call 15
  refine (markL_any g0 _ (1) _ _ _ _ (Lv.front [_] LV.out) (by rw [Ng0.out]; exact hr0) (by have := Ng0.out; omega) (by first | rfl | omega | (push_cast; omega))).mono ?_
  rintro e v10 ⟨rfl, hlv, hs⟩
  have LV' := Lib.hid hlv; clear LV hlv; have LV := LV'; clear LV'
  have S' := Lib.hid (since_mark S.out hs); clear S hs; have S := S'; clear S'
  go_wp2_with fail
  go_at_call 16
  refine (heldL_any ⟨g0.A, g0.n, mk (1) g0.n⟩ _ (1) _ _ (LV.out.1.1.read) (by rw [Ng0.out]; exact hr0) (by have := Ng0.out; omega) (by first | rfl | omega | (push_cast; omega))).mono ?_
  rintro e v ⟨rfl, rfl⟩
  go_wp2_with fail
  go_at_call 12
  refine (toL_any A0 n0 c0 x0 w _ F0.out S.out hn0).mono ?_
  rintro e v11 ⟨rfl, hg, hs⟩
  have LV' := Lib.hid (LV.out.new hs hg S.out.size); clear LV; have LV := LV'; clear LV'
  have S' := Lib.hid (since_step S.out hs); clear S; have S := S'; clear S'
  clear hs hg
  go_wp2_with fail
  go_at_call 25
  refine (HIM.out _ _ (LV.out.1.1.read)).mono ?_
  rintro e v12 ⟨h0, kh0, rfl, hnh0, hgh0, hfh0, hs⟩
  have LV' := Lib.hid ((LV.out.2).new hs hgh0 S.out.size); clear LV; have LV := LV'; clear LV'
  have S' := Lib.hid (since_step S.out hs); clear S; have S := S'; clear S'
  have Kh0 := Lib.hid hfh0; have Nh0 := Lib.hid hnh0; clear hfh0 hgh0 hnh0
  clear hs
  go_wp2_with fail
  go_at_call 14
  refine (eqL_any h0 w0 _ _ _ _ LV.out.1.1.read LV.out.2.2.2.1.1.read (by rw [Nh0.out]; exact hr0) (Nw0.out.trans Nh0.out.symm) Kh0.out Kw0.out).mono ?_
  rintro e v13 ⟨rfl, hs⟩
  have S' := Lib.hid (since_step S.out hs); clear S; have S := S'; clear S'
  have LV' := Lib.hid (LV.out.since hs); clear LV; have LV := LV'; clear LV'
  clear hs
  go_wp2_with fail
  go_at_call 16
  refine (heldL_any ⟨g0.A, g0.n, mk (1) g0.n⟩ _ (1) _ _ (LV.out.2.1.1.read) (by rw [Ng0.out]; exact hr0) (by have := Ng0.out; omega) (by first | rfl | omega | (push_cast; omega))).mono ?_
  rintro e v ⟨rfl, rfl⟩
  go_wp2_with fail
  go_ret
  exact ⟨rfl, S.out⟩
set_option maxHeartbeats 2000000 in
set_option maxRecDepth 100000 in
theorem lawRunGate_big (A0 : Option Addr) (n0 c0 : Nat) (a1 : Nat) (a2 : Int) (a3 : Int) (w : World) (h : 1048576 < n0) :
    Calls Try.prog 6 #[.slice A0 n0 c0, .float .f32 a1, .int .i64 a2, .int .i64 a3] w fun e w' => e = .returned (.bool true) ∧ w.Since w.heap.size w' := by
  by_cases b0 : 1048576 < n0
  · have hd0 : decide ((1048576 : Int) < n0) = true := decide_eq_true (by omega)
    go_enter Try.func6, Try.ntmps6
    go_wp2
    go_ret
    exact ⟨rfl, by (repeat (first | (with_reducible refine Fl.sinDrew ?_) | (with_reducible refine World.Since.drew ?_) | (with_reducible refine Fl.sinSet ?_ ?_; rotate_left) | (with_reducible refine Fl.sinAlloc ?_ ?_; rotate_left) | with_reducible exact World.Since.refl _ _ | with_reducible assumption | (with_reducible refine Fl.sinStep (by with_reducible assumption) ?_))); all_goals (first | omega | (simp; done) | (simp; omega) | (simp [go_sem]; done) | (simp [go_sem]; omega))⟩
  · have hd0 : decide ((1048576 : Int) < n0) = false := decide_eq_false (by omega)
    omega
end Go.Proofs.Yteggicdhgcecpaa
