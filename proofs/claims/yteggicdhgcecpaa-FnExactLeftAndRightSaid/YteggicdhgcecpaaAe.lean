/- Walks of laws whose results are lists. -/
import Derived.Test.YteggicdhgcecpaaHb
set_option linter.unusedVariables false
set_option linter.unusedSimpArgs false
namespace Go.Proofs.Yteggicdhgcecpaa
open Fl Go.RowKit
set_option maxHeartbeats 16000000 in
set_option maxRecDepth 100000 in
theorem lawLeftAndRight_gen (A0 : Option Addr) (n0 c0 : Nat) (x0 : List Nat) (A1 : Option Addr) (n1 c1 : Nat) (x1 : List Nat) (rn0 : Nat) (rf0 : Nat → Option Nat) (rn1 : Nat) (rf1 : Nat → Option Nat) (rb2 : Bool) (w : World)
    (h0 : Fs w w.heap.size A0 n0 x0) (hn0 : n0 ≤ 1048576) (h1 : Fs w w.heap.size A1 n1 x1) (hn1 : n1 ≤ 1048576) (hr0 : rn0 ≤ 1048576) (hr1 : rn1 ≤ 1048576)
    (hsp : ∀ (v : World) (b0 : Nat) (b1 : Nat), Fs v v.heap.size (some ⟨b0, 0, none⟩) n0 x0 → Fs v v.heap.size (some ⟨b1, 0, none⟩) n1 x1 → Calls Try.prog 30 #[.slice (some ⟨b0, 0, none⟩) n0 n0, .slice (some ⟨b1, 0, none⟩) n1 n1] v (PEEB rn0 rf0 rn1 rf1 rb2 v))
    (him : ∀ (v : World) (b0 : Nat) (b1 : Nat), Fs v v.heap.size (some ⟨b0, 0, none⟩) n0 x0 → Fs v v.heap.size (some ⟨b1, 0, none⟩) n1 x1 → Calls Try.prog 31 #[.slice (some ⟨b0, 0, none⟩) n0 n0, .slice (some ⟨b1, 0, none⟩) n1 n1] v (PEEB rn0 rf0 rn1 rf1 rb2 v)) :
    Calls Try.prog 9 #[.slice A0 n0 c0, .slice A1 n1 c1] w fun e w' => e = .returned (.bool true) ∧ w.Since w.heap.size w' := by
  have S0 : Hid (w.Since w.heap.size w) := Lib.hid (World.Since.refl _ _)
  have F0 : Hid (Fs w w.heap.size A0 n0 x0) := Lib.hid (h0.now S0.out); clear h0
  have hd0 : decide ((1048576 : Int) < n0) = false := decide_eq_false (by omega)
  have F1 : Hid (Fs w w.heap.size A1 n1 x1) := Lib.hid (h1.now S0.out); clear h1
  have hd1 : decide ((1048576 : Int) < n1) = false := decide_eq_false (by omega)
  have HSP := Lib.hid hsp; have HIM := Lib.hid him; clear hsp him
  go_enter Try.func9, Try.ntmps9
  go_wp2_with fail
  have S : Hid (w.Since w.heap.size w) := Lib.hid (World.Since.refl _ _)
  have LV : Hid (He w.heap.size w []) := Lib.hid trivial
  go_at_call 12
  refine (toFE_any A0 n0 c0 x0 w _ F0.out S.out hn0).mono ?_
  rintro e v1 ⟨rfl, hg, hs⟩
  have LV' := Lib.hid (LV.out.new hs hg S.out.size); clear LV; have LV := LV'; clear LV'
  have S' := Lib.hid (since_step S.out hs); clear S; have S := S'; clear S'
  clear hs hg
  go_wp2_with fail
  go_at_call 12
  refine (toFE_any A1 n1 c1 x1 w _ F1.out S.out hn1).mono ?_
  rintro e v2 ⟨rfl, hg, hs⟩
  have LV' := Lib.hid (LV.out.new hs hg S.out.size); clear LV; have LV := LV'; clear LV'
  have S' := Lib.hid (since_step S.out hs); clear S; have S := S'; clear S'
  clear hs hg
  go_wp2_with fail
  go_at_call 30
  refine (HSP.out _ _ _ ((LV.out.2.1.1).readF) ((LV.out.1.1).readF)).mono ?_
  rintro e v3 ⟨w0, w1, kw0, kw1, rfl, hnw0, hnw1, hgw0, hgw1, hfw0, hfw1, hdj, hs⟩
  have LV' := Lib.hid ((LV.out.2.2).new2 hs hgw0 hgw1 hdj S.out.size); clear LV; have LV := LV'; clear LV'
  have S' := Lib.hid (since_step S.out hs); clear S; have S := S'; clear S'
  have Kw0 := Lib.hid hfw0; have Nw0 := Lib.hid hnw0; clear hfw0 hgw0 hnw0
  have Kw1 := Lib.hid hfw1; have Nw1 := Lib.hid hnw1; clear hfw1 hgw1 hnw1
  clear hs hdj
  go_wp2_with fail
  go_at_call 12
  refine (toFE_any A0 n0 c0 x0 w _ F0.out S.out hn0).mono ?_
  rintro e v4 ⟨rfl, hg, hs⟩
  have LV' := Lib.hid (LV.out.new hs hg S.out.size); clear LV; have LV := LV'; clear LV'
  have S' := Lib.hid (since_step S.out hs); clear S; have S := S'; clear S'
  clear hs hg
  go_wp2_with fail
  go_at_call 12
  refine (toFE_any A1 n1 c1 x1 w _ F1.out S.out hn1).mono ?_
  rintro e v5 ⟨rfl, hg, hs⟩
  have LV' := Lib.hid (LV.out.new hs hg S.out.size); clear LV; have LV := LV'; clear LV'
  have S' := Lib.hid (since_step S.out hs); clear S; have S := S'; clear S'
  clear hs hg
  go_wp2_with fail
  go_at_call 31
  refine (HIM.out _ _ _ ((LV.out.2.1.1).readF) ((LV.out.1.1).readF)).mono ?_
  rintro e v6 ⟨g0, g1, kg0, kg1, rfl, hng0, hng1, hgg0, hgg1, hfg0, hfg1, hdj, hs⟩
  have LV' := Lib.hid ((LV.out).new2 hs hgg0 hgg1 hdj S.out.size); clear LV; have LV := LV'; clear LV'
  have S' := Lib.hid (since_step S.out hs); clear S; have S := S'; clear S'
  have Kg0 := Lib.hid hfg0; have Ng0 := Lib.hid hng0; clear hfg0 hgg0 hng0
  have Kg1 := Lib.hid hfg1; have Ng1 := Lib.hid hng1; clear hfg1 hgg1 hng1
  clear hs hdj
  go_wp2_with fail
  go_at_call 14
  refine (eqL_any g0 w0 _ _ _ _ (LV.out.1.1).readF (LV.out.2.2.2.2.1.1).readF (by rw [Ng0.out]; exact hr0) (Nw0.out.trans Ng0.out.symm) Kg0.out Kw0.out).mono ?_
  rintro e v7 ⟨rfl, hs⟩
  have S' := Lib.hid (since_step S.out hs); clear S; have S := S'; clear S'
  have LV' := Lib.hid (LV.out.since hs); clear LV; have LV := LV'; clear LV'
  clear hs
  go_wp2_with fail
  go_at_call 14
  refine (eqL_any g1 w1 _ _ _ _ (LV.out.2.1.1).readF (LV.out.2.2.2.2.2.1.1).readF (by rw [Ng1.out]; exact hr1) (Nw1.out.trans Ng1.out.symm) Kg1.out Kw1.out).mono ?_
  rintro e v8 ⟨rfl, hs⟩
  have S' := Lib.hid (since_step S.out hs); clear S; have S := S'; clear S'
  have LV' := Lib.hid (LV.out.since hs); clear LV; have LV := LV'; clear LV'
  clear hs
  go_wp2_with fail
  go_at_call 12
  refine (toFE_any A0 n0 c0 x0 w _ F0.out S.out hn0).mono ?_
  rintro e v9 ⟨rfl, hg, hs⟩
  have LV' := Lib.hid (LV.out.new hs hg S.out.size); clear LV; have LV := LV'; clear LV'
  have S' := Lib.hid (since_step S.out hs); clear S; have S := S'; clear S'
  clear hs hg
  go_wp2_with fail
  go_at_call 14
  refine (eqL_any ⟨some ⟨v3.heap.size, 0, none⟩, n0, x0⟩ ⟨some ⟨v8.heap.size, 0, none⟩, n0, x0⟩ _ _ _ _ (LV.out.2.2.2.2.1.1).readF (LV.out.1.1).readF (by omega) rfl (fun _ _ => rfl) (fun _ _ => rfl)).mono ?_
  rintro e v10 ⟨rfl, hs⟩
  have S' := Lib.hid (since_step S.out hs); clear S; have S := S'; clear S'
  have LV' := Lib.hid (LV.out.since hs); clear LV; have LV := LV'; clear LV'
  clear hs
  have LV' := Lib.hid LV.out.2; clear LV; have LV := LV'; clear LV'
  go_wp2_with fail
  go_at_call 12
  refine (toFE_any A1 n1 c1 x1 w _ F1.out S.out hn1).mono ?_
  rintro e v11 ⟨rfl, hg, hs⟩
  have LV' := Lib.hid (LV.out.new hs hg S.out.size); clear LV; have LV := LV'; clear LV'
  have S' := Lib.hid (since_step S.out hs); clear S; have S := S'; clear S'
  clear hs hg
  go_wp2_with fail
  go_at_call 14
  refine (eqL_any ⟨some ⟨v4.heap.size, 0, none⟩, n1, x1⟩ ⟨some ⟨v10.heap.size, 0, none⟩, n1, x1⟩ _ _ _ _ (LV.out.2.2.2.1.1).readF (LV.out.1.1).readF (by omega) rfl (fun _ _ => rfl) (fun _ _ => rfl)).mono ?_
  rintro e v12 ⟨rfl, hs⟩
  have S' := Lib.hid (since_step S.out hs); clear S; have S := S'; clear S'
  have LV' := Lib.hid (LV.out.since hs); clear LV; have LV := LV'; clear LV'
  clear hs
  have LV' := Lib.hid LV.out.2; clear LV; have LV := LV'; clear LV'
  go_wp2_with fail
  go_at_call 15
  refine (markFE_any (some ⟨v3.heap.size, 0, none⟩) n0 x0 _ (1) _ _ _ _ (He.front [_, _, _] LV.out) (hn0) (by have := Ng0.out; have := Ng1.out; omega) (by first | rfl | omega | (push_cast; omega))).mono ?_
  rintro e v13 ⟨rfl, hlv, hs⟩
  have LV' := Lib.hid hlv; clear LV hlv; have LV := LV'; clear LV'
  have S' := Lib.hid (since_mark S.out hs); clear S hs; have S := S'; clear S'
  go_wp2_with fail
  go_at_call 15
  refine (markFE_any (some ⟨v4.heap.size, 0, none⟩) n1 x1 _ (1 + n0) _ _ _ _ (He.front [_, _, _] LV.out) (hn1) (by have := Ng0.out; have := Ng1.out; omega) (by first | rfl | omega | (push_cast; omega))).mono ?_
  rintro e v14 ⟨rfl, hlv, hs⟩
  have LV' := Lib.hid hlv; clear LV hlv; have LV := LV'; clear LV'
  have S' := Lib.hid (since_mark S.out hs); clear S hs; have S := S'; clear S'
  go_wp2_with fail
  go_at_call 14
  refine (eqL_any g0 w0 _ _ _ _ (LV.out.2.2.1.1).readF (LV.out.2.2.2.2.1.1).readF (by rw [Ng0.out]; exact hr0) (Nw0.out.trans Ng0.out.symm) Kg0.out Kw0.out).mono ?_
  rintro e v15 ⟨rfl, hs⟩
  have S' := Lib.hid (since_step S.out hs); clear S; have S := S'; clear S'
  have LV' := Lib.hid (LV.out.since hs); clear LV; have LV := LV'; clear LV'
  clear hs
  go_wp2_with fail
  go_at_call 14
  refine (eqL_any g1 w1 _ _ _ _ (LV.out.2.2.2.1.1).readF (LV.out.2.2.2.2.2.1.1).readF (by rw [Ng1.out]; exact hr1) (Nw1.out.trans Ng1.out.symm) Kg1.out Kw1.out).mono ?_
  rintro e v16 ⟨rfl, hs⟩
  have S' := Lib.hid (since_step S.out hs); clear S; have S := S'; clear S'
  have LV' := Lib.hid (LV.out.since hs); clear LV; have LV := LV'; clear LV'
  clear hs
  go_wp2_with fail
  go_at_call 15
  refine (markFE_any g0.A g0.n g0.xs _ (1) _ _ _ _ (He.front [_, _] LV.out) (by rw [Ng0.out]; exact hr0) (by have := Ng0.out; have := Ng1.out; omega) (by first | rfl | omega | (push_cast; omega))).mono ?_
  rintro e v17 ⟨rfl, hlv, hs⟩
  have LV' := Lib.hid hlv; clear LV hlv; have LV := LV'; clear LV'
  have S' := Lib.hid (since_mark S.out hs); clear S hs; have S := S'; clear S'
  go_wp2_with fail
  go_at_call 15
  refine (markFE_any g1.A g1.n g1.xs _ (1 + g0.n) _ _ _ _ (He.front [_, _, _] LV.out) (by rw [Ng1.out]; exact hr1) (by have := Ng0.out; have := Ng1.out; omega) (by first | rfl | omega | (push_cast; omega))).mono ?_
  rintro e v18 ⟨rfl, hlv, hs⟩
  have LV' := Lib.hid hlv; clear LV hlv; have LV := LV'; clear LV'
  have S' := Lib.hid (since_mark S.out hs); clear S hs; have S := S'; clear S'
  go_wp2_with fail
  go_at_call 16
  refine (heldFE_any g0.A g0.n _ (1) _ _ _ ((LV.out.2.1.1)) (by rw [Ng0.out]; exact hr0) (by have := Ng0.out; have := Ng1.out; omega) (by first | rfl | omega | (push_cast; omega))).mono ?_
  rintro e v ⟨rfl, rfl⟩
  go_wp2_with fail
  go_at_call 16
  refine (heldFE_any g1.A g1.n _ (1 + g0.n) _ _ _ ((LV.out.1.1)) (by rw [Ng1.out]; exact hr1) (by have := Ng0.out; have := Ng1.out; omega) (by first | rfl | omega | (push_cast; omega))).mono ?_
  rintro e v ⟨rfl, rfl⟩
  go_wp2_with fail
  go_at_call 12
  refine (toFE_any A0 n0 c0 x0 w _ F0.out S.out hn0).mono ?_
  rintro e v19 ⟨rfl, hg, hs⟩
  have LV' := Lib.hid (LV.out.new hs hg S.out.size); clear LV; have LV := LV'; clear LV'
  have S' := Lib.hid (since_step S.out hs); clear S; have S := S'; clear S'
  clear hs hg
  go_wp2_with fail
  go_at_call 12
  refine (toFE_any A1 n1 c1 x1 w _ F1.out S.out hn1).mono ?_
  rintro e v20 ⟨rfl, hg, hs⟩
  have LV' := Lib.hid (LV.out.new hs hg S.out.size); clear LV; have LV := LV'; clear LV'
  have S' := Lib.hid (since_step S.out hs); clear S; have S := S'; clear S'
  clear hs hg
  go_wp2_with fail
  go_at_call 31
  refine (HIM.out _ _ _ ((LV.out.2.1.1).readF) ((LV.out.1.1).readF)).mono ?_
  rintro e v21 ⟨h0, h1, kh0, kh1, rfl, hnh0, hnh1, hgh0, hgh1, hfh0, hfh1, hdj, hs⟩
  have LV' := Lib.hid ((LV.out.2.2).new2 hs hgh0 hgh1 hdj S.out.size); clear LV; have LV := LV'; clear LV'
  have S' := Lib.hid (since_step S.out hs); clear S; have S := S'; clear S'
  have Kh0 := Lib.hid hfh0; have Nh0 := Lib.hid hnh0; clear hfh0 hgh0 hnh0
  have Kh1 := Lib.hid hfh1; have Nh1 := Lib.hid hnh1; clear hfh1 hgh1 hnh1
  clear hs hdj
  go_wp2_with fail
  go_at_call 14
  refine (eqL_any h0 w0 _ _ _ _ (LV.out.1.1).readF (LV.out.2.2.2.2.2.2.1.1).readF (by rw [Nh0.out]; exact hr0) (Nw0.out.trans Nh0.out.symm) Kh0.out Kw0.out).mono ?_
  rintro e v22 ⟨rfl, hs⟩
  have S' := Lib.hid (since_step S.out hs); clear S; have S := S'; clear S'
  have LV' := Lib.hid (LV.out.since hs); clear LV; have LV := LV'; clear LV'
  clear hs
  go_wp2_with fail
  go_at_call 14
  refine (eqL_any h1 w1 _ _ _ _ (LV.out.2.1.1).readF (LV.out.2.2.2.2.2.2.2.1.1).readF (by rw [Nh1.out]; exact hr1) (Nw1.out.trans Nh1.out.symm) Kh1.out Kw1.out).mono ?_
  rintro e v23 ⟨rfl, hs⟩
  have S' := Lib.hid (since_step S.out hs); clear S; have S := S'; clear S'
  have LV' := Lib.hid (LV.out.since hs); clear LV; have LV := LV'; clear LV'
  clear hs
  go_wp2_with fail
  go_at_call 16
  refine (heldFE_any g0.A g0.n _ (1) _ _ _ ((LV.out.2.2.2.1.1)) (by rw [Ng0.out]; exact hr0) (by have := Ng0.out; have := Ng1.out; omega) (by first | rfl | omega | (push_cast; omega))).mono ?_
  rintro e v ⟨rfl, rfl⟩
  go_wp2_with fail
  go_at_call 16
  refine (heldFE_any g1.A g1.n _ (1 + g0.n) _ _ _ ((LV.out.2.2.1.1)) (by rw [Ng1.out]; exact hr1) (by have := Ng0.out; have := Ng1.out; omega) (by first | rfl | omega | (push_cast; omega))).mono ?_
  rintro e v ⟨rfl, rfl⟩
  go_wp2_with fail
  go_ret
  exact ⟨rfl, S.out⟩
set_option maxHeartbeats 2000000 in
set_option maxRecDepth 100000 in
theorem lawLeftAndRight_big (A0 : Option Addr) (n0 c0 : Nat) (A1 : Option Addr) (n1 c1 : Nat) (w : World) (h : 1048576 < n0 ∨ 1048576 < n1)
    
    : Calls Try.prog 9 #[.slice A0 n0 c0, .slice A1 n1 c1] w fun e w' => e = .returned (.bool true) ∧ w.Since w.heap.size w' := by
  by_cases b0 : 1048576 < n0
  · have hd0 : decide ((1048576 : Int) < n0) = true := decide_eq_true (by omega)
    go_enter Try.func9, Try.ntmps9
    go_wp2
    go_ret
    exact ⟨rfl, by (repeat (first | (with_reducible refine Fl.sinDrew ?_) | (with_reducible refine World.Since.drew ?_) | (with_reducible refine Fl.sinSet ?_ ?_; rotate_left) | (with_reducible refine Fl.sinAlloc ?_ ?_; rotate_left) | with_reducible exact World.Since.refl _ _ | with_reducible assumption | (with_reducible refine Fl.sinStep (by with_reducible assumption) ?_))); all_goals (first | omega | (simp; done) | (simp; omega) | (simp [go_sem]; done) | (simp [go_sem]; omega))⟩
  · have hd0 : decide ((1048576 : Int) < n0) = false := decide_eq_false (by omega)
    by_cases b1 : 1048576 < n1
    · have hd1 : decide ((1048576 : Int) < n1) = true := decide_eq_true (by omega)
      go_enter Try.func9, Try.ntmps9
      go_wp2
      go_ret
      exact ⟨rfl, by (repeat (first | (with_reducible refine Fl.sinDrew ?_) | (with_reducible refine World.Since.drew ?_) | (with_reducible refine Fl.sinSet ?_ ?_; rotate_left) | (with_reducible refine Fl.sinAlloc ?_ ?_; rotate_left) | with_reducible exact World.Since.refl _ _ | with_reducible assumption | (with_reducible refine Fl.sinStep (by with_reducible assumption) ?_))); all_goals (first | omega | (simp; done) | (simp; omega) | (simp [go_sem]; done) | (simp [go_sem]; omega))⟩
    · have hd1 : decide ((1048576 : Int) < n1) = false := decide_eq_false (by omega)
      omega
set_option maxHeartbeats 16000000 in
set_option maxRecDepth 100000 in
theorem lawMiddleAndSide_gen (A0 : Option Addr) (n0 c0 : Nat) (x0 : List Nat) (A1 : Option Addr) (n1 c1 : Nat) (x1 : List Nat) (rn0 : Nat) (rf0 : Nat → Option Nat) (rn1 : Nat) (rf1 : Nat → Option Nat) (rb2 : Bool) (w : World)
    (h0 : Fs w w.heap.size A0 n0 x0) (hn0 : n0 ≤ 1048576) (h1 : Fs w w.heap.size A1 n1 x1) (hn1 : n1 ≤ 1048576) (hr0 : rn0 ≤ 1048576) (hr1 : rn1 ≤ 1048576)
    (hsp : ∀ (v : World) (b0 : Nat) (b1 : Nat), Fs v v.heap.size (some ⟨b0, 0, none⟩) n0 x0 → Fs v v.heap.size (some ⟨b1, 0, none⟩) n1 x1 → Calls Try.prog 28 #[.slice (some ⟨b0, 0, none⟩) n0 n0, .slice (some ⟨b1, 0, none⟩) n1 n1] v (PEEB rn0 rf0 rn1 rf1 rb2 v))
    (him : ∀ (v : World) (b0 : Nat) (b1 : Nat), Fs v v.heap.size (some ⟨b0, 0, none⟩) n0 x0 → Fs v v.heap.size (some ⟨b1, 0, none⟩) n1 x1 → Calls Try.prog 29 #[.slice (some ⟨b0, 0, none⟩) n0 n0, .slice (some ⟨b1, 0, none⟩) n1 n1] v (PEEB rn0 rf0 rn1 rf1 rb2 v)) :
    Calls Try.prog 8 #[.slice A0 n0 c0, .slice A1 n1 c1] w fun e w' => e = .returned (.bool true) ∧ w.Since w.heap.size w' := by
  have S0 : Hid (w.Since w.heap.size w) := Lib.hid (World.Since.refl _ _)
  have F0 : Hid (Fs w w.heap.size A0 n0 x0) := Lib.hid (h0.now S0.out); clear h0
  have hd0 : decide ((1048576 : Int) < n0) = false := decide_eq_false (by omega)
  have F1 : Hid (Fs w w.heap.size A1 n1 x1) := Lib.hid (h1.now S0.out); clear h1
  have hd1 : decide ((1048576 : Int) < n1) = false := decide_eq_false (by omega)
  have HSP := Lib.hid hsp; have HIM := Lib.hid him; clear hsp him
  go_enter Try.func8, Try.ntmps8
  go_wp2_with fail
  have S : Hid (w.Since w.heap.size w) := Lib.hid (World.Since.refl _ _)
  have LV : Hid (He w.heap.size w []) := Lib.hid trivial
  go_at_call 12
  refine (toFE_any A0 n0 c0 x0 w _ F0.out S.out hn0).mono ?_
  rintro e v1 ⟨rfl, hg, hs⟩
  have LV' := Lib.hid (LV.out.new hs hg S.out.size); clear LV; have LV := LV'; clear LV'
  have S' := Lib.hid (since_step S.out hs); clear S; have S := S'; clear S'
  clear hs hg
  go_wp2_with fail
  go_at_call 12
  refine (toFE_any A1 n1 c1 x1 w _ F1.out S.out hn1).mono ?_
  rintro e v2 ⟨rfl, hg, hs⟩
  have LV' := Lib.hid (LV.out.new hs hg S.out.size); clear LV; have LV := LV'; clear LV'
  have S' := Lib.hid (since_step S.out hs); clear S; have S := S'; clear S'
  clear hs hg
  go_wp2_with fail
  go_at_call 28
  refine (HSP.out _ _ _ ((LV.out.2.1.1).readF) ((LV.out.1.1).readF)).mono ?_
  rintro e v3 ⟨w0, w1, kw0, kw1, rfl, hnw0, hnw1, hgw0, hgw1, hfw0, hfw1, hdj, hs⟩
  have LV' := Lib.hid ((LV.out.2.2).new2 hs hgw0 hgw1 hdj S.out.size); clear LV; have LV := LV'; clear LV'
  have S' := Lib.hid (since_step S.out hs); clear S; have S := S'; clear S'
  have Kw0 := Lib.hid hfw0; have Nw0 := Lib.hid hnw0; clear hfw0 hgw0 hnw0
  have Kw1 := Lib.hid hfw1; have Nw1 := Lib.hid hnw1; clear hfw1 hgw1 hnw1
  clear hs hdj
  go_wp2_with fail
  go_at_call 12
  refine (toFE_any A0 n0 c0 x0 w _ F0.out S.out hn0).mono ?_
  rintro e v4 ⟨rfl, hg, hs⟩
  have LV' := Lib.hid (LV.out.new hs hg S.out.size); clear LV; have LV := LV'; clear LV'
  have S' := Lib.hid (since_step S.out hs); clear S; have S := S'; clear S'
  clear hs hg
  go_wp2_with fail
  go_at_call 12
  refine (toFE_any A1 n1 c1 x1 w _ F1.out S.out hn1).mono ?_
  rintro e v5 ⟨rfl, hg, hs⟩
  have LV' := Lib.hid (LV.out.new hs hg S.out.size); clear LV; have LV := LV'; clear LV'
  have S' := Lib.hid (since_step S.out hs); clear S; have S := S'; clear S'
  clear hs hg
  go_wp2_with fail
  go_at_call 29
  refine (HIM.out _ _ _ ((LV.out.2.1.1).readF) ((LV.out.1.1).readF)).mono ?_
  rintro e v6 ⟨g0, g1, kg0, kg1, rfl, hng0, hng1, hgg0, hgg1, hfg0, hfg1, hdj, hs⟩
  have LV' := Lib.hid ((LV.out).new2 hs hgg0 hgg1 hdj S.out.size); clear LV; have LV := LV'; clear LV'
  have S' := Lib.hid (since_step S.out hs); clear S; have S := S'; clear S'
  have Kg0 := Lib.hid hfg0; have Ng0 := Lib.hid hng0; clear hfg0 hgg0 hng0
  have Kg1 := Lib.hid hfg1; have Ng1 := Lib.hid hng1; clear hfg1 hgg1 hng1
  clear hs hdj
  go_wp2_with fail
  go_at_call 14
  refine (eqL_any g0 w0 _ _ _ _ (LV.out.1.1).readF (LV.out.2.2.2.2.1.1).readF (by rw [Ng0.out]; exact hr0) (Nw0.out.trans Ng0.out.symm) Kg0.out Kw0.out).mono ?_
  rintro e v7 ⟨rfl, hs⟩
  have S' := Lib.hid (since_step S.out hs); clear S; have S := S'; clear S'
  have LV' := Lib.hid (LV.out.since hs); clear LV; have LV := LV'; clear LV'
  clear hs
  go_wp2_with fail
  go_at_call 14
  refine (eqL_any g1 w1 _ _ _ _ (LV.out.2.1.1).readF (LV.out.2.2.2.2.2.1.1).readF (by rw [Ng1.out]; exact hr1) (Nw1.out.trans Ng1.out.symm) Kg1.out Kw1.out).mono ?_
  rintro e v8 ⟨rfl, hs⟩
  have S' := Lib.hid (since_step S.out hs); clear S; have S := S'; clear S'
  have LV' := Lib.hid (LV.out.since hs); clear LV; have LV := LV'; clear LV'
  clear hs
  go_wp2_with fail
  go_at_call 12
  refine (toFE_any A0 n0 c0 x0 w _ F0.out S.out hn0).mono ?_
  rintro e v9 ⟨rfl, hg, hs⟩
  have LV' := Lib.hid (LV.out.new hs hg S.out.size); clear LV; have LV := LV'; clear LV'
  have S' := Lib.hid (since_step S.out hs); clear S; have S := S'; clear S'
  clear hs hg
  go_wp2_with fail
  go_at_call 14
  refine (eqL_any ⟨some ⟨v3.heap.size, 0, none⟩, n0, x0⟩ ⟨some ⟨v8.heap.size, 0, none⟩, n0, x0⟩ _ _ _ _ (LV.out.2.2.2.2.1.1).readF (LV.out.1.1).readF (by omega) rfl (fun _ _ => rfl) (fun _ _ => rfl)).mono ?_
  rintro e v10 ⟨rfl, hs⟩
  have S' := Lib.hid (since_step S.out hs); clear S; have S := S'; clear S'
  have LV' := Lib.hid (LV.out.since hs); clear LV; have LV := LV'; clear LV'
  clear hs
  have LV' := Lib.hid LV.out.2; clear LV; have LV := LV'; clear LV'
  go_wp2_with fail
  go_at_call 12
  refine (toFE_any A1 n1 c1 x1 w _ F1.out S.out hn1).mono ?_
  rintro e v11 ⟨rfl, hg, hs⟩
  have LV' := Lib.hid (LV.out.new hs hg S.out.size); clear LV; have LV := LV'; clear LV'
  have S' := Lib.hid (since_step S.out hs); clear S; have S := S'; clear S'
  clear hs hg
  go_wp2_with fail
  go_at_call 14
  refine (eqL_any ⟨some ⟨v4.heap.size, 0, none⟩, n1, x1⟩ ⟨some ⟨v10.heap.size, 0, none⟩, n1, x1⟩ _ _ _ _ (LV.out.2.2.2.1.1).readF (LV.out.1.1).readF (by omega) rfl (fun _ _ => rfl) (fun _ _ => rfl)).mono ?_
  rintro e v12 ⟨rfl, hs⟩
  have S' := Lib.hid (since_step S.out hs); clear S; have S := S'; clear S'
  have LV' := Lib.hid (LV.out.since hs); clear LV; have LV := LV'; clear LV'
  clear hs
  have LV' := Lib.hid LV.out.2; clear LV; have LV := LV'; clear LV'
  go_wp2_with fail
  go_at_call 15
  refine (markFE_any (some ⟨v3.heap.size, 0, none⟩) n0 x0 _ (1) _ _ _ _ (He.front [_, _, _] LV.out) (hn0) (by have := Ng0.out; have := Ng1.out; omega) (by first | rfl | omega | (push_cast; omega))).mono ?_
  rintro e v13 ⟨rfl, hlv, hs⟩
  have LV' := Lib.hid hlv; clear LV hlv; have LV := LV'; clear LV'
  have S' := Lib.hid (since_mark S.out hs); clear S hs; have S := S'; clear S'
  go_wp2_with fail
  go_at_call 15
  refine (markFE_any (some ⟨v4.heap.size, 0, none⟩) n1 x1 _ (1 + n0) _ _ _ _ (He.front [_, _, _] LV.out) (hn1) (by have := Ng0.out; have := Ng1.out; omega) (by first | rfl | omega | (push_cast; omega))).mono ?_
  rintro e v14 ⟨rfl, hlv, hs⟩
  have LV' := Lib.hid hlv; clear LV hlv; have LV := LV'; clear LV'
  have S' := Lib.hid (since_mark S.out hs); clear S hs; have S := S'; clear S'
  go_wp2_with fail
  go_at_call 14
  refine (eqL_any g0 w0 _ _ _ _ (LV.out.2.2.1.1).readF (LV.out.2.2.2.2.1.1).readF (by rw [Ng0.out]; exact hr0) (Nw0.out.trans Ng0.out.symm) Kg0.out Kw0.out).mono ?_
  rintro e v15 ⟨rfl, hs⟩
  have S' := Lib.hid (since_step S.out hs); clear S; have S := S'; clear S'
  have LV' := Lib.hid (LV.out.since hs); clear LV; have LV := LV'; clear LV'
  clear hs
  go_wp2_with fail
  go_at_call 14
  refine (eqL_any g1 w1 _ _ _ _ (LV.out.2.2.2.1.1).readF (LV.out.2.2.2.2.2.1.1).readF (by rw [Ng1.out]; exact hr1) (Nw1.out.trans Ng1.out.symm) Kg1.out Kw1.out).mono ?_
  rintro e v16 ⟨rfl, hs⟩
  have S' := Lib.hid (since_step S.out hs); clear S; have S := S'; clear S'
  have LV' := Lib.hid (LV.out.since hs); clear LV; have LV := LV'; clear LV'
  clear hs
  go_wp2_with fail
  go_at_call 15
  refine (markFE_any g0.A g0.n g0.xs _ (1) _ _ _ _ (He.front [_, _] LV.out) (by rw [Ng0.out]; exact hr0) (by have := Ng0.out; have := Ng1.out; omega) (by first | rfl | omega | (push_cast; omega))).mono ?_
  rintro e v17 ⟨rfl, hlv, hs⟩
  have LV' := Lib.hid hlv; clear LV hlv; have LV := LV'; clear LV'
  have S' := Lib.hid (since_mark S.out hs); clear S hs; have S := S'; clear S'
  go_wp2_with fail
  go_at_call 15
  refine (markFE_any g1.A g1.n g1.xs _ (1 + g0.n) _ _ _ _ (He.front [_, _, _] LV.out) (by rw [Ng1.out]; exact hr1) (by have := Ng0.out; have := Ng1.out; omega) (by first | rfl | omega | (push_cast; omega))).mono ?_
  rintro e v18 ⟨rfl, hlv, hs⟩
  have LV' := Lib.hid hlv; clear LV hlv; have LV := LV'; clear LV'
  have S' := Lib.hid (since_mark S.out hs); clear S hs; have S := S'; clear S'
  go_wp2_with fail
  go_at_call 16
  refine (heldFE_any g0.A g0.n _ (1) _ _ _ ((LV.out.2.1.1)) (by rw [Ng0.out]; exact hr0) (by have := Ng0.out; have := Ng1.out; omega) (by first | rfl | omega | (push_cast; omega))).mono ?_
  rintro e v ⟨rfl, rfl⟩
  go_wp2_with fail
  go_at_call 16
  refine (heldFE_any g1.A g1.n _ (1 + g0.n) _ _ _ ((LV.out.1.1)) (by rw [Ng1.out]; exact hr1) (by have := Ng0.out; have := Ng1.out; omega) (by first | rfl | omega | (push_cast; omega))).mono ?_
  rintro e v ⟨rfl, rfl⟩
  go_wp2_with fail
  go_at_call 12
  refine (toFE_any A0 n0 c0 x0 w _ F0.out S.out hn0).mono ?_
  rintro e v19 ⟨rfl, hg, hs⟩
  have LV' := Lib.hid (LV.out.new hs hg S.out.size); clear LV; have LV := LV'; clear LV'
  have S' := Lib.hid (since_step S.out hs); clear S; have S := S'; clear S'
  clear hs hg
  go_wp2_with fail
  go_at_call 12
  refine (toFE_any A1 n1 c1 x1 w _ F1.out S.out hn1).mono ?_
  rintro e v20 ⟨rfl, hg, hs⟩
  have LV' := Lib.hid (LV.out.new hs hg S.out.size); clear LV; have LV := LV'; clear LV'
  have S' := Lib.hid (since_step S.out hs); clear S; have S := S'; clear S'
  clear hs hg
  go_wp2_with fail
  go_at_call 29
  refine (HIM.out _ _ _ ((LV.out.2.1.1).readF) ((LV.out.1.1).readF)).mono ?_
  rintro e v21 ⟨h0, h1, kh0, kh1, rfl, hnh0, hnh1, hgh0, hgh1, hfh0, hfh1, hdj, hs⟩
  have LV' := Lib.hid ((LV.out.2.2).new2 hs hgh0 hgh1 hdj S.out.size); clear LV; have LV := LV'; clear LV'
  have S' := Lib.hid (since_step S.out hs); clear S; have S := S'; clear S'
  have Kh0 := Lib.hid hfh0; have Nh0 := Lib.hid hnh0; clear hfh0 hgh0 hnh0
  have Kh1 := Lib.hid hfh1; have Nh1 := Lib.hid hnh1; clear hfh1 hgh1 hnh1
  clear hs hdj
  go_wp2_with fail
  go_at_call 14
  refine (eqL_any h0 w0 _ _ _ _ (LV.out.1.1).readF (LV.out.2.2.2.2.2.2.1.1).readF (by rw [Nh0.out]; exact hr0) (Nw0.out.trans Nh0.out.symm) Kh0.out Kw0.out).mono ?_
  rintro e v22 ⟨rfl, hs⟩
  have S' := Lib.hid (since_step S.out hs); clear S; have S := S'; clear S'
  have LV' := Lib.hid (LV.out.since hs); clear LV; have LV := LV'; clear LV'
  clear hs
  go_wp2_with fail
  go_at_call 14
  refine (eqL_any h1 w1 _ _ _ _ (LV.out.2.1.1).readF (LV.out.2.2.2.2.2.2.2.1.1).readF (by rw [Nh1.out]; exact hr1) (Nw1.out.trans Nh1.out.symm) Kh1.out Kw1.out).mono ?_
  rintro e v23 ⟨rfl, hs⟩
  have S' := Lib.hid (since_step S.out hs); clear S; have S := S'; clear S'
  have LV' := Lib.hid (LV.out.since hs); clear LV; have LV := LV'; clear LV'
  clear hs
  go_wp2_with fail
  go_at_call 16
  refine (heldFE_any g0.A g0.n _ (1) _ _ _ ((LV.out.2.2.2.1.1)) (by rw [Ng0.out]; exact hr0) (by have := Ng0.out; have := Ng1.out; omega) (by first | rfl | omega | (push_cast; omega))).mono ?_
  rintro e v ⟨rfl, rfl⟩
  go_wp2_with fail
  go_at_call 16
  refine (heldFE_any g1.A g1.n _ (1 + g0.n) _ _ _ ((LV.out.2.2.1.1)) (by rw [Ng1.out]; exact hr1) (by have := Ng0.out; have := Ng1.out; omega) (by first | rfl | omega | (push_cast; omega))).mono ?_
  rintro e v ⟨rfl, rfl⟩
  go_wp2_with fail
  go_ret
  exact ⟨rfl, S.out⟩
set_option maxHeartbeats 2000000 in
set_option maxRecDepth 100000 in
theorem lawMiddleAndSide_big (A0 : Option Addr) (n0 c0 : Nat) (A1 : Option Addr) (n1 c1 : Nat) (w : World) (h : 1048576 < n0 ∨ 1048576 < n1)
    
    : Calls Try.prog 8 #[.slice A0 n0 c0, .slice A1 n1 c1] w fun e w' => e = .returned (.bool true) ∧ w.Since w.heap.size w' := by
  by_cases b0 : 1048576 < n0
  · have hd0 : decide ((1048576 : Int) < n0) = true := decide_eq_true (by omega)
    go_enter Try.func8, Try.ntmps8
    go_wp2
    go_ret
    exact ⟨rfl, by (repeat (first | (with_reducible refine Fl.sinDrew ?_) | (with_reducible refine World.Since.drew ?_) | (with_reducible refine Fl.sinSet ?_ ?_; rotate_left) | (with_reducible refine Fl.sinAlloc ?_ ?_; rotate_left) | with_reducible exact World.Since.refl _ _ | with_reducible assumption | (with_reducible refine Fl.sinStep (by with_reducible assumption) ?_))); all_goals (first | omega | (simp; done) | (simp; omega) | (simp [go_sem]; done) | (simp [go_sem]; omega))⟩
  · have hd0 : decide ((1048576 : Int) < n0) = false := decide_eq_false (by omega)
    by_cases b1 : 1048576 < n1
    · have hd1 : decide ((1048576 : Int) < n1) = true := decide_eq_true (by omega)
      go_enter Try.func8, Try.ntmps8
      go_wp2
      go_ret
      exact ⟨rfl, by (repeat (first | (with_reducible refine Fl.sinDrew ?_) | (with_reducible refine World.Since.drew ?_) | (with_reducible refine Fl.sinSet ?_ ?_; rotate_left) | (with_reducible refine Fl.sinAlloc ?_ ?_; rotate_left) | with_reducible exact World.Since.refl _ _ | with_reducible assumption | (with_reducible refine Fl.sinStep (by with_reducible assumption) ?_))); all_goals (first | omega | (simp; done) | (simp; omega) | (simp [go_sem]; done) | (simp [go_sem]; omega))⟩
    · have hd1 : decide ((1048576 : Int) < n1) = false := decide_eq_false (by omega)
      omega
end Go.Proofs.Yteggicdhgcecpaa
