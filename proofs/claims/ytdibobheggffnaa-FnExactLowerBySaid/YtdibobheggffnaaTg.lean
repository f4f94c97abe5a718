/- Walks of laws whose results are lists. -/
import Derived.Test.YtdibobheggffnaaHb
set_option linter.unusedVariables false
set_option linter.unusedSimpArgs false
namespace Go.Proofs.Ytdibobheggffnaa
open Fl Go.RowKit
set_option maxHeartbeats 16000000 in
set_option maxRecDepth 100000 in
theorem lawRaiseBy_gen (a0 : Int) (A1 : Option Addr) (n1 c1 : Nat) (x1 : List Nat) (A2 : Option Addr) (n2 c2 : Nat) (x2 : List Nat) (rn0 : Nat) (rf0 : Nat → Option Nat) (rb1 : Bool) (w : World)
    (h1 : Fs w w.heap.size A1 n1 x1) (hn1 : n1 ≤ 1048576) (h2 : Fs w w.heap.size A2 n2 x2) (hn2 : n2 ≤ 1048576) (hr0 : rn0 ≤ 1048576)
    (hsp : ∀ (v : World) (b1 : Nat) (b2 : Nat), Fs v v.heap.size (some ⟨b1, 0, none⟩) n1 x1 → Fs v v.heap.size (some ⟨b2, 0, none⟩) n2 x2 → Calls Try.prog 44 #[.int .i64 a0, .slice (some ⟨b1, 0, none⟩) n1 n1, .slice (some ⟨b2, 0, none⟩) n2 n2] v (PEB rn0 rf0 rb1 v))
    (him : ∀ (v : World) (b1 : Nat) (b2 : Nat), Fs v v.heap.size (some ⟨b1, 0, none⟩) n1 x1 → Fs v v.heap.size (some ⟨b2, 0, none⟩) n2 x2 → Calls Try.prog 45 #[.int .i64 a0, .slice (some ⟨b1, 0, none⟩) n1 n1, .slice (some ⟨b2, 0, none⟩) n2 n2] v (PEB rn0 rf0 rb1 v)) :
    Calls Try.prog 13 #[.int .i64 a0, .slice A1 n1 c1, .slice A2 n2 c2] w fun e w' => e = .returned (.bool true) ∧ w.Since w.heap.size w' := by
  have S0 : Hid (w.Since w.heap.size w) := Lib.hid (World.Since.refl _ _)
  have F1 : Hid (Fs w w.heap.size A1 n1 x1) := Lib.hid (h1.now S0.out); clear h1
  have hd1 : decide ((1048576 : Int) < n1) = false := decide_eq_false (by omega)
  have F2 : Hid (Fs w w.heap.size A2 n2 x2) := Lib.hid (h2.now S0.out); clear h2
  have hd2 : decide ((1048576 : Int) < n2) = false := decide_eq_false (by omega)
  have HSP := Lib.hid hsp; have HIM := Lib.hid him; clear hsp him
  go_enter Try.func13, Try.ntmps13
  go_wp2_with fail
  have S : Hid (w.Since w.heap.size w) := Lib.hid (World.Since.refl _ _)
  have LV : Hid (He w.heap.size w []) := Lib.hid trivial
  go_at_call 16
  refine (toFE_any A1 n1 c1 x1 w _ F1.out S.out hn1).mono ?_
  rintro e v1 ⟨rfl, hg, hs⟩
  have LV' := Lib.hid (LV.out.new hs hg S.out.size); clear LV; have LV := LV'; clear LV'
  have S' := Lib.hid (since_step S.out hs); clear S; have S := S'; clear S'
  clear hs hg
  go_wp2_with fail
  go_at_call 16
  refine (toFE_any A2 n2 c2 x2 w _ F2.out S.out hn2).mono ?_
  rintro e v2 ⟨rfl, hg, hs⟩
  have LV' := Lib.hid (LV.out.new hs hg S.out.size); clear LV; have LV := LV'; clear LV'
  have S' := Lib.hid (since_step S.out hs); clear S; have S := S'; clear S'
  clear hs hg
  go_wp2_with fail
  go_at_call 44
  refine (HSP.out _ _ _ ((LV.out.2.1.1).readF) ((LV.out.1.1).readF)).mono ?_
  rintro e v3 ⟨w0, kw0, rfl, hnw0, hgw0, hfw0, hs⟩
  have LV' := Lib.hid ((LV.out.2.2).new hs hgw0 S.out.size); clear LV; have LV := LV'; clear LV'
  have S' := Lib.hid (since_step S.out hs); clear S; have S := S'; clear S'
  have Kw0 := Lib.hid hfw0; have Nw0 := Lib.hid hnw0; clear hfw0 hgw0 hnw0
  clear hs
  go_wp2_with fail
  go_at_call 16
  refine (toFE_any A1 n1 c1 x1 w _ F1.out S.out hn1).mono ?_
  rintro e v4 ⟨rfl, hg, hs⟩
  have LV' := Lib.hid (LV.out.new hs hg S.out.size); clear LV; have LV := LV'; clear LV'
  have S' := Lib.hid (since_step S.out hs); clear S; have S := S'; clear S'
  clear hs hg
  go_wp2_with fail
  go_at_call 16
  refine (toFE_any A2 n2 c2 x2 w _ F2.out S.out hn2).mono ?_
  rintro e v5 ⟨rfl, hg, hs⟩
  have LV' := Lib.hid (LV.out.new hs hg S.out.size); clear LV; have LV := LV'; clear LV'
  have S' := Lib.hid (since_step S.out hs); clear S; have S := S'; clear S'
  clear hs hg
  go_wp2_with fail
  go_at_call 45
  refine (HIM.out _ _ _ ((LV.out.2.1.1).readF) ((LV.out.1.1).readF)).mono ?_
  rintro e v6 ⟨g0, kg0, rfl, hng0, hgg0, hfg0, hs⟩
  have LV' := Lib.hid ((LV.out).new hs hgg0 S.out.size); clear LV; have LV := LV'; clear LV'
  have S' := Lib.hid (since_step S.out hs); clear S; have S := S'; clear S'
  have Kg0 := Lib.hid hfg0; have Ng0 := Lib.hid hng0; clear hfg0 hgg0 hng0
  clear hs
  go_wp2_with fail
  go_at_call 18
  refine (eqL_any g0 w0 _ _ _ _ (LV.out.1.1).readF (LV.out.2.2.2.1.1).readF (by rw [Ng0.out]; exact hr0) (Nw0.out.trans Ng0.out.symm) Kg0.out Kw0.out).mono ?_
  rintro e v7 ⟨rfl, hs⟩
  have S' := Lib.hid (since_step S.out hs); clear S; have S := S'; clear S'
  have LV' := Lib.hid (LV.out.since hs); clear LV; have LV := LV'; clear LV'
  clear hs
  go_wp2_with fail
  go_at_call 16
  refine (toFE_any A1 n1 c1 x1 w _ F1.out S.out hn1).mono ?_
  rintro e v8 ⟨rfl, hg, hs⟩
  have LV' := Lib.hid (LV.out.new hs hg S.out.size); clear LV; have LV := LV'; clear LV'
  have S' := Lib.hid (since_step S.out hs); clear S; have S := S'; clear S'
  clear hs hg
  go_wp2_with fail
  go_at_call 18
  refine (eqL_any ⟨some ⟨v3.heap.size, 0, none⟩, n1, x1⟩ ⟨some ⟨v7.heap.size, 0, none⟩, n1, x1⟩ _ _ _ _ (LV.out.2.2.2.1.1).readF (LV.out.1.1).readF (by omega) rfl (fun _ _ => rfl) (fun _ _ => rfl)).mono ?_
  rintro e v9 ⟨rfl, hs⟩
  have S' := Lib.hid (since_step S.out hs); clear S; have S := S'; clear S'
  have LV' := Lib.hid (LV.out.since hs); clear LV; have LV := LV'; clear LV'
  clear hs
  have LV' := Lib.hid LV.out.2; clear LV; have LV := LV'; clear LV'
  go_wp2_with fail
  go_at_call 16
  refine (toFE_any A2 n2 c2 x2 w _ F2.out S.out hn2).mono ?_
  rintro e v10 ⟨rfl, hg, hs⟩
  have LV' := Lib.hid (LV.out.new hs hg S.out.size); clear LV; have LV := LV'; clear LV'
  have S' := Lib.hid (since_step S.out hs); clear S; have S := S'; clear S'
  clear hs hg
  go_wp2_with fail
  go_at_call 18
  refine (eqL_any ⟨some ⟨v4.heap.size, 0, none⟩, n2, x2⟩ ⟨some ⟨v9.heap.size, 0, none⟩, n2, x2⟩ _ _ _ _ (LV.out.2.2.1.1).readF (LV.out.1.1).readF (by omega) rfl (fun _ _ => rfl) (fun _ _ => rfl)).mono ?_
  rintro e v11 ⟨rfl, hs⟩
  have S' := Lib.hid (since_step S.out hs); clear S; have S := S'; clear S'
  have LV' := Lib.hid (LV.out.since hs); clear LV; have LV := LV'; clear LV'
  clear hs
  have LV' := Lib.hid LV.out.2; clear LV; have LV := LV'; clear LV'
  go_wp2_with fail
  go_at_call 19
  refine (markFE_any (some ⟨v3.heap.size, 0, none⟩) n1 x1 _ (1) _ _ _ _ (He.front [_, _] LV.out) (hn1) (by have := Ng0.out; omega) (by first | rfl | omega | (push_cast; omega))).mono ?_
  rintro e v12 ⟨rfl, hlv, hs⟩
  have LV' := Lib.hid hlv; clear LV hlv; have LV := LV'; clear LV'
  have S' := Lib.hid (since_mark S.out hs); clear S hs; have S := S'; clear S'
  go_wp2_with fail
  go_at_call 19
  refine (markFE_any (some ⟨v4.heap.size, 0, none⟩) n2 x2 _ (1 + n1) _ _ _ _ (He.front [_, _] LV.out) (hn2) (by have := Ng0.out; omega) (by first | rfl | omega | (push_cast; omega))).mono ?_
  rintro e v13 ⟨rfl, hlv, hs⟩
  have LV' := Lib.hid hlv; clear LV hlv; have LV := LV'; clear LV'
  have S' := Lib.hid (since_mark S.out hs); clear S hs; have S := S'; clear S'
  go_wp2_with fail
  go_at_call 18
  refine (eqL_any g0 w0 _ _ _ _ (LV.out.2.2.1.1).readF (LV.out.2.2.2.1.1).readF (by rw [Ng0.out]; exact hr0) (Nw0.out.trans Ng0.out.symm) Kg0.out Kw0.out).mono ?_
  rintro e v14 ⟨rfl, hs⟩
  have S' := Lib.hid (since_step S.out hs); clear S; have S := S'; clear S'
  have LV' := Lib.hid (LV.out.since hs); clear LV; have LV := LV'; clear LV'
  clear hs
  go_wp2_with fail
  go_at_call 19
  refine (markFE_any g0.A g0.n g0.xs _ (1) _ _ _ _ (He.front [_, _] LV.out) (by rw [Ng0.out]; exact hr0) (by have := Ng0.out; omega) (by first | rfl | omega | (push_cast; omega))).mono ?_
  rintro e v15 ⟨rfl, hlv, hs⟩
  have LV' := Lib.hid hlv; clear LV hlv; have LV := LV'; clear LV'
  have S' := Lib.hid (since_mark S.out hs); clear S hs; have S := S'; clear S'
  go_wp2_with fail
  go_at_call 20
  refine (heldFE_any g0.A g0.n _ (1) _ _ _ ((LV.out.1.1)) (by rw [Ng0.out]; exact hr0) (by have := Ng0.out; omega) (by first | rfl | omega | (push_cast; omega))).mono ?_
  rintro e v ⟨rfl, rfl⟩
  go_wp2_with fail
  go_at_call 16
  refine (toFE_any A1 n1 c1 x1 w _ F1.out S.out hn1).mono ?_
  rintro e v16 ⟨rfl, hg, hs⟩
  have LV' := Lib.hid (LV.out.new hs hg S.out.size); clear LV; have LV := LV'; clear LV'
  have S' := Lib.hid (since_step S.out hs); clear S; have S := S'; clear S'
  clear hs hg
  go_wp2_with fail
  go_at_call 16
  refine (toFE_any A2 n2 c2 x2 w _ F2.out S.out hn2).mono ?_
  rintro e v17 ⟨rfl, hg, hs⟩
  have LV' := Lib.hid (LV.out.new hs hg S.out.size); clear LV; have LV := LV'; clear LV'
  have S' := Lib.hid (since_step S.out hs); clear S; have S := S'; clear S'
  clear hs hg
  go_wp2_with fail
  go_at_call 45
  refine (HIM.out _ _ _ ((LV.out.2.1.1).readF) ((LV.out.1.1).readF)).mono ?_
  rintro e v18 ⟨h0, kh0, rfl, hnh0, hgh0, hfh0, hs⟩
  have LV' := Lib.hid ((LV.out.2.2).new hs hgh0 S.out.size); clear LV; have LV := LV'; clear LV'
  have S' := Lib.hid (since_step S.out hs); clear S; have S := S'; clear S'
  have Kh0 := Lib.hid hfh0; have Nh0 := Lib.hid hnh0; clear hfh0 hgh0 hnh0
  clear hs
  go_wp2_with fail
  go_at_call 18
  refine (eqL_any h0 w0 _ _ _ _ (LV.out.1.1).readF (LV.out.2.2.2.2.1.1).readF (by rw [Nh0.out]; exact hr0) (Nw0.out.trans Nh0.out.symm) Kh0.out Kw0.out).mono ?_
  rintro e v19 ⟨rfl, hs⟩
  have S' := Lib.hid (since_step S.out hs); clear S; have S := S'; clear S'
  have LV' := Lib.hid (LV.out.since hs); clear LV; have LV := LV'; clear LV'
  clear hs
  go_wp2_with fail
  go_at_call 20
  refine (heldFE_any g0.A g0.n _ (1) _ _ _ ((LV.out.2.1.1)) (by rw [Ng0.out]; exact hr0) (by have := Ng0.out; omega) (by first | rfl | omega | (push_cast; omega))).mono ?_
  rintro e v ⟨rfl, rfl⟩
  go_wp2_with fail
  go_ret
  exact ⟨rfl, S.out⟩
set_option maxHeartbeats 2000000 in
set_option maxRecDepth 100000 in
theorem lawRaiseBy_big (a0 : Int) (A1 : Option Addr) (n1 c1 : Nat) (A2 : Option Addr) (n2 c2 : Nat) (w : World) (h : 1048576 < n1 ∨ 1048576 < n2) :
    Calls Try.prog 13 #[.int .i64 a0, .slice A1 n1 c1, .slice A2 n2 c2] w fun e w' => e = .returned (.bool true) ∧ w.Since w.heap.size w' := by
  by_cases b1 : 1048576 < n1
  · have hd1 : decide ((1048576 : Int) < n1) = true := decide_eq_true (by omega)
    go_enter Try.func13, Try.ntmps13
    go_wp2
    go_ret
    exact ⟨rfl, by (repeat (first | (with_reducible refine Fl.sinDrew ?_) | (with_reducible refine World.Since.drew ?_) | (with_reducible refine Fl.sinSet ?_ ?_; rotate_left) | (with_reducible refine Fl.sinAlloc ?_ ?_; rotate_left) | with_reducible exact World.Since.refl _ _ | with_reducible assumption | (with_reducible refine Fl.sinStep (by with_reducible assumption) ?_))); all_goals (first | omega | (simp; done) | (simp; omega) | (simp [go_sem]; done) | (simp [go_sem]; omega))⟩
  · have hd1 : decide ((1048576 : Int) < n1) = false := decide_eq_false (by omega)
    by_cases b2 : 1048576 < n2
    · have hd2 : decide ((1048576 : Int) < n2) = true := decide_eq_true (by omega)
      go_enter Try.func13, Try.ntmps13
      go_wp2
      go_ret
      exact ⟨rfl, by (repeat (first | (with_reducible refine Fl.sinDrew ?_) | (with_reducible refine World.Since.drew ?_) | (with_reducible refine Fl.sinSet ?_ ?_; rotate_left) | (with_reducible refine Fl.sinAlloc ?_ ?_; rotate_left) | with_reducible exact World.Since.refl _ _ | with_reducible assumption | (with_reducible refine Fl.sinStep (by with_reducible assumption) ?_))); all_goals (first | omega | (simp; done) | (simp; omega) | (simp [go_sem]; done) | (simp [go_sem]; omega))⟩
    · have hd2 : decide ((1048576 : Int) < n2) = false := decide_eq_false (by omega)
      omega
set_option maxHeartbeats 16000000 in
set_option maxRecDepth 100000 in
theorem lawLowerBy_gen (a0 : Int) (A1 : Option Addr) (n1 c1 : Nat) (x1 : List Nat) (A2 : Option Addr) (n2 c2 : Nat) (x2 : List Nat) (rn0 : Nat) (rf0 : Nat → Option Nat) (rb1 : Bool) (w : World)
    (h1 : Fs w w.heap.size A1 n1 x1) (hn1 : n1 ≤ 1048576) (h2 : Fs w w.heap.size A2 n2 x2) (hn2 : n2 ≤ 1048576) (hr0 : rn0 ≤ 1048576)
    (hsp : ∀ (v : World) (b1 : Nat) (b2 : Nat), Fs v v.heap.size (some ⟨b1, 0, none⟩) n1 x1 → Fs v v.heap.size (some ⟨b2, 0, none⟩) n2 x2 → Calls Try.prog 46 #[.int .i64 a0, .slice (some ⟨b1, 0, none⟩) n1 n1, .slice (some ⟨b2, 0, none⟩) n2 n2] v (PEB rn0 rf0 rb1 v))
    (him : ∀ (v : World) (b1 : Nat) (b2 : Nat), Fs v v.heap.size (some ⟨b1, 0, none⟩) n1 x1 → Fs v v.heap.size (some ⟨b2, 0, none⟩) n2 x2 → Calls Try.prog 47 #[.int .i64 a0, .slice (some ⟨b1, 0, none⟩) n1 n1, .slice (some ⟨b2, 0, none⟩) n2 n2] v (PEB rn0 rf0 rb1 v)) :
    Calls Try.prog 14 #[.int .i64 a0, .slice A1 n1 c1, .slice A2 n2 c2] w fun e w' => e = .returned (.bool true) ∧ w.Since w.heap.size w' := by
  have S0 : Hid (w.Since w.heap.size w) := Lib.hid (World.Since.refl _ _)
  have F1 : Hid (Fs w w.heap.size A1 n1 x1) := Lib.hid (h1.now S0.out); clear h1
  have hd1 : decide ((1048576 : Int) < n1) = false := decide_eq_false (by omega)
  have F2 : Hid (Fs w w.heap.size A2 n2 x2) := Lib.hid (h2.now S0.out); clear h2
  have hd2 : decide ((1048576 : Int) < n2) = false := decide_eq_false (by omega)
  have HSP := Lib.hid hsp; have HIM := Lib.hid him; clear hsp him
  go_enter Try.func14, Try.ntmps14
  go_wp2_with fail
  have S : Hid (w.Since w.heap.size w) := Lib.hid (World.Since.refl _ _)
  have LV : Hid (He w.heap.size w []) := Lib.hid trivial
  go_at_call 16
  refine (toFE_any A1 n1 c1 x1 w _ F1.out S.out hn1).mono ?_
  rintro e v1 ⟨rfl, hg, hs⟩
  have LV' := Lib.hid (LV.out.new hs hg S.out.size); clear LV; have LV := LV'; clear LV'
  have S' := Lib.hid (since_step S.out hs); clear S; have S := S'; clear S'
  clear hs hg
  go_wp2_with fail
  go_at_call 16
  refine (toFE_any A2 n2 c2 x2 w _ F2.out S.out hn2).mono ?_
  rintro e v2 ⟨rfl, hg, hs⟩
  have LV' := Lib.hid (LV.out.new hs hg S.out.size); clear LV; have LV := LV'; clear LV'
  have S' := Lib.hid (since_step S.out hs); clear S; have S := S'; clear S'
  clear hs hg
  go_wp2_with fail
  go_at_call 46
  refine (HSP.out _ _ _ ((LV.out.2.1.1).readF) ((LV.out.1.1).readF)).mono ?_
  rintro e v3 ⟨w0, kw0, rfl, hnw0, hgw0, hfw0, hs⟩
  have LV' := Lib.hid ((LV.out.2.2).new hs hgw0 S.out.size); clear LV; have LV := LV'; clear LV'
  have S' := Lib.hid (since_step S.out hs); clear S; have S := S'; clear S'
  have Kw0 := Lib.hid hfw0; have Nw0 := Lib.hid hnw0; clear hfw0 hgw0 hnw0
  clear hs
  go_wp2_with fail
  go_at_call 16
  refine (toFE_any A1 n1 c1 x1 w _ F1.out S.out hn1).mono ?_
  rintro e v4 ⟨rfl, hg, hs⟩
  have LV' := Lib.hid (LV.out.new hs hg S.out.size); clear LV; have LV := LV'; clear LV'
  have S' := Lib.hid (since_step S.out hs); clear S; have S := S'; clear S'
  clear hs hg
  go_wp2_with fail
  go_at_call 16
  refine (toFE_any A2 n2 c2 x2 w _ F2.out S.out hn2).mono ?_
  rintro e v5 ⟨rfl, hg, hs⟩
  have LV' := Lib.hid (LV.out.new hs hg S.out.size); clear LV; have LV := LV'; clear LV'
  have S' := Lib.hid (since_step S.out hs); clear S; have S := S'; clear S'
  clear hs hg
  go_wp2_with fail
  go_at_call 47
  refine (HIM.out _ _ _ ((LV.out.2.1.1).readF) ((LV.out.1.1).readF)).mono ?_
  rintro e v6 ⟨g0, kg0, rfl, hng0, hgg0, hfg0, hs⟩
  have LV' := Lib.hid ((LV.out).new hs hgg0 S.out.size); clear LV; have LV := LV'; clear LV'
  have S' := Lib.hid (since_step S.out hs); clear S; have S := S'; clear S'
  have Kg0 := Lib.hid hfg0; have Ng0 := Lib.hid hng0; clear hfg0 hgg0 hng0
  clear hs
  go_wp2_with fail
  go_at_call 18
  refine (eqL_any g0 w0 _ _ _ _ (LV.out.1.1).readF (LV.out.2.2.2.1.1).readF (by rw [Ng0.out]; exact hr0) (Nw0.out.trans Ng0.out.symm) Kg0.out Kw0.out).mono ?_
  rintro e v7 ⟨rfl, hs⟩
  have S' := Lib.hid (since_step S.out hs); clear S; have S := S'; clear S'
  have LV' := Lib.hid (LV.out.since hs); clear LV; have LV := LV'; clear LV'
  clear hs
  go_wp2_with fail
  go_at_call 16
  refine (toFE_any A1 n1 c1 x1 w _ F1.out S.out hn1).mono ?_
  rintro e v8 ⟨rfl, hg, hs⟩
  have LV' := Lib.hid (LV.out.new hs hg S.out.size); clear LV; have LV := LV'; clear LV'
  have S' := Lib.hid (since_step S.out hs); clear S; have S := S'; clear S'
  clear hs hg
  go_wp2_with fail
  go_at_call 18
  refine (eqL_any ⟨some ⟨v3.heap.size, 0, none⟩, n1, x1⟩ ⟨some ⟨v7.heap.size, 0, none⟩, n1, x1⟩ _ _ _ _ (LV.out.2.2.2.1.1).readF (LV.out.1.1).readF (by omega) rfl (fun _ _ => rfl) (fun _ _ => rfl)).mono ?_
  rintro e v9 ⟨rfl, hs⟩
  have S' := Lib.hid (since_step S.out hs); clear S; have S := S'; clear S'
  have LV' := Lib.hid (LV.out.since hs); clear LV; have LV := LV'; clear LV'
  clear hs
  have LV' := Lib.hid LV.out.2; clear LV; have LV := LV'; clear LV'
  go_wp2_with fail
  go_at_call 16
  refine (toFE_any A2 n2 c2 x2 w _ F2.out S.out hn2).mono ?_
  rintro e v10 ⟨rfl, hg, hs⟩
  have LV' := Lib.hid (LV.out.new hs hg S.out.size); clear LV; have LV := LV'; clear LV'
  have S' := Lib.hid (since_step S.out hs); clear S; have S := S'; clear S'
  clear hs hg
  go_wp2_with fail
  go_at_call 18
  refine (eqL_any ⟨some ⟨v4.heap.size, 0, none⟩, n2, x2⟩ ⟨some ⟨v9.heap.size, 0, none⟩, n2, x2⟩ _ _ _ _ (LV.out.2.2.1.1).readF (LV.out.1.1).readF (by omega) rfl (fun _ _ => rfl) (fun _ _ => rfl)).mono ?_
  rintro e v11 ⟨rfl, hs⟩
  have S' := Lib.hid (since_step S.out hs); clear S; have S := S'; clear S'
  have LV' := Lib.hid (LV.out.since hs); clear LV; have LV := LV'; clear LV'
  clear hs
  have LV' := Lib.hid LV.out.2; clear LV; have LV := LV'; clear LV'
  go_wp2_with fail
  go_at_call 19
  refine (markFE_any (some ⟨v3.heap.size, 0, none⟩) n1 x1 _ (1) _ _ _ _ (He.front [_, _] LV.out) (hn1) (by have := Ng0.out; omega) (by first | rfl | omega | (push_cast; omega))).mono ?_
  rintro e v12 ⟨rfl, hlv, hs⟩
  have LV' := Lib.hid hlv; clear LV hlv; have LV := LV'; clear LV'
  have S' := Lib.hid (since_mark S.out hs); clear S hs; have S := S'; clear S'
  go_wp2_with fail
  go_at_call 19
  refine (markFE_any (some ⟨v4.heap.size, 0, none⟩) n2 x2 _ (1 + n1) _ _ _ _ (He.front [_, _] LV.out) (hn2) (by have := Ng0.out; omega) (by first | rfl | omega | (push_cast; omega))).mono ?_
  rintro e v13 ⟨rfl, hlv, hs⟩
  have LV' := Lib.hid hlv; clear LV hlv; have LV := LV'; clear LV'
  have S' := Lib.hid (since_mark S.out hs); clear S hs; have S := S'; clear S'
  go_wp2_with fail
  go_at_call 18
  refine (eqL_any g0 w0 _ _ _ _ (LV.out.2.2.1.1).readF (LV.out.2.2.2.1.1).readF (by rw [Ng0.out]; exact hr0) (Nw0.out.trans Ng0.out.symm) Kg0.out Kw0.out).mono ?_
  rintro e v14 ⟨rfl, hs⟩
  have S' := Lib.hid (since_step S.out hs); clear S; have S := S'; clear S'
  have LV' := Lib.hid (LV.out.since hs); clear LV; have LV := LV'; clear LV'
  clear hs
  go_wp2_with fail
  go_at_call 19
  refine (markFE_any g0.A g0.n g0.xs _ (1) _ _ _ _ (He.front [_, _] LV.out) (by rw [Ng0.out]; exact hr0) (by have := Ng0.out; omega) (by first | rfl | omega | (push_cast; omega))).mono ?_
  rintro e v15 ⟨rfl, hlv, hs⟩
  have LV' := Lib.hid hlv; clear LV hlv; have LV := LV'; clear LV'
  have S' := Lib.hid (since_mark S.out hs); clear S hs; have S := S'; clear S'
  go_wp2_with fail
  go_at_call 20
  refine (heldFE_any g0.A g0.n _ (1) _ _ _ ((LV.out.1.1)) (by rw [Ng0.out]; exact hr0) (by have := Ng0.out; omega) (by first | rfl | omega | (push_cast; omega))).mono ?_
  rintro e v ⟨rfl, rfl⟩
  go_wp2_with fail
  go_at_call 16
  refine (toFE_any A1 n1 c1 x1 w _ F1.out S.out hn1).mono ?_
  rintro e v16 ⟨rfl, hg, hs⟩
  have LV' := Lib.hid (LV.out.new hs hg S.out.size); clear LV; have LV := LV'; clear LV'
  have S' := Lib.hid (since_step S.out hs); clear S; have S := S'; clear S'
  clear hs hg
  go_wp2_with fail
  go_at_call 16
  refine (toFE_any A2 n2 c2 x2 w _ F2.out S.out hn2).mono ?_
  rintro e v17 ⟨rfl, hg, hs⟩
  have LV' := Lib.hid (LV.out.new hs hg S.out.size); clear LV; have LV := LV'; clear LV'
  have S' := Lib.hid (since_step S.out hs); clear S; have S := S'; clear S'
  clear hs hg
  go_wp2_with fail
  go_at_call 47
  refine (HIM.out _ _ _ ((LV.out.2.1.1).readF) ((LV.out.1.1).readF)).mono ?_
  rintro e v18 ⟨h0, kh0, rfl, hnh0, hgh0, hfh0, hs⟩
  have LV' := Lib.hid ((LV.out.2.2).new hs hgh0 S.out.size); clear LV; have LV := LV'; clear LV'
  have S' := Lib.hid (since_step S.out hs); clear S; have S := S'; clear S'
  have Kh0 := Lib.hid hfh0; have Nh0 := Lib.hid hnh0; clear hfh0 hgh0 hnh0
  clear hs
  go_wp2_with fail
  go_at_call 18
  refine (eqL_any h0 w0 _ _ _ _ (LV.out.1.1).readF (LV.out.2.2.2.2.1.1).readF (by rw [Nh0.out]; exact hr0) (Nw0.out.trans Nh0.out.symm) Kh0.out Kw0.out).mono ?_
  rintro e v19 ⟨rfl, hs⟩
  have S' := Lib.hid (since_step S.out hs); clear S; have S := S'; clear S'
  have LV' := Lib.hid (LV.out.since hs); clear LV; have LV := LV'; clear LV'
  clear hs
  go_wp2_with fail
  go_at_call 20
  refine (heldFE_any g0.A g0.n _ (1) _ _ _ ((LV.out.2.1.1)) (by rw [Ng0.out]; exact hr0) (by have := Ng0.out; omega) (by first | rfl | omega | (push_cast; omega))).mono ?_
  rintro e v ⟨rfl, rfl⟩
  go_wp2_with fail
  go_ret
  exact ⟨rfl, S.out⟩
set_option maxHeartbeats 2000000 in
set_option maxRecDepth 100000 in
theorem lawLowerBy_big (a0 : Int) (A1 : Option Addr) (n1 c1 : Nat) (A2 : Option Addr) (n2 c2 : Nat) (w : World) (h : 1048576 < n1 ∨ 1048576 < n2) :
    Calls Try.prog 14 #[.int .i64 a0, .slice A1 n1 c1, .slice A2 n2 c2] w fun e w' => e = .returned (.bool true) ∧ w.Since w.heap.size w' := by
  by_cases b1 : 1048576 < n1
  · have hd1 : decide ((1048576 : Int) < n1) = true := decide_eq_true (by omega)
    go_enter Try.func14, Try.ntmps14
    go_wp2
    go_ret
    exact ⟨rfl, by (repeat (first | (with_reducible refine Fl.sinDrew ?_) | (with_reducible refine World.Since.drew ?_) | (with_reducible refine Fl.sinSet ?_ ?_; rotate_left) | (with_reducible refine Fl.sinAlloc ?_ ?_; rotate_left) | with_reducible exact World.Since.refl _ _ | with_reducible assumption | (with_reducible refine Fl.sinStep (by with_reducible assumption) ?_))); all_goals (first | omega | (simp; done) | (simp; omega) | (simp [go_sem]; done) | (simp [go_sem]; omega))⟩
  · have hd1 : decide ((1048576 : Int) < n1) = false := decide_eq_false (by omega)
    by_cases b2 : 1048576 < n2
    · have hd2 : decide ((1048576 : Int) < n2) = true := decide_eq_true (by omega)
      go_enter Try.func14, Try.ntmps14
      go_wp2
      go_ret
      exact ⟨rfl, by (repeat (first | (with_reducible refine Fl.sinDrew ?_) | (with_reducible refine World.Since.drew ?_) | (with_reducible refine Fl.sinSet ?_ ?_; rotate_left) | (with_reducible refine Fl.sinAlloc ?_ ?_; rotate_left) | with_reducible exact World.Since.refl _ _ | with_reducible assumption | (with_reducible refine Fl.sinStep (by with_reducible assumption) ?_))); all_goals (first | omega | (simp; done) | (simp; omega) | (simp [go_sem]; done) | (simp [go_sem]; omega))⟩
    · have hd2 : decide ((1048576 : Int) < n2) = false := decide_eq_false (by omega)
      omega
end Go.Proofs.Ytdibobheggffnaa
