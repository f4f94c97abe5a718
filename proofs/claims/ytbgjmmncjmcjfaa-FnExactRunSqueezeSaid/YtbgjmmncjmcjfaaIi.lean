/- Dynamics: RunSqueeze and DuckSamples of the model. -/
import Derived.Test.YtbgjmmncjmcjfaaIh
set_option linter.unusedVariables false
set_option linter.unusedSimpArgs false
namespace Go.Proofs.Ytbgjmmncjmcjfaa
open Fl Go.RowKit
theorem PLQB.none_ {w w' : World} (s : w.Since w.heap.size w') (f0 : Nat → Option Nat) : PLQB 0 f0 ⟨some 0, some 0, some 0, some 0, some 0⟩ false w (.returned (.tuple #[.slice none 0 0, .agg #[.float .f32 0, .float .f32 0, .float .f32 0, .float .f32 0, .float .f32 0], .bool false])) w' :=
  ⟨⟨none, 0, []⟩, 0, ⟨0, 0, 0, 0, 0⟩, rfl, rfl, Gs.nil_, (fun k hk => by simp at hk), ⟨fv0, fv0, fv0, fv0, fv0⟩, s⟩
set_option maxHeartbeats 4000000 in
set_option maxRecDepth 100000 in
theorem specRunSq_ok (d : SquN) (D : Squ) (A : Option Addr) (n c : Nat) (xs : List Nat) (w : World) (hD : FvSqu d D) (hA : Fs w w.heap.size A n xs) (hn : n ≤ 256) :
    Calls Try.prog 47 #[d.val, .slice A n c] w (PLQB n (sqO D (fun k => ab .f32 (wd xs k)) (fun k => ab .f32 (wd xs k))) ⟨D.a, D.r, sqL D (fun k => ab .f32 (wd xs k)) n, D.t, D.q⟩ true w) := by
  obtain ⟨a, r, l, t, q0⟩ := d
  obtain ⟨ha, hr, hl, ht, hq0⟩ := hD
  simp only at ha hr hl ht hq0
  have hfew : decide ((n : Int) ≤ 256) = true := decide_eq_true (by omega)
  have HA := Lib.hid hA
  have HQ := Lib.hid (fun W (s : w.Since w.heap.size W) => specSqueeze_ok ⟨a, r, l, t, q0⟩ D A A n c c xs xs W ⟨ha, hr, hl, ht, hq0⟩ (HA.out.now s) (HA.out.now s) hn)
  simp only [SquN.val] at HQ ⊢
  clear hA
  obtain ⟨W1, hW1⟩ : ∃ W, W = w.alloc (.cells #[.float .f32 a, .float .f32 r, .float .f32 l, .float .f32 t, .float .f32 q0] 69) := ⟨_, rfl⟩
  obtain ⟨W2, hW2⟩ : ∃ W, W = W1.alloc (.cells #[.float .f32 0, .float .f32 0, .float .f32 0, .float .f32 0, .float .f32 0] 69) := ⟨_, rfl⟩
  have z1 : W1.heap.size = w.heap.size + 1 := by rw [hW1]; simp
  have z2 : W2.heap.size = w.heap.size + 1 + 1 := by rw [hW2]; simp [z1]
  have f1 : SquB W1 w.heap.size a r l t q0 := by rw [hW1]; exact SquB.new _ _ _ _ _ _
  have F2 : Hid (SquB W2 (w.heap.size + 1) 0 0 0 0 0) := Lib.hid (by rw [hW2, ← z1]; exact SquB.new _ _ _ _ _ _)
  have F1 : Hid (SquB W2 w.heap.size a r l t q0) := Lib.hid (f1.of (by rw [hW2]; exact blk_keep _ (by omega)))
  have S2 : Hid (w.Since w.heap.size W2) := Lib.hid (by rw [hW2, hW1]; exact ((World.Since.refl _ _).alloc (Nat.le_refl _) _).alloc (by simp) _)
  have HW1 := Lib.hid hW1; have HW2 := Lib.hid hW2; have Z2 := Lib.hid z2
  clear hW1 hW2 f1 z1 z2
  go_enter Try.func47, Try.ntmps47
  go_wp2_with (first | (go_at_call 90; refine (specFew_any _ _ _ _ _ hfew).mono ?_; rintro e w' ⟨rfl, rfl⟩))
  rw [← HW1.out, ← HW2.out]
  refine (HQ.out W2 S2.out).mono ?_
  rintro e w3 ⟨p, cp, s, rfl, hpn, hg, har, hfv, hs⟩
  obtain ⟨b0, b1, b2, b3, b4⟩ := s
  simp only [SquN.val]
  rw [Z2.out] at hg
  have HPN := Lib.hid hpn; have HG := Lib.hid hg; have HAR := Lib.hid har; have HFV := Lib.hid hfv; have HS := Lib.hid (since_step S2.out hs)
  have hz3 := hs.size
  rw [Z2.out] at hz3
  have FZ : Hid (SquB w3 (w.heap.size + 1) 0 0 0 0 0) := Lib.hid (F2.out.of (hs.block _ (by rw [Z2.out]; omega)))
  clear hpn hg har hfv hs HQ
  go_wp2_with fail
  generalize hV : World.alloc _ _ = V
  have VB : Hid (SquB V w3.heap.size b0 b1 b2 b3 b4) := Lib.hid (by rw [← hV]; exact SquB.new _ _ _ _ _ _)
  have VZ : Hid (SquB V (w.heap.size + 1) 0 0 0 0 0) := Lib.hid (by rw [← hV]; exact FZ.out.of (blk_keep _ (by omega)))
  have VS : Hid (w.Since w.heap.size V) := Lib.hid (by rw [← hV]; exact HS.out.alloc (by omega) _)
  have VG : Hid (Gs 55 V (w.heap.size + 1 + 1) p.A p.n p.xs) := Lib.hid (by rw [← hV]; exact HG.out.since ((World.Since.refl _ _).alloc (Nat.le_refl _) _))
  clear hV
  have c1 := VB.out.at_.f.a
  have c2' := VB.out.at_.f.r
  have c3 := VB.out.at_.f.l
  have c4 := VB.out.at_.t
  have c5 := VB.out.at_.q
  have d1 := VZ.out.at_.f.a
  have d2 := VZ.out.at_.f.r
  have d3 := VZ.out.at_.f.l
  have d4 := VZ.out.at_.t
  have d5 := VZ.out.at_.q
  have e0 := fun o => VZ.out.free (o := o)
  go_region
  all_goals
    have G9 : SquB _ (w.heap.size + 1) b0 b1 b2 b3 b4 := VZ.out.set5 (a := b0) (r := b1) (l := b2) (t := b3) (q := b4)
    have S9 := ((((VS.out.setCell (a := ⟨w.heap.size + 1, 0, none⟩) (by simp) (.float .f32 b0)).setCell (a := ⟨w.heap.size + 1, 1, none⟩) (by simp) (.float .f32 b1)).setCell (a := ⟨w.heap.size + 1, 2, none⟩) (by simp) (.float .f32 b2)).setCell (a := ⟨w.heap.size + 1, 3, none⟩) (by simp) (.float .f32 b3)).setCell (a := ⟨w.heap.size + 1, 4, none⟩) (by simp) (.float .f32 b4)
    have O9 : Gs 55 _ (w.heap.size + 1 + 1) p.A p.n p.xs := VG.out.onLow (((On.refl (w.heap.size + 1) V).set 0 (.float .f32 b0)).set 1 (.float .f32 b1) |>.set 2 (.float .f32 b2) |>.set 3 (.float .f32 b3) |>.set 4 (.float .f32 b4)) (by omega)
    generalize World.setCell _ _ _ = W9 at *
    have g1 := G9.at_.f.a
    have g2 := G9.at_.f.r
    have g3 := G9.at_.f.l
    have g4 := G9.at_.t
    have g5 := G9.at_.q
    have S10 := Lib.hid S9; have O10 := Lib.hid O9; clear S9 O9 d1 d2 d3 d4 d5 c1 c2' c3 c4 c5 e0 G9
    go_wp2
    exact bodyPost_ret (v := .tuple #[.slice p.A p.n cp, .agg #[.float .f32 b0, .float .f32 b1, .float .f32 b2, .float .f32 b3, .float .f32 b4], .bool true]) (by simp [results, Try.results47, go_sem, g1, g2, g3, g4, g5]) rfl
      ⟨p, cp, ⟨b0, b1, b2, b3, b4⟩, rfl, HPN.out, O10.out.less (by omega), HAR.out, HFV.out, (by first | exact since_drewN S10.out 1 | exact S10.out)⟩
theorem specRunSq_no (d : SquN) (A : Option Addr) (n c : Nat) (w : World) (hn : ¬ n ≤ 256) (f : Nat → O) : Calls Try.prog 47 #[d.val, .slice A n c] w (PLQB 0 f ⟨some 0, some 0, some 0, some 0, some 0⟩ false w) := by
  obtain ⟨a, r, l, t, q0⟩ := d
  simp only [SquN.val]
  have hfew : decide ((n : Int) ≤ 256) = false := decide_eq_false (by omega)
  go_enter Try.func47, Try.ntmps47
  go_wp2_with (first | (go_at_call 90; refine (specFew_any _ _ _ _ _ hfew).mono ?_; rintro e w' ⟨rfl, rfl⟩))
  exact bodyPost_ret (v := .tuple #[.slice none 0 0, .agg #[.float .f32 0, .float .f32 0, .float .f32 0, .float .f32 0, .float .f32 0], .bool false]) (by simp [results, Try.results47, go_sem]) rfl (PLQB.none_ (by (repeat (first | (with_reducible refine Fl.sinDrew ?_) | (with_reducible refine World.Since.drew ?_) | (with_reducible refine Fl.sinSet ?_ ?_; rotate_left) | (with_reducible refine Fl.sinAlloc ?_ ?_; rotate_left) | with_reducible exact World.Since.refl _ _ | with_reducible assumption | (with_reducible refine Fl.sinStep (by with_reducible assumption) ?_))); all_goals (first | omega | (simp; done) | (simp; omega) | (simp [go_sem]; done) | (simp [go_sem]; omega))) _)
set_option maxHeartbeats 4000000 in
set_option maxRecDepth 100000 in
theorem specDuckSq_ok (d : SquN) (D : Squ) (A C : Option Addr) (n c c2 : Nat) (xs ys : List Nat) (w : World) (hD : FvSqu d D) (hA : Fs w w.heap.size A n xs) (hB : Fs w w.heap.size C n ys) (hn : n ≤ 256) :
    Calls Try.prog 55 #[d.val, .slice A n c, .slice C n c2] w (PLQB n (sqO D (fun k => ab .f32 (wd xs k)) (fun k => ab .f32 (wd ys k))) ⟨D.a, D.r, sqL D (fun k => ab .f32 (wd ys k)) n, D.t, D.q⟩ true w) := by
  obtain ⟨a, r, l, t, q0⟩ := d
  obtain ⟨ha, hr, hl, ht, hq0⟩ := hD
  simp only at ha hr hl ht hq0
  have hfew : decide ((n : Int) ≤ 256) = true := decide_eq_true (by omega)
  have HA := Lib.hid hA
  have HB := Lib.hid hB
  have HQ := Lib.hid (fun W (s : w.Since w.heap.size W) => specSqueeze_ok ⟨a, r, l, t, q0⟩ D A C n c c2 xs ys W ⟨ha, hr, hl, ht, hq0⟩ (HA.out.now s) (HB.out.now s) hn)
  simp only [SquN.val] at HQ ⊢
  clear hA hB
  obtain ⟨W1, hW1⟩ : ∃ W, W = w.alloc (.cells #[.float .f32 a, .float .f32 r, .float .f32 l, .float .f32 t, .float .f32 q0] 69) := ⟨_, rfl⟩
  obtain ⟨W2, hW2⟩ : ∃ W, W = W1.alloc (.cells #[.float .f32 0, .float .f32 0, .float .f32 0, .float .f32 0, .float .f32 0] 69) := ⟨_, rfl⟩
  have z1 : W1.heap.size = w.heap.size + 1 := by rw [hW1]; simp
  have z2 : W2.heap.size = w.heap.size + 1 + 1 := by rw [hW2]; simp [z1]
  have f1 : SquB W1 w.heap.size a r l t q0 := by rw [hW1]; exact SquB.new _ _ _ _ _ _
  have F2 : Hid (SquB W2 (w.heap.size + 1) 0 0 0 0 0) := Lib.hid (by rw [hW2, ← z1]; exact SquB.new _ _ _ _ _ _)
  have F1 : Hid (SquB W2 w.heap.size a r l t q0) := Lib.hid (f1.of (by rw [hW2]; exact blk_keep _ (by omega)))
  have S2 : Hid (w.Since w.heap.size W2) := Lib.hid (by rw [hW2, hW1]; exact ((World.Since.refl _ _).alloc (Nat.le_refl _) _).alloc (by simp) _)
  have HW1 := Lib.hid hW1; have HW2 := Lib.hid hW2; have Z2 := Lib.hid z2
  clear hW1 hW2 f1 z1 z2
  go_enter Try.func55, Try.ntmps55
  go_wp2_with (first | (go_at_call 90; refine (specFew_any _ _ _ _ _ hfew).mono ?_; rintro e w' ⟨rfl, rfl⟩))
  rw [← HW1.out, ← HW2.out]
  refine (HQ.out W2 S2.out).mono ?_
  rintro e w3 ⟨p, cp, s, rfl, hpn, hg, har, hfv, hs⟩
  obtain ⟨b0, b1, b2, b3, b4⟩ := s
  simp only [SquN.val]
  rw [Z2.out] at hg
  have HPN := Lib.hid hpn; have HG := Lib.hid hg; have HAR := Lib.hid har; have HFV := Lib.hid hfv; have HS := Lib.hid (since_step S2.out hs)
  have hz3 := hs.size
  rw [Z2.out] at hz3
  have FZ : Hid (SquB w3 (w.heap.size + 1) 0 0 0 0 0) := Lib.hid (F2.out.of (hs.block _ (by rw [Z2.out]; omega)))
  clear hpn hg har hfv hs HQ
  go_wp2_with fail
  generalize hV : World.alloc _ _ = V
  have VB : Hid (SquB V w3.heap.size b0 b1 b2 b3 b4) := Lib.hid (by rw [← hV]; exact SquB.new _ _ _ _ _ _)
  have VZ : Hid (SquB V (w.heap.size + 1) 0 0 0 0 0) := Lib.hid (by rw [← hV]; exact FZ.out.of (blk_keep _ (by omega)))
  have VS : Hid (w.Since w.heap.size V) := Lib.hid (by rw [← hV]; exact HS.out.alloc (by omega) _)
  have VG : Hid (Gs 55 V (w.heap.size + 1 + 1) p.A p.n p.xs) := Lib.hid (by rw [← hV]; exact HG.out.since ((World.Since.refl _ _).alloc (Nat.le_refl _) _))
  clear hV
  have c1 := VB.out.at_.f.a
  have c2' := VB.out.at_.f.r
  have c3 := VB.out.at_.f.l
  have c4 := VB.out.at_.t
  have c5 := VB.out.at_.q
  have d1 := VZ.out.at_.f.a
  have d2 := VZ.out.at_.f.r
  have d3 := VZ.out.at_.f.l
  have d4 := VZ.out.at_.t
  have d5 := VZ.out.at_.q
  have e0 := fun o => VZ.out.free (o := o)
  go_region
  all_goals
    have G9 : SquB _ (w.heap.size + 1) b0 b1 b2 b3 b4 := VZ.out.set5 (a := b0) (r := b1) (l := b2) (t := b3) (q := b4)
    have S9 := ((((VS.out.setCell (a := ⟨w.heap.size + 1, 0, none⟩) (by simp) (.float .f32 b0)).setCell (a := ⟨w.heap.size + 1, 1, none⟩) (by simp) (.float .f32 b1)).setCell (a := ⟨w.heap.size + 1, 2, none⟩) (by simp) (.float .f32 b2)).setCell (a := ⟨w.heap.size + 1, 3, none⟩) (by simp) (.float .f32 b3)).setCell (a := ⟨w.heap.size + 1, 4, none⟩) (by simp) (.float .f32 b4)
    have O9 : Gs 55 _ (w.heap.size + 1 + 1) p.A p.n p.xs := VG.out.onLow (((On.refl (w.heap.size + 1) V).set 0 (.float .f32 b0)).set 1 (.float .f32 b1) |>.set 2 (.float .f32 b2) |>.set 3 (.float .f32 b3) |>.set 4 (.float .f32 b4)) (by omega)
    generalize World.setCell _ _ _ = W9 at *
    have g1 := G9.at_.f.a
    have g2 := G9.at_.f.r
    have g3 := G9.at_.f.l
    have g4 := G9.at_.t
    have g5 := G9.at_.q
    have S10 := Lib.hid S9; have O10 := Lib.hid O9; clear S9 O9 d1 d2 d3 d4 d5 c1 c2' c3 c4 c5 e0 G9
    go_wp2
    exact bodyPost_ret (v := .tuple #[.slice p.A p.n cp, .agg #[.float .f32 b0, .float .f32 b1, .float .f32 b2, .float .f32 b3, .float .f32 b4], .bool true]) (by simp [results, Try.results55, go_sem, g1, g2, g3, g4, g5]) rfl
      ⟨p, cp, ⟨b0, b1, b2, b3, b4⟩, rfl, HPN.out, O10.out.less (by omega), HAR.out, HFV.out, (by first | exact since_drewN S10.out 1 | exact S10.out)⟩
theorem specDuckSq_no (d : SquN) (A C : Option Addr) (n m c c2 : Nat) (w : World) (hn : ¬ (n ≤ 256 ∧ m = n)) (f : Nat → O) : Calls Try.prog 55 #[d.val, .slice A n c, .slice C m c2] w (PLQB 0 f ⟨some 0, some 0, some 0, some 0, some 0⟩ false w) := by
  by_cases h : n ≤ 256
  · have h2 : ¬ (m : Int) = (n : Int) := by omega
    clear hn
    obtain ⟨a, r, l, t, q0⟩ := d
    simp only [SquN.val]
    have hfew : decide ((n : Int) ≤ 256) = true := decide_eq_true (by omega)
    go_enter Try.func55, Try.ntmps55
    go_wp2_with (first | (go_at_call 90; refine (specFew_any _ _ _ _ _ hfew).mono ?_; rintro e w' ⟨rfl, rfl⟩))
    exact bodyPost_ret (v := .tuple #[.slice none 0 0, .agg #[.float .f32 0, .float .f32 0, .float .f32 0, .float .f32 0, .float .f32 0], .bool false]) (by simp [results, Try.results55, go_sem]) rfl (PLQB.none_ (by (repeat (first | (with_reducible refine Fl.sinDrew ?_) | (with_reducible refine World.Since.drew ?_) | (with_reducible refine Fl.sinSet ?_ ?_; rotate_left) | (with_reducible refine Fl.sinAlloc ?_ ?_; rotate_left) | with_reducible exact World.Since.refl _ _ | with_reducible assumption | (with_reducible refine Fl.sinStep (by with_reducible assumption) ?_))); all_goals (first | omega | (simp; done) | (simp; omega) | (simp [go_sem]; done) | (simp [go_sem]; omega))) _)
  · clear hn
    obtain ⟨a, r, l, t, q0⟩ := d
    simp only [SquN.val]
    have hfew : decide ((n : Int) ≤ 256) = false := decide_eq_false (by omega)
    go_enter Try.func55, Try.ntmps55
    go_wp2_with (first | (go_at_call 90; refine (specFew_any _ _ _ _ _ hfew).mono ?_; rintro e w' ⟨rfl, rfl⟩))
    exact bodyPost_ret (v := .tuple #[.slice none 0 0, .agg #[.float .f32 0, .float .f32 0, .float .f32 0, .float .f32 0, .float .f32 0], .bool false]) (by simp [results, Try.results55, go_sem]) rfl (PLQB.none_ (by (repeat (first | (with_reducible refine Fl.sinDrew ?_) | (with_reducible refine World.Since.drew ?_) | (with_reducible refine Fl.sinSet ?_ ?_; rotate_left) | (with_reducible refine Fl.sinAlloc ?_ ?_; rotate_left) | with_reducible exact World.Since.refl _ _ | with_reducible assumption | (with_reducible refine Fl.sinStep (by with_reducible assumption) ?_))); all_goals (first | omega | (simp; done) | (simp; omega) | (simp [go_sem]; done) | (simp [go_sem]; omega))) _)
end Go.Proofs.Ytbgjmmncjmcjfaa
