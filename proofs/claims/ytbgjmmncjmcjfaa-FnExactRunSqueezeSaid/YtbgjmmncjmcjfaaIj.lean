/- Dynamics: DuckSamples and RunSqueeze of the program. -/
import Derived.Test.YtbgjmmncjmcjfaaIi
import Derived.Test.YtbgjmmncjmcjfaaEp
set_option linter.unusedVariables false
set_option linter.unusedSimpArgs false
namespace Go.Proofs.Ytbgjmmncjmcjfaa
open Fl Go.RowKit
theorem implGain_hc (l t r : Nat) (L T R : O) (w : World) (hl : Hid (Fv .f32 l L)) (ht : Hid (Fv .f32 t T)) (hr : Hid (Fv .f32 r R)) (m : Nat) :
    Calls Try.prog 99 #[.float .f32 l, .float .f32 t, .float .f32 r] (w.drewN m) fun e w' => ∃ q n, e = .returned (.float .f32 q) ∧ Fv .f32 q (gainO L T R) ∧ w' = w.drewN n :=
  (implGain_any l t r L T R _ hl ht hr).mono fun e w' ⟨q, n, h1, h2, h3⟩ => ⟨q, m + n, h1, h2, h3.trans (by simp [World.drewN, Nat.add_assoc])⟩
set_option maxHeartbeats 2000000 in
set_option maxRecDepth 100000 in
theorem duckClos_any (k n gb gy gs l t q : Nat) (L T Q : O) (W : World) (hl : Hid (Fv .f32 l L)) (ht : Hid (Fv .f32 t T)) (hq : Hid (Fv .f32 q Q)) (hk : k < n) (hn : n ≤ 256) (hb : W.cell? ⟨gb, 0, none⟩ = some (.slice (some ⟨gy, 0, none⟩) n n)) (hy : W.cell? ⟨gy, k, none⟩ = some (.float .f32 l)) (h3 : W.cell? ⟨gs, 3, none⟩ = some (.float .f32 t)) (h4 : W.cell? ⟨gs, 4, none⟩ = some (.float .f32 q)) :
    Calls Try.prog 98 #[.int .i64 (k : Int), .pointer (some ⟨gb, 0, none⟩), .pointer (some ⟨gs, 0, none⟩)] W fun e W' => ∃ r m, e = .returned (.float .f32 r) ∧ Hid (Fv .f32 r (gainO L T Q)) ∧ W.drewN m = W' := by
  go_enter Try.func98, Try.ntmps98
  go_wp2_with fail
  refine Lo.wp_loose_all [13,4] (by kernel_rfl) (by kernel_rfl) ?_
  repeat (first
    | (refine Lo.wpL_callF rfl 99 [.tmp 8, .tmp 10, .tmp 12] [.float .f32 l, .float .f32 t, .float .f32 q] _ rfl (by decide) (callsEnter 99 Try.f99 _ (by kernel_rfl) (by kernel_rfl) rfl) .f32 _ (Lo.keeps [8, 10, 12] _ rfl (by decide)) (implGain_hc l t q _ _ _ W hl ht hq) (gainO_ex hl ht hq) ?_; intro rr hrr; simp only [Act.put, List.setIfInBounds_toArray, List.set_cons_succ, List.set_cons_zero])
    | (refine Lo.wpL_move rfl _ (.inl rfl) (by decide) ?_; simp only [Act.put, List.setIfInBounds_toArray, List.set_cons_succ, List.set_cons_zero])
    | (refine Lo.wpL_move rfl _ (.inr rfl) (by decide) ?_; simp only [Act.put, List.setIfInBounds_toArray, List.set_cons_succ, List.set_cons_zero])
    | (refine Lo.wpL_fop rfl _ _ _ _ rfl rfl (by decide) _ _ _ _ _ rfl rfl (by assumption) (by assumption) ?_; intro rr hrr; simp only [Act.put, List.setIfInBounds_toArray, List.set_cons_succ, List.set_cons_zero])
    | (refine Lo.wpL_wide rfl _ _ _ rfl (by decide) _ _ rfl (by kernel_rfl) (by kernel_rfl) (by assumption) ?_; intro rr hrr; simp only [Act.put, List.setIfInBounds_toArray, List.set_cons_succ, List.set_cons_zero])
    | (refine Lo.wpL_quiet rfl (by decide) (fun K hK => ?_); go_big_quiet_op; (refine hK _ ?_; clear hK K)))
  refine Lo.wpL_nil ?_
  refine Lo.after_fl rfl (by assumption) ?_; intro q13 h13; simp only [Act.put, List.setIfInBounds_toArray, List.set_cons_succ, List.set_cons_zero]
  refine Lo.after_fl rfl (by assumption) ?_; intro q4 h4; simp only [Act.put, List.setIfInBounds_toArray, List.set_cons_succ, List.set_cons_zero]
  refine Lo.after_nil ?_; intro nq
  go_wp2
  go_ret
  exact ⟨_, _, rfl, h4, rfl⟩
theorem implPair_b (A C : Option Addr) (n m c c2 : Nat) (b : Bool) (w : World) (hn : n ≤ 9223372036854775807) (h : (decide (n ≤ 256 ∧ m = n)) = b) :
    Calls Try.prog 94 #[.slice A n c, .slice C m c2] w fun e w' => e = .returned (.bool b) ∧ w' = w := by
  by_cases h1 : (n : Int) = (m : Int)
  · have e2 : b = decide ((n : Int) ≤ 256) := by
      rw [← h]
      by_cases h3 : n ≤ 256
      · rw [decide_eq_true ⟨h3, by omega⟩, decide_eq_true (by omega)]
      · rw [decide_eq_false (fun h => h3 h.1), decide_eq_false (by omega)]
    clear h
    cases h5 : decide ((n : Int) ≤ 256)
    all_goals
      rw [h5] at e2
      subst e2
      obtain rfl : m = n := by omega
      go_enter Try.func94, Try.ntmps94
      go_wp2_with (first | (go_at_call 117; refine (implSamples_b _ _ _ _ _ h5).mono ?_; rintro e w' ⟨rfl, rfl⟩))
      go_ret
      exact ⟨rfl, rfl⟩
  · have e2 : b = false := by rw [← h]; exact decide_eq_false (fun h => h1 (by omega))
    subst e2
    clear h
    go_enter Try.func94, Try.ntmps94
    go_wp2
    go_ret
    exact ⟨rfl, rfl⟩
set_option maxHeartbeats 8000000 in
set_option maxRecDepth 100000 in
theorem implDuckSq_ok (d : SquN) (D : Squ) (A C : Option Addr) (n c c2 : Nat) (xs ys : List Nat) (w : World) (hD : FvSqu d D) (hA : Fs w w.heap.size A n xs) (hB : Fs w w.heap.size C n ys) (hn : n ≤ 256) :
    Calls Try.prog 56 #[d.val, .slice A n c, .slice C n c2] w (PLQB n (sqO D (fun k => ab .f32 (wd xs k)) (fun k => ab .f32 (wd ys k))) ⟨D.a, D.r, sqL D (fun k => ab .f32 (wd ys k)) n, D.t, D.q⟩ true w) := by
  obtain ⟨a, r, l, t, q0⟩ := d
  obtain ⟨ha, hr, hl, ht, hq0⟩ := hD
  simp only at ha hr hl ht hq0
  have HA := Lib.hid hA
  have HB := Lib.hid hB
  simp only [SquN.val]
  clear hA hB
  obtain ⟨W1, hW1⟩ : ∃ W, W = w.alloc (.cells #[.float .f32 a, .float .f32 r, .float .f32 l, .float .f32 t, .float .f32 q0] 69) := ⟨_, rfl⟩
  obtain ⟨W2, hW2⟩ : ∃ W, W = W1.alloc (.cells #[.float .f32 0, .float .f32 0, .float .f32 0, .float .f32 0, .float .f32 0] 69) := ⟨_, rfl⟩
  have z1 : W1.heap.size = w.heap.size + 1 := by rw [hW1]; simp
  have z2 : W2.heap.size = w.heap.size + 1 + 1 := by rw [hW2]; simp [z1]
  have f1 : SquB W1 w.heap.size a r l t q0 := by rw [hW1]; exact SquB.new _ _ _ _ _ _
  have F2 : Hid (SquB W2 (w.heap.size + 1) 0 0 0 0 0) := Lib.hid (by rw [hW2, ← z1]; exact SquB.new _ _ _ _ _ _)
  have F1 : Hid (SquB W2 w.heap.size a r l t q0) := Lib.hid (f1.of (by rw [hW2]; exact blk_keep _ (by omega)))
  have S2 : Hid (w.Since w.heap.size W2) := Lib.hid (by rw [hW2, hW1]; exact ((World.Since.refl _ _).alloc (Nat.le_refl _) _).alloc (by simp) _)
  have HW1 := Lib.hid hW1; have HW2 := Lib.hid hW2; have Z2 := Lib.hid z2
  clear hW1 hW2 f1 z1 z2
  go_enter Try.func56, Try.ntmps56
  go_wp2_with (first | (go_at_call 94; refine (implPair_b _ _ _ _ _ _ true _ (by omega) (decide_eq_true ⟨hn, rfl⟩)).mono ?_; rintro e w' ⟨rfl, rfl⟩) | fail)
  rw [← HW1.out, ← HW2.out]
  have hz2 := Z2.out
  refine (results_at C n c2 ys 96 #[.pointer (some ⟨w.heap.size, 0, none⟩)] w.heap.size (fun k W => ∃ q, SquB W w.heap.size a r q t q0 ∧ SquB W (w.heap.size + 1) 0 0 0 0 0 ∧ Hid (Fv .f32 q (sqL D (fun k => ab .f32 (wd ys k)) k))) (fun k => sqL D (fun k => ab .f32 (wd ys k)) (k + 1)) W2 (HB.out.since S2.out) (by omega) hn (fun _ _ => rfl) ?hI ?hst ⟨l, F1.out, F2.out, hl⟩).mono ?_
  case hI =>
    rintro k W W' ⟨q, h1, h2, h3⟩ h4 h5 h6
    exact ⟨q, h1.of (h6 _ (by omega)), h2.of (h6 _ (by omega)), h3⟩
  case hst =>
    rintro k q W hk rfl ⟨q1, h1, h2, h3⟩ hs
    refine (implFollow_any w.heap.size a r q1 (wd ys k) D.a D.r _ _ W h1.at_.f h1.free ha hr h3 (Lib.hid ⟨HB.out.2.1.at_ k, rfl⟩)).mono ?_
    rintro e W' ⟨q2, rfl, hq2, m, rfl⟩
    exact ⟨q2, rfl, hq2, ⟨q2, h1.set, h2.of (Go.Deep.blk_setCell_other _ _ _ _ (show w.heap.size + 1 ≠ w.heap.size by omega)), hq2⟩, ((On.refl _ _).set _ _).drewN _⟩
  rintro e w5 ⟨vs, rfl, hg, hare, ⟨q, h1, h2, h3⟩, ho⟩
  rw [hz2] at hg
  rw [hz2]
  have HG := Lib.hid hg; have HAA := Lib.hid hare; have HO := Lib.hid ho; have HF := Lib.hid h1; have HF2 := Lib.hid h2
  have hz5 := ho.1.size
  rw [hz2] at hz5
  clear hg hare ho h1 h2 hz2
  go_wp2_with fail
  generalize hV : World.alloc _ _ = V
  have zV : Hid (V.heap.size = w5.heap.size + 1) := Lib.hid (by rw [← hV]; simp)
  have VB : Hid (SquB V w.heap.size a r q t q0) := Lib.hid (by rw [← hV]; exact HF.out.of (blk_keep _ (by omega)))
  have VZ0 : Hid (SquB V (w.heap.size + 1) 0 0 0 0 0) := Lib.hid (by rw [← hV]; exact HF2.out.of (blk_keep _ (by omega)))
  have VS0 : Hid (w.Since w.heap.size V) := Lib.hid (by rw [← hV]; exact (S2.out.trans (HO.out.since (Nat.le_refl _))).alloc (by omega) _)
  have VG0 : Hid (Gs 55 V (w.heap.size + 1 + 1) (some ⟨w.heap.size + 1 + 1, 0, none⟩) n vs) := Lib.hid (by rw [← hV]; exact HG.out.since ((World.Since.refl _ _).alloc (Nat.le_refl _) _))
  have VL : Hid (V.cell? ⟨w5.heap.size, 0, none⟩ = some (.slice (some ⟨w.heap.size + 1 + 1, 0, none⟩) n n)) := Lib.hid (by rw [← hV]; simp [go_sem])
  clear hV
  have hzV := zV.out
  refine (gains_any A n c xs 98 #[.pointer (some ⟨w5.heap.size, 0, none⟩), .pointer (some ⟨w.heap.size, 0, none⟩)] w.heap.size (fun _ W => ∀ b, b < V.heap.size → W.heap[b]? = V.heap[b]?) (fun k => gainO (sqL D (fun k => ab .f32 (wd ys k)) (k + 1)) D.t D.q) V (HA.out.since VS0.out) (by omega) hn (fun _ _ => rfl) ?hI2 ?hst2 (fun _ _ => rfl)).mono ?_
  case hI2 => exact fun k W W' h1 h2 h3 h4 b hb => (h4 b hb).trans (h1 b hb)
  case hst2 =>
    rintro k W hk hi hs
    obtain ⟨g, cs, eg, hgl, hgb, hgc⟩ := VG0.out.2.2 (by omega)
    injection eg with eg; injection eg with eg _ _; subst eg
    have hlt2 : w.heap.size + 1 + 1 < V.heap.size := (Array.getElem?_eq_some_iff.1 hgb).1
    have y1 : W.cell? ⟨w.heap.size + 1 + 1, k, none⟩ = some (.float .f32 (wd vs k)) := (cell_of_block (hi _ hlt2) _).trans (by simp only [World.cell?, hgb]; simpa [fv] using hgc k hk)
    refine (duckClos_any k n w5.heap.size (w.heap.size + 1 + 1) w.heap.size (wd vs k) t q0 (sqL D (fun k => ab .f32 (wd ys k)) (k + 1)) D.t D.q W ?_ ht hq0 hk hn ((cell_of_block (hi _ (by omega)) _).trans VL.out) y1 ((cell_of_block (hi _ (by omega)) _).trans VB.out.at_.t) ((cell_of_block (hi _ (by omega)) _).trans VB.out.at_.q)).mono ?_
    · exact Lib.hid ⟨VG0.out.2.1.at_ k, HAA.out k hk⟩
    · rintro e W' ⟨r2, m, rfl, hr2, rfl⟩
      exact ⟨r2, rfl, hr2, hi, (On.refl _ _).drewN m⟩
  rintro e w6 ⟨zs, rfl, hg, hare, hi, ho⟩
  have HG6 := Lib.hid hg; have HAR0 := Lib.hid hare; have HO6 := Lib.hid ho; have HI6 := Lib.hid hi
  have hz6 := ho.1.size
  clear hg hare ho hi
  obtain ⟨p, hp⟩ : ∃ p : Ls, p = ⟨some ⟨V.heap.size, 0, none⟩, n, zs⟩ := ⟨_, rfl⟩
  have HPN : Hid (p.n = n) := Lib.hid (by rw [hp])
  have HAR : Hid (Are p (sqO D (fun k => ab .f32 (wd xs k)) (fun k => ab .f32 (wd ys k)))) := Lib.hid (by rw [hp]; exact HAR0.out)
  have HFV : Hid (FvSqu ⟨a, r, q, t, q0⟩ ⟨D.a, D.r, sqL D (fun k => ab .f32 (wd ys k)) n, D.t, D.q⟩) := Lib.hid ⟨ha, hr, h3, ht, hq0⟩
  have WB : Hid (SquB w6 w.heap.size a r q t q0) := Lib.hid (VB.out.of (HI6.out _ (by omega)))
  have VZ : Hid (SquB w6 (w.heap.size + 1) 0 0 0 0 0) := Lib.hid (VZ0.out.of (HI6.out _ (by omega)))
  have VS : Hid (w.Since w.heap.size w6) := Lib.hid (VS0.out.trans (HO6.out.since (Nat.le_refl _)))
  have VG : Hid (Gs 55 w6 (w.heap.size + 1 + 1) p.A p.n p.xs) := Lib.hid (by rw [hp]; exact HG6.out.less (by omega))
  have hpA : (Value.slice (some ⟨V.heap.size, 0, none⟩) n n) = .slice p.A p.n n := by rw [hp]
  rw [hpA]
  clear hp hpA
  have c1 := WB.out.at_.f.a
  have c2' := WB.out.at_.f.r
  have c3 := WB.out.at_.f.l
  have c4 := WB.out.at_.t
  have c5 := WB.out.at_.q
  have d1 := VZ.out.at_.f.a
  have d2 := VZ.out.at_.f.r
  have d3 := VZ.out.at_.f.l
  have d4 := VZ.out.at_.t
  have d5 := VZ.out.at_.q
  have e0 := fun o => VZ.out.free (o := o)
  go_wp2_with fail
  go_region
  all_goals
    have G9 : SquB _ (w.heap.size + 1) a r q t q0 := VZ.out.set5 (a := a) (r := r) (l := q) (t := t) (q := q0)
    have S9 := ((((VS.out.setCell (a := ⟨w.heap.size + 1, 0, none⟩) (by simp) (.float .f32 a)).setCell (a := ⟨w.heap.size + 1, 1, none⟩) (by simp) (.float .f32 r)).setCell (a := ⟨w.heap.size + 1, 2, none⟩) (by simp) (.float .f32 q)).setCell (a := ⟨w.heap.size + 1, 3, none⟩) (by simp) (.float .f32 t)).setCell (a := ⟨w.heap.size + 1, 4, none⟩) (by simp) (.float .f32 q0)
    have O9 : Gs 55 _ (w.heap.size + 1 + 1) p.A p.n p.xs := VG.out.onLow (((On.refl (w.heap.size + 1) w6).set 0 (.float .f32 a)).set 1 (.float .f32 r) |>.set 2 (.float .f32 q) |>.set 3 (.float .f32 t) |>.set 4 (.float .f32 q0)) (by omega)
    generalize World.setCell _ _ _ = W9 at *
    have g1 := G9.at_.f.a
    have g2 := G9.at_.f.r
    have g3 := G9.at_.f.l
    have g4 := G9.at_.t
    have g5 := G9.at_.q
    have S10 := Lib.hid S9; have O10 := Lib.hid O9; clear S9 O9 d1 d2 d3 d4 d5 c1 c2' c3 c4 c5 e0 G9
    go_wp2
    exact bodyPost_ret (v := .tuple #[.slice p.A p.n n, .agg #[.float .f32 a, .float .f32 r, .float .f32 q, .float .f32 t, .float .f32 q0], .bool true]) (by simp [results, Try.results56, go_sem, g1, g2, g3, g4, g5]) rfl
      ⟨p, n, ⟨a, r, q, t, q0⟩, rfl, HPN.out, O10.out.less (by omega), HAR.out, HFV.out, (by first | exact since_drewN S10.out 1 | exact S10.out)⟩
theorem implDuckSq_no (d : SquN) (A C : Option Addr) (n m c c2 : Nat) (w : World) (hs : n ≤ 9223372036854775807) (hn : ¬ (n ≤ 256 ∧ m = n)) (f : Nat → O) : Calls Try.prog 56 #[d.val, .slice A n c, .slice C m c2] w (PLQB 0 f ⟨some 0, some 0, some 0, some 0, some 0⟩ false w) := by
  obtain ⟨a, r, l, t, q0⟩ := d
  simp only [SquN.val]
  go_enter Try.func56, Try.ntmps56
  go_wp2_with (first | (go_at_call 94; refine (implPair_b _ _ _ _ _ _ false _ hs (decide_eq_false hn)).mono ?_; rintro e w' ⟨rfl, rfl⟩))
  exact bodyPost_ret (v := .tuple #[.slice none 0 0, .agg #[.float .f32 0, .float .f32 0, .float .f32 0, .float .f32 0, .float .f32 0], .bool false]) (by simp [results, Try.results56, go_sem]) rfl (PLQB.none_ (by (repeat (first | (with_reducible refine Fl.sinDrew ?_) | (with_reducible refine World.Since.drew ?_) | (with_reducible refine Fl.sinSet ?_ ?_; rotate_left) | (with_reducible refine Fl.sinAlloc ?_ ?_; rotate_left) | with_reducible exact World.Since.refl _ _ | with_reducible assumption | (with_reducible refine Fl.sinStep (by with_reducible assumption) ?_))); all_goals (first | omega | (simp; done) | (simp; omega) | (simp [go_sem]; done) | (simp [go_sem]; omega))) _)
theorem PLQB.later {n0 : Nat} {f0 : Nat → O} {S : Squ} {b : Bool} {w w1 w2 : World} {e : Ending} (h : PLQB n0 f0 S b w1 e w2) (s : w.Since w.heap.size w1) : PLQB n0 f0 S b w e w2 := by
  obtain ⟨p, c, d, h1, h2, h3, h4, h5, h6⟩ := h
  exact ⟨p, c, d, h1, h2, h3.less s.size, h4, h5, since_step s h6⟩
set_option maxHeartbeats 4000000 in
set_option maxRecDepth 100000 in
theorem implRunSq_of (d : SquN) (A : Option Addr) (n c : Nat) (w : World) (n0 : Nat) (f0 : Nat → O) (S : Squ) (b : Bool) (h : ∀ W, w.Since w.heap.size W → Calls Try.prog 56 #[d.val, .slice A n c, .slice A n c] W (PLQB n0 f0 S b W)) :
    Calls Try.prog 50 #[d.val, .slice A n c] w (PLQB n0 f0 S b w) := by
  have H := Lib.hid h
  clear h
  obtain ⟨a, r, l, t, q0⟩ := d
  simp only [SquN.val] at H ⊢
  obtain ⟨W1, hW1⟩ : ∃ W, W = w.alloc (.cells #[.float .f32 a, .float .f32 r, .float .f32 l, .float .f32 t, .float .f32 q0] 69) := ⟨_, rfl⟩
  obtain ⟨W2, hW2⟩ : ∃ W, W = W1.alloc (.cells #[.float .f32 0, .float .f32 0, .float .f32 0, .float .f32 0, .float .f32 0] 69) := ⟨_, rfl⟩
  have z1 : W1.heap.size = w.heap.size + 1 := by rw [hW1]; simp
  have z2 : W2.heap.size = w.heap.size + 1 + 1 := by rw [hW2]; simp [z1]
  have f1 : SquB W1 w.heap.size a r l t q0 := by rw [hW1]; exact SquB.new _ _ _ _ _ _
  have F2 : Hid (SquB W2 (w.heap.size + 1) 0 0 0 0 0) := Lib.hid (by rw [hW2, ← z1]; exact SquB.new _ _ _ _ _ _)
  have F1 : Hid (SquB W2 w.heap.size a r l t q0) := Lib.hid (f1.of (by rw [hW2]; exact blk_keep _ (by omega)))
  have S2 : Hid (w.Since w.heap.size W2) := Lib.hid (by rw [hW2, hW1]; exact ((World.Since.refl _ _).alloc (Nat.le_refl _) _).alloc (by simp) _)
  have HW1 := Lib.hid hW1; have HW2 := Lib.hid hW2; have Z2 := Lib.hid z2
  clear hW1 hW2 f1 z1 z2
  go_enter Try.func50, Try.ntmps50
  go_wp2_with fail
  rw [← HW1.out, ← HW2.out]
  refine (H.out W2 S2.out).mono ?_
  rintro e w3 ⟨p, cp, s, rfl, hpn, hg, har, hfv, hs⟩
  obtain ⟨b0, b1, b2, b3, b4⟩ := s
  simp only [SquN.val]
  rw [Z2.out] at hg
  have HPN := Lib.hid hpn; have VG := Lib.hid hg; have HAR := Lib.hid har; have HFV := Lib.hid hfv; have VS := Lib.hid (since_step S2.out hs)
  have VZ : Hid (SquB w3 (w.heap.size + 1) 0 0 0 0 0) := Lib.hid (F2.out.of (hs.block _ (by rw [Z2.out]; omega)))
  clear hpn hg har hfv hs
  have d1 := VZ.out.at_.f.a
  have d2 := VZ.out.at_.f.r
  have d3 := VZ.out.at_.f.l
  have d4 := VZ.out.at_.t
  have d5 := VZ.out.at_.q
  have e0 := fun o => VZ.out.free (o := o)
  go_wp2
  have G9 : SquB _ (w.heap.size + 1) b0 b1 b2 b3 b4 := VZ.out.set5 (a := b0) (r := b1) (l := b2) (t := b3) (q := b4)
  have S9 := ((((VS.out.setCell (a := ⟨w.heap.size + 1, 0, none⟩) (by simp) (.float .f32 b0)).setCell (a := ⟨w.heap.size + 1, 1, none⟩) (by simp) (.float .f32 b1)).setCell (a := ⟨w.heap.size + 1, 2, none⟩) (by simp) (.float .f32 b2)).setCell (a := ⟨w.heap.size + 1, 3, none⟩) (by simp) (.float .f32 b3)).setCell (a := ⟨w.heap.size + 1, 4, none⟩) (by simp) (.float .f32 b4)
  have O9 : Gs 55 _ (w.heap.size + 1 + 1) p.A p.n p.xs := VG.out.onLow (((On.refl (w.heap.size + 1) w3).set 0 (.float .f32 b0)).set 1 (.float .f32 b1) |>.set 2 (.float .f32 b2) |>.set 3 (.float .f32 b3) |>.set 4 (.float .f32 b4)) (by omega)
  generalize World.setCell _ _ _ = W9 at *
  have g1 := G9.at_.f.a
  have g2 := G9.at_.f.r
  have g3 := G9.at_.f.l
  have g4 := G9.at_.t
  have g5 := G9.at_.q
  have S10 := Lib.hid S9; have O10 := Lib.hid O9; clear S9 O9 d1 d2 d3 d4 d5 e0 G9
  exact bodyPost_ret (v := .tuple #[.slice p.A p.n cp, .agg #[.float .f32 b0, .float .f32 b1, .float .f32 b2, .float .f32 b3, .float .f32 b4], .bool b]) (by simp [results, Try.results50, go_sem, g1, g2, g3, g4, g5]) rfl
    ⟨p, cp, ⟨b0, b1, b2, b3, b4⟩, rfl, HPN.out, O10.out.less (by omega), HAR.out, HFV.out, (by first | exact since_drewN S10.out 1 | exact S10.out)⟩
end Go.Proofs.Ytbgjmmncjmcjfaa
