/- Arrays of eight floats, of the program. -/
import Derived.Test.YteggicdhgcecpaaMa
import Derived.Test.YteggicdhgcecpaaDi
set_option linter.unusedVariables false
set_option linter.unusedSimpArgs false
namespace Go.Proofs.Yteggicdhgcecpaa
open Fl Go.RowKit
/-- an array of eight words -/
def ag8 (f : Nat → Nat) : Array Value := #[.float .f32 (f 0), .float .f32 (f 1), .float .f32 (f 2), .float .f32 (f 3), .float .f32 (f 4), .float .f32 (f 5), .float .f32 (f 6), .float .f32 (f 7)]
def wv (f : Nat → Nat) (j : Nat) : Value := .float .f32 (f j)
theorem ag8_at (f : Nat → Nat) (j : Nat) (h : j < 8) : (ag8 f)[j]? = some (wv f j) := by
  obtain rfl | rfl | rfl | rfl | rfl | rfl | rfl | rfl : j = 0 ∨ j = 1 ∨ j = 2 ∨ j = 3 ∨ j = 4 ∨ j = 5 ∨ j = 6 ∨ j = 7 := by omega
  all_goals rfl
theorem ag8_gf (w : World) (f : Nat → Nat) : GF (w.alloc (.cells (ag8 f) 90)) w.heap.size 90 8 (wv f) := ⟨_, Go.Deep.blk_alloc_new _ _, fun j hj => ag8_at f j hj⟩
theorem Fl.GF.since {w w' : World} {g m : Nat} {T : TypeId} {f : Nat → Value} (h : GF w g T m f) (s : w.Since w.heap.size w') : GF w' g T m f := h.of (s.block _ h.lt)
def step8 (k : Nat) (r a : Nat → Nat) (j : Nat) : Value := .float .f32 (if j < k then r j else a j)
set_option maxHeartbeats 4000000 in
set_option maxRecDepth 100000 in
theorem mixEights_any (a b : Nat → Nat) (F G : Nat → O) (w : World) (ha : ∀ j, j < 8 → Hid (Fv .f32 (a j) (F j))) (hb : ∀ j, j < 8 → Hid (Fv .f32 (b j) (G j))) :
    Calls Try.prog 72 #[.agg (ag8 a), .agg (ag8 b)] w fun e w' => ∃ r, e = .returned (.agg (ag8 r)) ∧ (∀ j, j < 8 → Hid (Fv .f32 (r j) (ad (F j) (G j)))) ∧ w.Since w.heap.size w' := by
  have HA := Lib.hid ha; have HB := Lib.hid hb
  clear ha hb
  have G0 : Hid (GF (((w.alloc (.cells (ag8 a) 90)).alloc (.cells (ag8 b) 90)).alloc (.cells (ag8 fun _ => 0) 90)) w.heap.size 90 8 (step8 0 (fun _ => 0) a)) := Lib.hid (((ag8_gf w a).since (((World.Since.refl _ _).alloc (Nat.le_refl _) _).alloc (by simp) _)).congr fun j hj => by simp [step8, wv])
  have G1 : Hid (GF (((w.alloc (.cells (ag8 a) 90)).alloc (.cells (ag8 b) 90)).alloc (.cells (ag8 fun _ => 0) 90)) (w.heap.size + 1) 90 8 (wv b)) := Lib.hid (by have := (ag8_gf (w.alloc (.cells (ag8 a) 90)) b).since ((World.Since.refl _ _).alloc (Nat.le_refl _) (.cells (ag8 fun _ => 0) 90)); simpa using this)
  have G2 : Hid (GF (((w.alloc (.cells (ag8 a) 90)).alloc (.cells (ag8 b) 90)).alloc (.cells (ag8 fun _ => 0) 90)) (w.heap.size + 1 + 1) 90 8 (wv fun _ => 0)) := Lib.hid (by have := (ag8_gf ((w.alloc (.cells (ag8 a) 90)).alloc (.cells (ag8 b) 90)) (fun _ => 0)); simpa using this)
  unfold ag8 at *
  go_enter Try.func72, Try.ntmps72
  go_wp2
  go_loopw [6] (fun iv wr => ∃ (k : Nat) (r : Nat → Nat), k ≤ 8 ∧ iv = .int .i64 (k : Nat) ∧ GF wr w.heap.size 90 8 (step8 k r a) ∧ GF wr (w.heap.size + 1) 90 8 (wv b) ∧ GF wr (w.heap.size + 1 + 1) 90 8 (wv fun _ => 0) ∧ (∀ j, j < k → Hid (Fv .f32 (r j) (ad (F j) (G j)))) ∧ w.Since w.heap.size wr) (fun iv _ => 8 - (intOf iv).toNat)
  case atStart => exact ⟨0, fun _ => 0, by omega, rfl, G0.out, G1.out, G2.out, fun j hj => by omega, by (repeat (first | (with_reducible refine Fl.sinDrew ?_) | (with_reducible refine World.Since.drew ?_) | (with_reducible refine Fl.sinSet ?_ ?_; rotate_left) | (with_reducible refine Fl.sinAlloc ?_ ?_; rotate_left) | with_reducible exact World.Since.refl _ _ | with_reducible assumption | (with_reducible refine Fl.sinStep (by with_reducible assumption) ?_))); all_goals (first | omega | (simp; done) | (simp; omega) | (simp [go_sem]; done) | (simp [go_sem]; omega))⟩
  case round =>
    obtain ⟨k, r, hk, rfl, h0, h1, h2, hr, hs⟩ := hrel
    have K0 := Lib.hid h0; have K1 := Lib.hid h1; have K2 := Lib.hid h2; have HR := Lib.hid hr; have HS := Lib.hid hs
    clear h0 h1 h2 hr hs G0 G1 G2
    by_cases hlt : k < 8
    · have hc0 : wr.cell? ⟨w.heap.size, k, none⟩ = some (.float .f32 (a k)) := by
        have := K0.out.cell hlt
        simpa [step8] using this
      have hc1 : wr.cell? ⟨w.heap.size + 1, k, none⟩ = some (.float .f32 (b k)) := K1.out.cell hlt
      have hf0 := K0.out.free k
      have x1 := HA.out k hlt
      have x2 := HB.out k hlt
      go_wp2_with fail
      refine Lo.wp_loose_tail [15] 8 (by kernel_rfl) (by kernel_rfl) ?_
      simp only [List.take_succ_cons, List.take_zero, List.drop_succ_cons, List.drop_zero]
      repeat (first
        | (refine Lo.wpL_move rfl _ (.inl rfl) (by decide) ?_; simp only [Act.put, List.setIfInBounds_toArray, List.set_cons_succ, List.set_cons_zero])
        | (refine Lo.wpL_move rfl _ (.inr rfl) (by decide) ?_; simp only [Act.put, List.setIfInBounds_toArray, List.set_cons_succ, List.set_cons_zero])
        | (refine Lo.wpL_fop rfl _ _ _ _ rfl rfl (by decide) _ _ _ _ _ rfl rfl (by assumption) (by assumption) ?_; intro rr hrr; simp only [Act.put, List.setIfInBounds_toArray, List.set_cons_succ, List.set_cons_zero])
        | (refine Lo.wpL_wide rfl _ _ _ rfl (by decide) _ _ rfl (by kernel_rfl) (by kernel_rfl) (by assumption) ?_; intro rr hrr; simp only [Act.put, List.setIfInBounds_toArray, List.set_cons_succ, List.set_cons_zero])
        | (refine Lo.wpL_quiet rfl (by decide) (fun K hK => ?_); go_big_quiet_op; (refine hK _ ?_; clear hK K)))
      refine Lo.wpL_nil ?_
      refine Lo.after_fl rfl (by assumption) ?_; intro q15 h15; simp only [Act.put, List.setIfInBounds_toArray, List.set_cons_succ, List.set_cons_zero]
      refine Lo.after_nil ?_; intro nq
      go_wp2
      go_roundw
      case rel =>
        refine ⟨k + 1, fun j => if j = k then q15 else r j, by omega, by go_num, ?_, ?_, ?_, fun j hj => ?_, ?_⟩
        · refine (GF.set (w := wr.drewN nq) K0.out k _).congr fun j hj => ?_
          unfold step8
          by_cases e : j = k
          · rw [if_pos e]; simp [e]
          · rw [if_neg e]
            by_cases e2 : j < k
            · simp [e, e2, show j < k + 1 by omega]
            · simp [e, e2, show ¬ j < k + 1 by omega]
        · exact (GF.of (w := wr) K1.out (Go.Deep.blk_setCell_other _ _ _ _ (by show w.heap.size + 1 ≠ w.heap.size; omega)))
        · exact (GF.of (w := wr) K2.out (Go.Deep.blk_setCell_other _ _ _ _ (by show w.heap.size + 1 + 1 ≠ w.heap.size; omega)))
        · show Hid (Fv .f32 (if j = k then q15 else r j) _)
          by_cases e : j = k
          · subst e; rw [if_pos rfl]; exact h15
          · rw [if_neg e]; exact HR.out j (by omega)
        · exact (since_drewN HS.out nq).setCell (Nat.le_refl _) _
      case measure => simp [intOf]; omega
    · obtain rfl : k = 8 := by omega
      have c0 : ∀ j, j < 8 → wr.cell? ⟨w.heap.size, j, none⟩ = some (.float .f32 (r j)) := fun j hj => by
        have := K0.out.cell hj
        simpa [step8, hj] using this
      have d0 : ∀ j, j < 8 → wr.cell? ⟨w.heap.size + 1 + 1, j, none⟩ = some (.float .f32 0) := fun j hj => K2.out.cell hj
      have e0 := c0 0 (by decide); have e1 := c0 1 (by decide); have e2 := c0 2 (by decide); have e3 := c0 3 (by decide); have e4 := c0 4 (by decide); have e5 := c0 5 (by decide); have e6 := c0 6 (by decide); have e7 := c0 7 (by decide)
      have g0 := d0 0 (by decide); have g1 := d0 1 (by decide); have g2 := d0 2 (by decide); have g3 := d0 3 (by decide); have g4 := d0 4 (by decide); have g5 := d0 5 (by decide); have g6 := d0 6 (by decide); have g7 := d0 7 (by decide)
      have z0 := K2.out.free 0; have z1 := K2.out.free 1; have z2 := K2.out.free 2; have z3 := K2.out.free 3; have z4 := K2.out.free 4; have z5 := K2.out.free 5; have z6 := K2.out.free 6; have z7 := K2.out.free 7
      have hlt := K2.out.lt
      clear c0 d0
      rw [show ((8 : Nat) : Int) = 8 from rfl]
      go_wp2
      exact bodyPost_ret (v := .agg (ag8 r)) (by simp [results, Try.results72, go_sem, ag8, g0, g1, g2, g3, g4, g5, g6, g7, z0, z1, z2, z3, z4, z5, z6, z7]) rfl ⟨r, rfl, HR.out, by have hs0 := HS.out; have hz0 := hs0.size; (repeat (first | (with_reducible refine Fl.sinDrew ?_) | (with_reducible refine World.Since.drew ?_) | (with_reducible refine Fl.sinSet ?_ ?_; rotate_left) | (with_reducible refine Fl.sinAlloc ?_ ?_; rotate_left) | with_reducible exact World.Since.refl _ _ | with_reducible assumption | (with_reducible refine Fl.sinStep (by with_reducible assumption) ?_))); all_goals (first | omega | (simp; done) | (simp; omega) | (simp [go_sem]; done) | (simp [go_sem]; omega))⟩
theorem arrayAt8 (g o c : Nat) (W : World) : (Instr.arrayAt 90 (.slice (some ⟨g, o, none⟩) 8 c)).run Try.prog W = .ok (.pointer (some ⟨g, o, none⟩)) W := by
  have h : Try.prog.arrayLen 90 = 8 := by kernel_rfl
  simp [Instr.arrayAt, go_sem, h]
theorem ag8_len (f : Nat → Nat) : (ag8 f).toList.length = 8 := rfl
theorem ag8_eq (f g : Nat → Nat) (h : ∀ j, j < 8 → f j = g j) : ag8 f = ag8 g := by
  unfold ag8
  rw [h 0 (by decide), h 1 (by decide), h 2 (by decide), h 3 (by decide), h 4 (by decide), h 5 (by decide), h 6 (by decide), h 7 (by decide)]
set_option maxHeartbeats 4000000 in
set_option maxRecDepth 100000 in
theorem eightFrom_any (A : Option Addr) (n c i : Nat) (xs : List Nat) (w : World) (h : Fs w w.heap.size A n xs) (hnc : n ≤ c) (hin : i < n) (hn : n ≤ 256) :
    Calls Try.prog 73 #[.slice A n c, .int .i64 (i : Int)] w fun e w' => e = .returned (.agg (ag8 fun j => wd xs (i + j))) ∧ w.Since w.heap.size w' := by
  have H := Lib.hid h
  obtain ⟨g, off, rfl, hg, hc⟩ := h.2.2 (by omega)
  clear h
  have hic : ¬ c = i := by omega
  have hI : ((n : Int) - (i : Int)) = ((n - i : Nat) : Int) := by omega
  by_cases h8 : 8 ≤ n - i
  · have cs : ∀ j, j < 8 → w.cell? ⟨g, off + i + j, none⟩ = some (.float .f32 (wd xs (i + j))) := fun j hj => by
      have := hc (i + j) (by omega)
      rwa [← Nat.add_assoc] at this
    have e0 := cs 0 (by decide); have e1 := cs 1 (by decide); have e2 := cs 2 (by decide); have e3 := cs 3 (by decide); have e4 := cs 4 (by decide); have e5 := cs 5 (by decide); have e6 := cs 6 (by decide); have e7 := cs 7 (by decide)
    simp only [Nat.add_zero] at e0
    have hsa := arrayAt8 g (off + i) (c - i)
    have hg2 : g < w.heap.size := hg
    have G2 : Hid (GF (w.alloc (.cells (ag8 fun _ => 0) 90)) w.heap.size 90 8 (wv fun _ => 0)) := Lib.hid (ag8_gf w fun _ => 0)
    clear cs hc
    go_enter Try.func73, Try.ntmps73
    go_wp2
    exact bodyPost_ret (v := .agg (ag8 fun j => wd xs (i + j))) (by simp [results, Try.results73, go_sem, ag8]) rfl ⟨rfl, by (repeat (first | (with_reducible refine Fl.sinDrew ?_) | (with_reducible refine World.Since.drew ?_) | (with_reducible refine Fl.sinSet ?_ ?_; rotate_left) | (with_reducible refine Fl.sinAlloc ?_ ?_; rotate_left) | with_reducible exact World.Since.refl _ _ | with_reducible assumption | (with_reducible refine Fl.sinStep (by with_reducible assumption) ?_))); all_goals (first | omega | (simp; done) | (simp; omega) | (simp [go_sem]; done) | (simp [go_sem]; omega))⟩
  · obtain ⟨m, hm⟩ : ∃ m, m = n - i := ⟨_, rfl⟩
    have hm8 : m < 8 := by omega
    have hm0 : 0 < m := by omega
    rw [← hm] at hI
    have h8' : decide ((8 : Int) ≤ (m : Int)) = false := decide_eq_false (by omega)
    obtain ⟨cs, hcs⟩ : ∃ cs, cs = (List.range m).map fun j => Value.float .f32 (wd xs (i + j)) := ⟨_, rfl⟩
    have HL : Hid (cs.length = m) := Lib.hid (by rw [hcs]; simp)
    have HE := Lib.hid hcs
    have HC := Lib.hid hc
    have HM := Lib.hid hm
    have HI := Lib.hid hI
    clear hcs hc hm
    go_enter Try.func73, Try.ntmps73
    go_wp2
    generalize hW : World.alloc _ _ = W
    have HS : Hid (w.Since w.heap.size W) := Lib.hid (by rw [← hW]; exact ((World.Since.refl _ _).alloc (Nat.le_refl _) _).alloc (by simp) _)
    have G3 : Hid (GF W w.heap.size 90 8 (wv fun _ => 0)) := Lib.hid (by rw [← hW]; exact (ag8_gf w fun _ => 0).since ((World.Since.refl _ _).alloc (Nat.le_refl _) _))
    have G4 : Hid (W.heap[w.heap.size + 1]? = some (.cells (ag8 fun _ => 0).toList.toArray 90 (0, 0))) := Lib.hid (by rw [← hW]; have := Go.Deep.blk_alloc_new (w.alloc (.cells (ag8 fun _ => 0) 90)) (.cells (ag8 fun _ => 0) 90); simpa [ag8] using this)
    have hzW : w.heap.size + 1 < W.heap.size := by rw [← hW]; simp
    clear hW
    have hin2 : (i : Int) ≤ (n : Int) := by omega
    refine Lo.wp_loose_tail [] 4 (by kernel_rfl) (by kernel_rfl) ?_
    simp only [List.take_succ_cons, List.take_zero, List.drop_succ_cons, List.drop_zero]
    repeat (first
      | (refine Lo.wpL_move rfl _ (.inl rfl) (by decide) ?_; simp only [Act.put, List.setIfInBounds_toArray, List.set_cons_succ, List.set_cons_zero])
      | (refine Lo.wpL_move rfl _ (.inr rfl) (by decide) ?_; simp only [Act.put, List.setIfInBounds_toArray, List.set_cons_succ, List.set_cons_zero])
      | (refine Lo.wpL_fop rfl _ _ _ _ rfl rfl (by decide) _ _ _ _ _ rfl rfl (by assumption) (by assumption) ?_; intro rr hrr; simp only [Act.put, List.setIfInBounds_toArray, List.set_cons_succ, List.set_cons_zero])
      | (refine Lo.wpL_wide rfl _ _ _ rfl (by decide) _ _ rfl (by kernel_rfl) (by kernel_rfl) (by assumption) ?_; intro rr hrr; simp only [Act.put, List.setIfInBounds_toArray, List.set_cons_succ, List.set_cons_zero])
      | (refine Lo.wpL_quiet rfl (by decide) (fun K hK => ?_); go_big_quiet_op; (refine hK _ ?_; clear hK K)))
    refine Lo.wpL_nil ?_
    refine Lo.after_nil ?_; intro nq
    with_reducible refine wpList_copy_splice (o := ⟨some 22, _, _, _, _, _⟩) rfl (.tmp 18) (.tmp 21) _ _ rfl 22 Try.underlying25 (by kernel_rfl) _ _ _ _ _ _ rfl rfl (w.heap.size + 1) 0 (ag8 fun _ => 0).toList 90 (heap_drewN G4.out _) cs (by rw [HL.out, HM.out]; exact (Nat.min_eq_left (by have := HM.out; omega)).symm) (fun _ => ⟨rfl, _, rfl, ?src⟩) (by rw [HL.out, ag8_len]; omega) (by rw [HE.out]; exact floats_one) (w.heap.size + 1) W (below_drewN (Below.refl _ _) _) (Nat.le_refl _) ?_
    case src =>
      intro j v hj
      have hjm : j < m := by
        have := (List.getElem?_eq_some_iff.1 hj).1
        rwa [HL.out] at this
      rw [HE.out] at hj
      simp [hjm] at hj
      subst hj
      have e : (({ block := g, off := off + i } : Addr).add j) = ⟨g, off + (i + j), none⟩ := by simp [Addr.add, Nat.add_assoc]
      rw [e]
      exact (HS.out.cell (a := ⟨g, off + (i + j), none⟩) hg).trans (HC.out (i + j) (by have := HM.out; omega))
    intro w2 hb2 hw2
    have HW2 := Lib.hid hw2
    have G5 : Hid (GF w2 (w.heap.size + 1) 90 8 (wv fun j => wd xs (i + j))) := Lib.hid ⟨_, hb2.out, fun j hj => by
      unfold splice
      rw [List.take_zero, List.nil_append, List.getElem?_toArray]
      by_cases hjm : j < m
      · rw [List.getElem?_append_left (by rw [HL.out]; exact hjm), HE.out]
        simp [hjm, wv]
      · rw [List.getElem?_append_right (by rw [HL.out]; omega), HL.out, List.getElem?_drop]
        have e : m + (j - m) = j := by omega
        rw [Nat.zero_add, e]
        have h9 := ag8_at (fun _ => 0) j hj
        rw [Array.getElem?_toList, h9]
        unfold wv wd
        have : (xs.getD (i + j) 0) = 0 := by
          rw [List.getD_eq_getElem?_getD, List.getElem?_eq_none (by rw [H.out.1]; have := HM.out; omega)]; rfl
        exact congrArg (fun z => some (Value.float .f32 z)) this.symm⟩
    have G6 : Hid (GF w2 w.heap.size 90 8 (wv fun _ => 0)) := Lib.hid (G3.out.of (HW2.out.block _ (by omega)))
    have c0 : ∀ j, j < 8 → w2.cell? ⟨w.heap.size + 1, j, none⟩ = some (.float .f32 (wd xs (i + j))) := fun j hj => G5.out.cell hj
    have d0 : ∀ j, j < 8 → w2.cell? ⟨w.heap.size, j, none⟩ = some (.float .f32 0) := fun j hj => G6.out.cell hj
    have e0 := c0 0 (by decide); have e1 := c0 1 (by decide); have e2 := c0 2 (by decide); have e3 := c0 3 (by decide); have e4 := c0 4 (by decide); have e5 := c0 5 (by decide); have e6 := c0 6 (by decide); have e7 := c0 7 (by decide)
    have g0 := d0 0 (by decide); have g1 := d0 1 (by decide); have g2 := d0 2 (by decide); have g3 := d0 3 (by decide); have g4 := d0 4 (by decide); have g5 := d0 5 (by decide); have g6 := d0 6 (by decide); have g7 := d0 7 (by decide)
    have z0 := G6.out.free 0; have z1 := G6.out.free 1; have z2 := G6.out.free 2; have z3 := G6.out.free 3; have z4 := G6.out.free 4; have z5 := G6.out.free 5; have z6 := G6.out.free 6; have z7 := G6.out.free 7
    have HS2 : Hid (w.Since w.heap.size w2) := Lib.hid (HS.out.trans (since_mono (since_below HW2.out) (by omega)))
    have hz2 := HS2.out.size
    clear c0 d0 hb2 hw2
    go_wp2
    exact bodyPost_ret (v := .agg (ag8 fun j => wd xs (i + j))) (by simp [results, Try.results73, go_sem, ag8, g0, g1, g2, g3, g4, g5, g6, g7, z0, z1, z2, z3, z4, z5, z6, z7]) rfl ⟨rfl, by have hs0 := HS2.out; (repeat (first | (with_reducible refine Fl.sinDrew ?_) | (with_reducible refine World.Since.drew ?_) | (with_reducible refine Fl.sinSet ?_ ?_; rotate_left) | (with_reducible refine Fl.sinAlloc ?_ ?_; rotate_left) | with_reducible exact World.Since.refl _ _ | with_reducible assumption | (with_reducible refine Fl.sinStep (by with_reducible assumption) ?_))); all_goals (first | omega | (simp; done) | (simp; omega) | (simp [go_sem]; done) | (simp [go_sem]; omega))⟩
end Go.Proofs.Yteggicdhgcecpaa
