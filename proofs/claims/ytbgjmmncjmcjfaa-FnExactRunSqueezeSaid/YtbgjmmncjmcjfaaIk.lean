/- Squeezes of a law. -/
import Derived.Test.YtbgjmmncjmcjfaaIj
set_option linter.unusedVariables false
set_option linter.unusedSimpArgs false
namespace Go.Proofs.Ytbgjmmncjmcjfaa
open Fl Go.RowKit
theorem SquB.setA {w : World} {g a r l x0 x1 x2 x3 x4 : Nat} (h : SquB w g x0 x1 x2 x3 x4) : SquB (((w.setCell ⟨g, 0, none⟩ (.float .f32 a)).setCell ⟨g, 1, none⟩ (.float .f32 r)).setCell ⟨g, 2, none⟩ (.float .f32 l)) g a r l x3 x4 := by
  unfold SquB at h ⊢
  simp [World.setCell, Array.getElem?_modify, h]
theorem SquB.setT {w : World} {g t x0 x1 x2 x3 x4 : Nat} (h : SquB w g x0 x1 x2 x3 x4) : SquB (w.setCell ⟨g, 3, none⟩ (.float .f32 t)) g x0 x1 x2 t x4 := by
  unfold SquB at h ⊢
  simp [World.setCell, Array.getElem?_modify, h]
theorem SquB.setQ {w : World} {g q x0 x1 x2 x3 x4 : Nat} (h : SquB w g x0 x1 x2 x3 x4) : SquB (w.setCell ⟨g, 4, none⟩ (.float .f32 q)) g x0 x1 x2 x3 q := by
  unfold SquB at h ⊢
  simp [World.setCell, Array.getElem?_modify, h]
set_option maxRecDepth 100000 in
set_option maxHeartbeats 1000000 in
theorem toSqueeze_any (d : SquN) (w : World) :
    Calls Try.prog 48 #[d.val] w fun e w' => e = .returned d.val ∧ w.Since w.heap.size w' := by
  obtain ⟨a, r, l, t, q⟩ := d
  have HTO := Lib.hid (toFollower_any ⟨a, r, l⟩)
  simp only [FolN.val] at HTO
  simp only [SquN.val]
  go_enter Try.func48, Try.ntmps48
  go_wp2_with fail
  obtain ⟨V1, hV1⟩ : ∃ V, V = w.alloc (.cells #[.float .f32 a, .float .f32 r, .float .f32 l, .float .f32 t, .float .f32 q] 66) := ⟨_, rfl⟩
  obtain ⟨V2, hV2⟩ : ∃ V, V = V1.alloc (.cells #[.float .f32 0, .float .f32 0, .float .f32 0, .float .f32 0, .float .f32 0] 69) := ⟨_, rfl⟩
  obtain ⟨V3, hV3⟩ : ∃ V, V = V2.alloc (.cells #[.float .f32 0, .float .f32 0, .float .f32 0, .float .f32 0, .float .f32 0] 69) := ⟨_, rfl⟩
  have z1 : V1.heap.size = w.heap.size + 1 := by rw [hV1]; simp
  have z2 : V2.heap.size = w.heap.size + 1 + 1 := by rw [hV2]; simp [z1]
  have z3 : V3.heap.size = w.heap.size + 1 + 1 + 1 := by rw [hV3]; simp [z2]
  have s3 : w.Since w.heap.size V3 := by rw [hV3, hV2, hV1]; exact (((World.Since.refl _ _).alloc (Nat.le_refl _) _).alloc (by simp) _).alloc (by simp; omega) _
  have pb : V3.heap[w.heap.size]? = some (.cells #[.float .f32 a, .float .f32 r, .float .f32 l, .float .f32 t, .float .f32 q] 66 (0, 0)) := by
    have h0 : V1.heap[w.heap.size]? = some (.cells #[.float .f32 a, .float .f32 r, .float .f32 l, .float .f32 t, .float .f32 q] 66 (0, 0)) := by rw [hV1]; exact Go.Deep.blk_alloc_new _ _
    exact (by rw [hV3, blk_keep _ (by omega), hV2, blk_keep _ (by omega)] : V3.heap[w.heap.size]? = V1.heap[w.heap.size]?).trans h0
  have f2 : SquB V3 (w.heap.size + 1) 0 0 0 0 0 := (show SquB V2 (w.heap.size + 1) 0 0 0 0 0 by rw [hV2, ← z1]; exact SquB.new _ _ _ _ _ _).of (by rw [hV3]; exact blk_keep _ (by omega))
  have f3 : SquB V3 (w.heap.size + 1 + 1) 0 0 0 0 0 := by rw [hV3, ← z2]; exact SquB.new _ _ _ _ _ _
  rw [← hV1, ← hV2, ← hV3]
  clear hV1 hV2 hV3
  refine (HTO.out V3).mono ?_
  rintro e v ⟨rfl, hs⟩
  have HS := Lib.hid (since_step s3 hs)
  have PB := Lib.hid ((hs.block _ (by omega)).trans pb)
  have F2 := Lib.hid (f2.of (hs.block _ (by omega)))
  have F3 := Lib.hid (f3.of (hs.block _ (by omega)))
  clear pb f2 f3 hs z1 z2 z3 s3 HTO
  rename_i K1 a1 K2 a2
  have A1 := Lib.hid a1
  clear a1
  refine a2 _ _ ?_
  clear a2
  have d1 := F3.out.at_.f.a
  have d2 := F3.out.at_.f.r
  have d3 := F3.out.at_.f.l
  have e0 := fun o => F3.out.free (o := o)
  go_wp2_with fail
  have n1 : w.heap.size ≠ w.heap.size + 1 + 1 := by omega
  have n2 : w.heap.size + 1 ≠ w.heap.size + 1 + 1 := by omega
  have G3 : SquB _ (w.heap.size + 1 + 1) a r l 0 0 := F3.out.setA (a := a) (r := r) (l := l)
  have G2 : SquB (((v.setCell ⟨w.heap.size + 1 + 1, 0, none⟩ (.float .f32 a)).setCell ⟨w.heap.size + 1 + 1, 1, none⟩ (.float .f32 r)).setCell ⟨w.heap.size + 1 + 1, 2, none⟩ (.float .f32 l)) (w.heap.size + 1) 0 0 0 0 0 := ((F2.out.of (Go.Deep.blk_setCell_other _ _ _ _ n2)).of (Go.Deep.blk_setCell_other _ _ _ _ n2)).of (Go.Deep.blk_setCell_other _ _ _ _ n2)
  have GP : (((v.setCell ⟨w.heap.size + 1 + 1, 0, none⟩ (.float .f32 a)).setCell ⟨w.heap.size + 1 + 1, 1, none⟩ (.float .f32 r)).setCell ⟨w.heap.size + 1 + 1, 2, none⟩ (.float .f32 l)).heap[w.heap.size]? = _ := ((Go.Deep.blk_setCell_other _ _ _ _ n1).trans ((Go.Deep.blk_setCell_other _ _ _ _ n1).trans (Go.Deep.blk_setCell_other _ _ _ _ n1))).trans PB.out
  have GS := ((HS.out.setCell (a := ⟨w.heap.size + 1 + 1, 0, none⟩) (by simp; omega) (.float .f32 a)).setCell (a := ⟨w.heap.size + 1 + 1, 1, none⟩) (by simp; omega) (.float .f32 r)).setCell (a := ⟨w.heap.size + 1 + 1, 2, none⟩) (by simp; omega) (.float .f32 l)
  clear d1 d2 d3 e0 F3 F2 PB HS
  generalize World.setCell _ _ _ = v1 at *
  have F3 := Lib.hid G3; have F2 := Lib.hid G2; have PB := Lib.hid GP; have HS := Lib.hid GS
  clear G3 G2 GP GS
  refine A1.out _ _ ?_
  clear A1
  refine wp_seq_k (fun K3 a3 => ?_)
  have A3 := Lib.hid a3
  clear a3
  have d1 := F3.out.at_.t
  have e0 := F3.out.free (o := 3)
  have p1 : v1.cell? ⟨w.heap.size, 3, none⟩ = some (.float .f32 t) := by simp [World.cell?, PB.out]
  go_wp2_with fail
  have G3 : SquB _ (w.heap.size + 1 + 1) a r l t 0 := F3.out.setT (t := t)
  have G2 : SquB (v1.setCell ⟨w.heap.size + 1 + 1, 3, none⟩ (.float .f32 t)) (w.heap.size + 1) 0 0 0 0 0 := F2.out.of (Go.Deep.blk_setCell_other _ _ _ _ n2)
  have GP : (v1.setCell ⟨w.heap.size + 1 + 1, 3, none⟩ (.float .f32 t)).heap[w.heap.size]? = _ := (Go.Deep.blk_setCell_other _ _ _ _ n1).trans PB.out
  have GS := HS.out.setCell (a := ⟨w.heap.size + 1 + 1, 3, none⟩) (by simp; omega) (.float .f32 t)
  clear d1 e0 p1 F3 F2 PB HS
  generalize World.setCell _ _ _ = v2 at *
  have F3 := Lib.hid G3; have F2 := Lib.hid G2; have PB := Lib.hid GP; have HS := Lib.hid GS
  clear G3 G2 GP GS
  refine A3.out _ _ ?_
  clear A3
  refine wp_seq_k (fun K4 a4 => ?_)
  have A4 := Lib.hid a4
  clear a4
  have d1 := F3.out.at_.q
  have e0 := F3.out.free (o := 4)
  have p1 : v2.cell? ⟨w.heap.size, 4, none⟩ = some (.float .f32 q) := by simp [World.cell?, PB.out]
  go_wp2_with fail
  have G3 : SquB _ (w.heap.size + 1 + 1) a r l t q := F3.out.setQ (q := q)
  have G2 : SquB (v2.setCell ⟨w.heap.size + 1 + 1, 4, none⟩ (.float .f32 q)) (w.heap.size + 1) 0 0 0 0 0 := F2.out.of (Go.Deep.blk_setCell_other _ _ _ _ n2)
  have GS := HS.out.setCell (a := ⟨w.heap.size + 1 + 1, 4, none⟩) (by simp; omega) (.float .f32 q)
  clear d1 e0 p1 F3 F2 PB HS
  generalize World.setCell _ _ _ = v3 at *
  have F3 := Lib.hid G3; have F2 := Lib.hid G2; have HS := Lib.hid GS
  clear G3 G2 GS
  refine A4.out _ _ ?_
  clear A4
  refine wp_seq_k (fun K5 a5 => ?_)
  have A5 := Lib.hid a5
  clear a5
  have c1 := F3.out.at_.f.a
  have c2 := F3.out.at_.f.r
  have c3 := F3.out.at_.f.l
  have c4 := F3.out.at_.t
  have c5 := F3.out.at_.q
  have d1 := F2.out.at_.f.a
  have d2 := F2.out.at_.f.r
  have d3 := F2.out.at_.f.l
  have d4 := F2.out.at_.t
  have d5 := F2.out.at_.q
  have e0 := fun o => F2.out.free (o := o)
  go_wp2_with fail
  have G9 : SquB _ (w.heap.size + 1) a r l t q := F2.out.set5 (a := a) (r := r) (l := l) (t := t) (q := q)
  have S9 := ((((HS.out.setCell (a := ⟨w.heap.size + 1, 0, none⟩) (by simp) (.float .f32 a)).setCell (a := ⟨w.heap.size + 1, 1, none⟩) (by simp) (.float .f32 r)).setCell (a := ⟨w.heap.size + 1, 2, none⟩) (by simp) (.float .f32 l)).setCell (a := ⟨w.heap.size + 1, 3, none⟩) (by simp) (.float .f32 t)).setCell (a := ⟨w.heap.size + 1, 4, none⟩) (by simp) (.float .f32 q)
  clear d1 d2 d3 d4 d5 c1 c2 c3 c4 c5 e0 F2 F3 HS
  generalize World.setCell _ _ _ = W9 at *
  have g1 := G9.at_.f.a
  have g2 := G9.at_.f.r
  have g3 := G9.at_.f.l
  have g4 := G9.at_.t
  have g5 := G9.at_.q
  refine A5.out _ _ ?_
  go_wp2
  exact bodyPost_ret (v := .agg #[.float .f32 a, .float .f32 r, .float .f32 l, .float .f32 t, .float .f32 q]) (by simp [results, Try.results48, go_sem, g1, g2, g3, g4, g5]) rfl ⟨rfl, S9⟩
set_option maxRecDepth 100000 in
set_option maxHeartbeats 4000000 in
theorem eqSqueeze_any (f g : SquN) (F : Squ) (w : World) (hf : FvSqu f F) (hg : FvSqu g F) :
    Calls Try.prog 52 #[f.val, g.val] w fun e w' => e = .returned (.bool true) ∧ w.Since w.heap.size w' := by
  obtain ⟨b0, b1, b2, b3, b4⟩ := f
  obtain ⟨c0, c1, c2, c3, c4⟩ := g
  obtain ⟨m0, m1, m2, m3, m4⟩ := hf
  obtain ⟨n0, n1, n2, n3, n4⟩ := hg
  simp only at m0 m1 m2 m3 m4 n0 n1 n2 n3 n4
  have HEQ := Lib.hid (fun W => eqFollower_any ⟨b0, b1, b2⟩ ⟨c0, c1, c2⟩ ⟨F.a, F.r, F.l⟩ W ⟨m0, m1, m2⟩ ⟨n0, n1, n2⟩)
  simp only [FolN.val] at HEQ
  simp only [SquN.val]
  go_enter Try.func52, Try.ntmps52
  go_wp2_with fail
  obtain ⟨V1, hV1⟩ : ∃ V, V = w.alloc (.cells #[.float .f32 b0, .float .f32 b1, .float .f32 b2, .float .f32 b3, .float .f32 b4] 69) := ⟨_, rfl⟩
  obtain ⟨V2, hV2⟩ : ∃ V, V = V1.alloc (.cells #[.float .f32 c0, .float .f32 c1, .float .f32 c2, .float .f32 c3, .float .f32 c4] 69) := ⟨_, rfl⟩
  have z1 : V1.heap.size = w.heap.size + 1 := by rw [hV1]; simp
  have z2 : V2.heap.size = w.heap.size + 1 + 1 := by rw [hV2]; simp [z1]
  have s3 : w.Since w.heap.size V2 := by rw [hV2, hV1]; exact ((World.Since.refl _ _).alloc (Nat.le_refl _) _).alloc (by simp) _
  have f1 : SquB V2 w.heap.size b0 b1 b2 b3 b4 := (show SquB V1 w.heap.size b0 b1 b2 b3 b4 by rw [hV1]; exact SquB.new _ _ _ _ _ _).of (by rw [hV2]; exact blk_keep _ (by omega))
  have f2 : SquB V2 (w.heap.size + 1) c0 c1 c2 c3 c4 := by rw [hV2, ← z1]; exact SquB.new _ _ _ _ _ _
  rw [← hV1, ← hV2]
  clear hV1 hV2
  refine (HEQ.out V2).mono ?_
  rintro e v ⟨rfl, hs⟩
  have HS := Lib.hid (since_step s3 hs)
  have F1 := Lib.hid (f1.of (hs.block _ (by omega)))
  have F2 := Lib.hid (f2.of (hs.block _ (by omega)))
  clear f1 f2 hs z1 z2 s3
  have q1 := F1.out.at_.t
  have q2 := F1.out.at_.q
  have q3 := F2.out.at_.t
  have q4 := F2.out.at_.q
  go_wp2_with (first | (with_reducible_and_instances refine Lo.wpList_wi _ rfl _ _ _ rfl _ _ rfl (by kernel_rfl) (by kernel_rfl) (by assumption) ?_; intro rr nn hrr) | (go_at_call 89; refine (sameFloat_any _ _ _ _ (by assumption : Hid _) (by assumption : Hid _)).mono ?_; rintro e w' ⟨rfl, n1, rfl⟩))
  go_ret
  exact ⟨rfl, since_drewN HS.out _⟩
theorem implRunSq_ok (d : SquN) (D : Squ) (A : Option Addr) (n c : Nat) (xs : List Nat) (w : World) (hD : FvSqu d D) (hA : Fs w w.heap.size A n xs) (hn : n ≤ 256) :
    Calls Try.prog 50 #[d.val, .slice A n c] w (PLQB n (sqO D (fun k => ab .f32 (wd xs k)) (fun k => ab .f32 (wd xs k))) ⟨D.a, D.r, sqL D (fun k => ab .f32 (wd xs k)) n, D.t, D.q⟩ true w) :=
  implRunSq_of d A n c w _ _ _ _ (fun W s => implDuckSq_ok d D A A n c c xs xs W hD (hA.now s) (hA.now s) hn)
theorem implRunSq_no (d : SquN) (A : Option Addr) (n c : Nat) (w : World) (hs : n ≤ 9223372036854775807) (hn : ¬ n ≤ 256) (f : Nat → O) : Calls Try.prog 50 #[d.val, .slice A n c] w (PLQB 0 f ⟨some 0, some 0, some 0, some 0, some 0⟩ false w) :=
  implRunSq_of d A n c w _ _ _ _ (fun W s => implDuckSq_no d A A n n c c W hs (fun h => hn h.1) f)
end Go.Proofs.Ytbgjmmncjmcjfaa
