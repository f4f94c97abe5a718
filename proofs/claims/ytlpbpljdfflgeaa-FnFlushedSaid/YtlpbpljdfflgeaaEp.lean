/- Dynamics: levels, the program's. -/
import Derived.Test.YtlpbpljdfflgeaaEo
import Derived.Test.YtlpbpljdfflgeaaEf
set_option linter.unusedVariables false
set_option linter.unusedSimpArgs false
namespace Go.Proofs.Ytlpbpljdfflgeaa
open Fl Go.RowKit
set_option maxHeartbeats 4000000 in
set_option maxRecDepth 100000 in
theorem implFollowL_ok (d : FolN) (D : Fol) (A : Option Addr) (n c : Nat) (xs : List Nat) (w : World) (hD : FvFol d D) (hA : Fs w w.heap.size A n xs) (hn : n ≤ 256) :
    Calls Try.prog 57 #[d.val, .slice A n c] w (PLFB n (fun k => levO D (fun k => ab .f32 (wd xs k)) (k + 1)) ⟨D.a, D.r, levO D (fun k => ab .f32 (wd xs k)) n⟩ true w) := by
  obtain ⟨a, r, l⟩ := d
  obtain ⟨ha, hr, hl⟩ := hD
  simp only at ha hr hl
  have hfew : decide ((n : Int) ≤ 256) = true := decide_eq_true (by omega)
  have HA := Lib.hid hA
  clear hA
  simp only [FolN.val]
  go_enter Try.func57, Try.ntmps57
  go_wp2_with (first | (go_at_call 89; refine (implSamples_b _ _ _ _ _ hfew).mono ?_; rintro e w' ⟨rfl, rfl⟩) | fail)
  obtain ⟨W1, hW1⟩ : ∃ W, W = w.alloc (.cells #[.float .f32 a, .float .f32 r, .float .f32 l] 65) := ⟨_, rfl⟩
  obtain ⟨W2, hW2⟩ : ∃ W, W = W1.alloc (.cells #[.float .f32 0, .float .f32 0, .float .f32 0] 65) := ⟨_, rfl⟩
  have z1 : W1.heap.size = w.heap.size + 1 := by rw [hW1]; simp
  have z2 : Hid (W2.heap.size = w.heap.size + 1 + 1) := Lib.hid (by rw [hW2]; simp [z1])
  have f1 : FolB W1 w.heap.size a r l := by rw [hW1]; exact Go.Deep.blk_alloc_new _ _
  have f2 : FolB W2 (w.heap.size + 1) 0 0 0 := by rw [hW2, ← z1]; exact Go.Deep.blk_alloc_new _ _
  have f3 : FolB W2 w.heap.size a r l := f1.of (by rw [hW2]; exact blk_keep _ (by omega))
  have s2 : w.Since w.heap.size W2 := by rw [hW2, hW1]; exact ((World.Since.refl _ _).alloc (Nat.le_refl _) _).alloc (by simp) _
  rw [← hW1, ← hW2]
  clear hW1 hW2 z1 f1
  have F2 := Lib.hid f2; have F3 := Lib.hid f3; have S2 := Lib.hid s2; clear f2 f3 s2
  have hz2 := z2.out
  refine (results_at A n c xs 140 #[.pointer (some ⟨w.heap.size, 0, none⟩)] w.heap.size (fun k W => ∃ q, FolB W w.heap.size a r q ∧ FolB W (w.heap.size + 1) 0 0 0 ∧ Hid (Fv .f32 q (levO D (fun k => ab .f32 (wd xs k)) k))) (fun k => levO D (fun k => ab .f32 (wd xs k)) (k + 1)) W2 (HA.out.since S2.out) (by omega) hn (fun _ _ => rfl) ?hI ?hst ⟨l, F3.out, F2.out, hl⟩).mono ?_
  case hI =>
    rintro k W W' ⟨q, h1, h2, h3⟩ h4 h5 h6
    exact ⟨q, h1.of (h6 _ (by omega)), h2.of (h6 _ (by omega)), h3⟩
  case hst =>
    rintro k q W hk rfl ⟨q0, h1, h2, h3⟩ hs
    refine (implFollow_any w.heap.size a r q0 (wd xs k) D.a D.r _ _ W h1.at_ h1.free ha hr h3 (Lib.hid ⟨HA.out.2.1.at_ k, rfl⟩)).mono ?_
    rintro e W' ⟨q1, rfl, hq1, m, rfl⟩
    exact ⟨q1, rfl, hq1, ⟨q1, h1.set, h2.of (Go.Deep.blk_setCell_other _ _ _ _ (show w.heap.size + 1 ≠ w.heap.size by omega)), hq1⟩, ((On.refl _ _).set _ _).drewN _⟩
  rintro e w5 ⟨ys, rfl, hg, hare, ⟨q, h1, h2, h3⟩, ho⟩
  rw [hz2] at hg
  rw [hz2]
  have HG := Lib.hid hg; have HAA := Lib.hid hare; have HO := Lib.hid ho; have HF := Lib.hid h1; have HF2 := Lib.hid h2
  clear hg hare ho h1 h2 hz2
  have c1 := HF.out.at_.a
  have c2 := HF.out.at_.r
  have c3 := HF.out.at_.l
  have d1 := HF2.out.at_.a
  have d2 := HF2.out.at_.r
  have d3 := HF2.out.at_.l
  have e0 := fun o => HF2.out.free (o := o)
  go_wp2_with fail
  go_region
  all_goals
    have G9 : FolB _ (w.heap.size + 1) a r q := HF2.out.set3 (a := a) (r := r) (l := q)
    have S9 := (((S2.out.trans (HO.out.since (Nat.le_refl _))).setCell (a := ⟨w.heap.size + 1, 0, none⟩) (by simp) (.float .f32 a)).setCell (a := ⟨w.heap.size + 1, 1, none⟩) (by simp) (.float .f32 r)).setCell (a := ⟨w.heap.size + 1, 2, none⟩) (by simp) (.float .f32 q)
    have O9 : Gs 30 _ (w.heap.size + 1 + 1) _ n ys := HG.out.onLow (((On.refl (w.heap.size + 1) w5).set 0 (.float .f32 a)).set 1 (.float .f32 r) |>.set 2 (.float .f32 q)) (by omega)
    generalize World.setCell _ _ _ = W9 at *
    have g1 := G9.at_.a
    have g2 := G9.at_.r
    have g3 := G9.at_.l
    have S10 := Lib.hid S9; have O10 := Lib.hid O9; clear S9 O9 d1 d2 d3 c1 c2 c3 e0 G9
    go_wp2
    exact bodyPost_ret (v := .tuple #[.slice (some ⟨w.heap.size + 1 + 1, 0, none⟩) n n, .agg #[.float .f32 a, .float .f32 r, .float .f32 q], .bool true]) (by simp [results, Try.results57, go_sem, g1, g2, g3]) rfl
      ⟨⟨some ⟨w.heap.size + 1 + 1, 0, none⟩, n, ys⟩, n, ⟨a, r, q⟩, rfl, rfl, O10.out.less (by omega), HAA.out, ⟨ha, hr, h3⟩, (by exact since_drewN S10.out 1)⟩
end Go.Proofs.Ytlpbpljdfflgeaa
