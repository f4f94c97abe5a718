/- Filters: impulses, both sides. -/
import Derived.Test.YtebocaicebolaaaGp
import Derived.Test.YtebocaicebolaaaRz
set_option linter.unusedVariables false
set_option linter.unusedSimpArgs false
namespace Go.Proofs.Ytebocaicebolaaa
open Fl Go.RowKit
def impX (k : Nat) : O := if k = 0 then some 1065353216 else some 0
def impL (n : Nat) : List Nat := (List.range n).map fun j => if j = 0 then 1065353216 else 0
theorem impL_wd {n j : Nat} (h : j < n) : wd (impL n) j = if j = 0 then 1065353216 else 0 := by unfold impL wd; simp [h]
theorem imp_are (n : Nat) (A : Option Addr) : Are ⟨A, n, impL n⟩ impX := fun j (hj : j < n) => by
  show ab .f32 (wd (impL n) j) = impX j
  rw [impL_wd hj]
  unfold impX
  by_cases e : j = 0
  · rw [if_pos e, if_pos e, ab32, if_neg (by decide)]
  · rw [if_neg e, if_neg e, ab32, if_neg (by decide)]
theorem imp_gs {w : World} {g n lo : Nat} (hl : lo ≤ g) (h : GCells w g n (fun j => .float .f32 (if j = 0 then 1065353216 else 0))) : Gs 22 w lo (some ⟨g, 0, none⟩) n (impL n) := by
  obtain ⟨cs, hb, hc⟩ := h
  refine ⟨by simp [impL], fun x hx => ?_, fun _ => ⟨g, cs, rfl, hl, hb, fun k hk => ?_⟩⟩
  · unfold impL at hx
    obtain ⟨j, _, rfl⟩ := List.mem_map.1 hx
    split <;> decide
  · rw [hc k hk]; unfold fv; rw [impL_wd hk]
theorem made_cells (w : World) (n : Nat) : GCells (w.alloc (.cells (madeCells #[.float .f32 0] n) 22)) w.heap.size n (fun _ => .float .f32 0) := by
  obtain ⟨cs, hb, _, hc⟩ := World.rowIs_made w (.float .f32 0) n 22
  exact ⟨cs, hb, fun j hj => hc j hj⟩
set_option maxHeartbeats 4000000 in
set_option maxRecDepth 100000 in
theorem impulse_any (n : Nat) (hn : n ≤ 256) (w : World) :
    Calls Try.prog 64 #[.int .i64 (n : Int)] w fun e w' => e = .returned (.slice (some ⟨w.heap.size, 0, none⟩) n n) ∧ Gs 22 w' w.heap.size (some ⟨w.heap.size, 0, none⟩) n (impL n) ∧ w.Since w.heap.size w' := by
  have hmk := fun W => run_make_row' (P := Try.prog) 27 22 (.float .f32 0) 4 Try.underlying27 Try.infoF rfl .i64 .i64 n (by omega) (by omega) W
  have G1 := Lib.hid (made_cells w n)
  by_cases h0 : n = 0
  · have hd : decide (0 < n) = false := decide_eq_false (by omega)
    have H0 := Lib.hid h0; clear h0
    go_enter Try.func64, Try.ntmps64
    go_wp2
    go_ret
    exact ⟨rfl, imp_gs (Nat.le_refl _) (G1.out.congr fun j hj => by have := H0.out; omega), (World.Since.refl _ _).alloc (Nat.le_refl _) _⟩
  · have hd : decide (0 < n) = true := decide_eq_true (by omega)
    have hc0 := G1.out.cell (j := 0) (by omega)
    have hf0 := G1.out.free 0
    have G2 := Lib.hid ((G1.out.set 0 (.float .f32 1065353216)).congr (f' := fun j => .float .f32 (if j = 0 then 1065353216 else 0)) fun j _ => by by_cases e : j = 0 <;> simp [e])
    have S1 : Hid (w.Since w.heap.size ((w.alloc (.cells (madeCells #[.float .f32 0] n) 22)).setCell ⟨w.heap.size, 0, none⟩ (.float .f32 1065353216))) := Lib.hid (((World.Since.refl _ _).alloc (Nat.le_refl _) _).setCell (Nat.le_refl _) _)
    go_enter Try.func64, Try.ntmps64
    go_wp2
    go_ret
    exact ⟨rfl, imp_gs (Nat.le_refl _) (by simpa [go_sem] using G2.out), by simpa [go_sem] using S1.out⟩
theorem noM_fv : FvM ⟨0, 0, 0, 0⟩ noM := fvNo
set_option maxHeartbeats 8000000 in
set_option maxRecDepth 100000 in
theorem specImp_ok (form : Nat) (hform : form ≤ 2) (f : FilN) (F : Fil) (n : Nat) (w : World) (hF : FvF f F) (hn : n ≤ 256) :
    Calls Try.prog 22 #[f.val, .int .i64 (form : Int), .int .i64 (n : Int)] w (PLB n (filY form false F noM impX) true w) := by
  have hmk := fun W => run_make_row' (P := Try.prog) 27 22 (.float .f32 0) 4 Try.underlying27 Try.infoF rfl .i64 .i64 n (by omega) (by omega) W
  have h1 : inB (form : Int) 0 2 = true := by simp only [inB, Bool.and_eq_true, decide_eq_true_eq]; omega
  have h2 : inB (n : Int) 0 256 = true := by simp only [inB, Bool.and_eq_true, decide_eq_true_eq]; omega
  have HIN : Hid (∀ v, Calls Try.prog 62 #[.int .i64 (n : Int), .int .i64 0, .int .i64 256] v fun e w' => e = .returned (.bool true) ∧ v = w') := Lib.hid fun v => by have := l00In_any (n : Int) 0 256 v; rw [h2] at this; exact this
  obtain ⟨b0, b1, b2, a1, a2⟩ := f
  unfold FilN.val
  obtain ⟨W1, hW1⟩ : ∃ W, Hid (w.alloc (.cells #[.float .f32 b0, .float .f32 b1, .float .f32 b2, .float .f32 a1, .float .f32 a2] 31) = W) := ⟨_, Lib.hid rfl⟩
  have z1 : W1.heap.size = w.heap.size + 1 := by rw [← hW1.out]; simp
  have FA : FilAt W1 w.heap.size ⟨b0, b1, b2, a1, a2⟩ := by rw [← hW1.out]; exact ⟨by simp, by simp [go_sem], by simp [go_sem], by simp [go_sem], by simp [go_sem], by simp [go_sem]⟩
  have S1 : w.Since w.heap.size W1 := by rw [← hW1.out]; exact (World.Since.refl _ _).alloc (Nat.le_refl _) _
  have G1 := made_cells W1 n
  have S2 : W1.Since W1.heap.size (W1.alloc (.cells (madeCells #[.float .f32 0] n) 22)) := (World.Since.refl _ _).alloc (Nat.le_refl _) _
  have HFA := Lib.hid FA; have HS1 := Lib.hid S1; have HG1 := Lib.hid G1; have HS2 := Lib.hid S2; clear FA S1 G1 S2
  -- what is behind the samples
  have rest : ∀ V : World, Gs 22 V w.heap.size (some ⟨w.heap.size + 1, 0, none⟩) n (impL n) → W1.Since W1.heap.size V → Calls Try.prog 60 #[.pointer (some ⟨w.heap.size, 0, none⟩), .int .i64 (form : Int), .bool false, .agg #[.float .f32 0, .float .f32 0, .float .f32 0, .float .f32 0], .slice (some ⟨w.heap.size + 1, 0, none⟩) n n] V (PLM n (filY form false F noM impX) (filM form false F noM impX n) V) := fun V hg hs => by
    have h9 := specRun_any form hform false w.heap.size ⟨b0, b1, b2, a1, a2⟩ ⟨0, 0, 0, 0⟩ F noM (some ⟨w.heap.size + 1, 0, none⟩) n n (impL n) V (HFA.out.since (since_mono hs (by omega))) hF noM_fv hg.read hn
    simp only [MemN.val] at h9
    refine h9.mono fun e w' => ?_
    rintro ⟨p, c, m, he, hp, hg, ha, hm, hs⟩
    have hl : ∀ k, k < n → (fun k => ab .f32 (wd (impL n) k)) k = impX k := fun k hk => imp_are n none k hk
    exact ⟨p, c, m, he, hp, hg, fun k hk => (ha k hk).trans (filY_like hl k (by omega)), by rw [← filM_like hl n (Nat.le_refl _)]; exact hm, hs⟩
  have REST := Lib.hid rest; clear rest
  go_enter Try.func22, Try.ntmps22
  go_wp2_with fail
  rw [hW1.out]
  go_at_call 58
  refine (l02Form_any _ _ _ h1).mono ?_
  rintro e w' ⟨rfl, rfl⟩
  have HG1' := HG1.out
  rw [z1] at HG1'
  have HG2 := Lib.hid HG1'; clear HG1' HG1
  have hlw : w.heap.size ≤ w.heap.size + 1 := by omega
  cases hd : decide (0 < n)
  · have hG := Lib.hid (imp_gs (n := n) hlw (HG2.out.congr fun j hj => by have := of_decide_eq_false hd; omega))
    go_wp2_with (go_at_call 62; refine (HIN.out _).mono ?_; rintro e w' ⟨rfl, rfl⟩)
    generalize hV : World.alloc W1 _ = V at *
    refine (REST.out V hG.out HS2.out).mono ?_
    rintro e w5 ⟨p, c, m, rfl, rfl, hg, ha, hm, hs⟩
    obtain ⟨ma, mb, mc, md⟩ := m
    have SV := Lib.hid ((since_step HS1.out HS2.out))
    have S5 := Lib.hid (since_step SV.out hs)
    have hz5 := SV.out.size
    have HGG := Lib.hid (hg.less hz5); have HAA := Lib.hid ha; clear hg ha hm hs hV
    simp only [MemN.val]
    go_wp2
    go_ret2
    exact ⟨p, c, rfl, rfl, HGG.out.since ((World.Since.refl _ _).alloc (Nat.le_refl _) _), HAA.out, S5.out.alloc S5.out.size _⟩
  · have hc0 := HG2.out.cell (j := 0) (by have := of_decide_eq_true hd; omega)
    have hf0 := HG2.out.free 0
    have hpos : 0 < n := of_decide_eq_true hd
    have hne : ¬ n = 0 := by omega
    have HS3 : Hid (W1.Since W1.heap.size ((W1.alloc (.cells (madeCells #[.float .f32 0] n) 22)).setCell ⟨w.heap.size + 1, 0, none⟩ (.float .f32 1065353216))) := Lib.hid (HS2.out.setCell (show W1.heap.size ≤ w.heap.size + 1 by omega) _)
    have hG := Lib.hid (imp_gs (n := n) hlw ((HG2.out.set 0 (.float .f32 1065353216)).congr (f' := fun j => .float .f32 (if j = 0 then 1065353216 else 0)) fun j _ => by by_cases e : j = 0 <;> simp [e]))
    go_wp2_with (go_at_call 62; refine (HIN.out _).mono ?_; rintro e w' ⟨rfl, rfl⟩)
    have e9 : (W1.alloc (.cells (madeCells #[.float .f32 0] n) 22)).setCell ⟨w.heap.size + 1, 0, none⟩ (.float .f32 1065353216) = W1.alloc (.cells ((madeCells #[.float .f32 0] n).setIfInBounds 0 (.float .f32 1065353216)) 22) := by
      rw [← z1]; simp [go_sem]
    rw [e9] at hG HS3
    clear e9 hc0 hf0 HG2 HS2
    generalize hV : World.alloc W1 _ = V at hG HS3 ⊢
    refine (REST.out V hG.out HS3.out).mono ?_
    rintro e w5 ⟨p, c, m, rfl, rfl, hg, ha, hm, hs⟩
    obtain ⟨ma, mb, mc, md⟩ := m
    have SV := Lib.hid ((since_step HS1.out HS3.out))
    have S5 := Lib.hid (since_step SV.out hs)
    have hz5 := SV.out.size
    have HGG := Lib.hid (hg.less hz5); have HAA := Lib.hid ha; clear hg ha hm hs hV
    simp only [MemN.val]
    go_wp2
    go_ret2
    exact ⟨p, c, rfl, rfl, HGG.out.since ((World.Since.refl _ _).alloc (Nat.le_refl _) _), HAA.out, S5.out.alloc S5.out.size _⟩
theorem stepOf_any (form : Nat) (hform : form ≤ 2) : ∃ kk, isNext form kk ∧ ∀ w, Calls Try.prog 63 #[.int .i64 (form : Int)] w fun e w' => e = .returned (.tuple #[.func (.func kk) #[] #[], .bool true]) ∧ w = w' := by
  match form, hform with
  | 0, _ => exact ⟨_, .inl ⟨rfl, rfl⟩, stepOf_Dir⟩
  | 1, _ => exact ⟨_, .inr (.inl ⟨rfl, rfl⟩), stepOf_Tur⟩
  | 2, _ => exact ⟨_, .inr (.inr ⟨rfl, rfl⟩), stepOf_Can⟩
set_option maxHeartbeats 8000000 in
set_option maxRecDepth 100000 in
theorem implImp_ok (form : Nat) (hform : form ≤ 2) (f : FilN) (F : Fil) (n : Nat) (w : World) (hF : FvF f F) (hn : n ≤ 256) :
    Calls Try.prog 23 #[f.val, .int .i64 (form : Int), .int .i64 (n : Int)] w (PLB n (filY form false F noM impX) true w) := by
  obtain ⟨kk, hkk, hso⟩ := stepOf_any form hform
  have HSO := Lib.hid hso; clear hso
  have HIM := Lib.hid fun v => impulse_any n hn v
  have d1 : decide ((n : Int) < 0) = false := decide_eq_false (by omega)
  have d2 : decide ((256 : Int) < (n : Int)) = false := decide_eq_false (by omega)
  have d3 : decide (256 < n) = false := decide_eq_false (by omega)
  obtain ⟨b0, b1, b2, a1, a2⟩ := f
  have rest : ∀ (V : World) (g : Nat), Gs 22 V w.heap.size (some ⟨g, 0, none⟩) n (impL n) → w.heap.size ≤ V.heap.size → Calls Try.prog 65 #[.agg #[.float .f32 b0, .float .f32 b1, .float .f32 b2, .float .f32 a1, .float .f32 a2, .bool false], .func (.func kk) #[] #[], .agg #[.float .f32 0, .float .f32 0, .float .f32 0, .float .f32 0], .slice (some ⟨g, 0, none⟩) n n] V fun e w' => ∃ ma mb mc md ys, e = .returned (.agg #[.float .f32 ma, .float .f32 mb, .float .f32 mc, .float .f32 md]) ∧ Gs 22 w' w.heap.size (some ⟨g, 0, none⟩) n ys ∧ Are ⟨some ⟨g, 0, none⟩, n, ys⟩ (filY form false F noM impX) ∧ V.Since w.heap.size w' := fun V g hg hs => by
    have h9 := implRun_any form kk hkk false ⟨b0, b1, b2, a1, a2⟩ ⟨0, 0, 0, 0⟩ F noM (some ⟨g, 0, none⟩) n n g w.heap.size impX V hF noM_fv (fun h0 => ⟨rfl, Pr.of hg h0 fun j hj => imp_are n none j hj⟩) hn hs
    simp only [MemN.val, setV] at h9
    refine h9.mono fun e w' => ?_
    rintro ⟨⟨ma, mb, mc, md⟩, he, hm, hp, hs2, _⟩
    by_cases h0 : 0 < n
    · obtain ⟨ys, h1, h2⟩ := (hp h0).done (Pr.of hg h0 (X := impX) (Y := impX) fun j hj => imp_are n none j hj).1
      exact ⟨ma, mb, mc, md, ys, he, h1, h2, hs2⟩
    · exact ⟨ma, mb, mc, md, [], he, ⟨by simp; omega, (fun x hx => by cases hx), fun h => absurd h h0⟩, fun j hj => absurd (Nat.lt_of_le_of_lt (Nat.zero_le _) hj) h0, hs2⟩
  have REST := Lib.hid rest; clear rest
  unfold FilN.val
  go_enter Try.func23, Try.ntmps23
  go_wp2_with fail
  generalize hW : World.alloc w _ = W1
  have S1 : Hid (w.Since w.heap.size W1) := Lib.hid (by rw [← hW]; exact (World.Since.refl _ _).alloc (Nat.le_refl _) _)
  have k0 : W1.cell? ⟨w.heap.size, 0, none⟩ = some (.float .f32 b0) := by rw [← hW]; simp [go_sem]
  have k1 : W1.cell? ⟨w.heap.size, 1, none⟩ = some (.float .f32 b1) := by rw [← hW]; simp [go_sem]
  have k2 : W1.cell? ⟨w.heap.size, 2, none⟩ = some (.float .f32 b2) := by rw [← hW]; simp [go_sem]
  have k3 : W1.cell? ⟨w.heap.size, 3, none⟩ = some (.float .f32 a1) := by rw [← hW]; simp [go_sem]
  have k4 : W1.cell? ⟨w.heap.size, 4, none⟩ = some (.float .f32 a2) := by rw [← hW]; simp [go_sem]
  have z1 : W1.heap.size = w.heap.size + 1 := by rw [← hW]; simp
  clear hW
  go_at_call 63
  refine (HSO.out _).mono ?_
  rintro e w' ⟨rfl, rfl⟩
  go_wp2_with fail
  refine (HIM.out _).mono ?_
  rintro e w2 ⟨rfl, hg, hs⟩
  have c0 := (hs.cell (a := ⟨w.heap.size, 0, none⟩) (show w.heap.size < W1.heap.size by omega)).trans k0
  have c1 := (hs.cell (a := ⟨w.heap.size, 1, none⟩) (show w.heap.size < W1.heap.size by omega)).trans k1
  have c2 := (hs.cell (a := ⟨w.heap.size, 2, none⟩) (show w.heap.size < W1.heap.size by omega)).trans k2
  have c3 := (hs.cell (a := ⟨w.heap.size, 3, none⟩) (show w.heap.size < W1.heap.size by omega)).trans k3
  have c4 := (hs.cell (a := ⟨w.heap.size, 4, none⟩) (show w.heap.size < W1.heap.size by omega)).trans k4
  have S2 := Lib.hid (since_step S1.out hs)
  have G2 := Lib.hid (hg.less S1.out.size)
  clear hs hg k0 k1 k2 k3 k4 z1
  generalize W1.heap.size = g at *
  go_wp2_with fail
  refine (REST.out w2 g G2.out S2.out.size).mono ?_
  rintro e w3 ⟨ma, mb, mc, md, ys, rfl, hg, ha, hs⟩
  have G3 := Lib.hid hg; have A3 := Lib.hid ha; have S3 := Lib.hid (S2.out.trans hs); clear hg ha hs
  go_wp2
  go_ret2
  exact ⟨⟨some ⟨g, 0, none⟩, n, ys⟩, n, rfl, rfl, G3.out, A3.out, S3.out⟩
end Go.Proofs.Ytebocaicebolaaa
