/- The laws of ValidEffect, ValidChain and LatenessOf. -/
import Derived.Test.YtbgjmmncjmcjfaaRd
import Derived.Test.YtbgjmmncjmcjfaaRe
import Derived.Test.YtbgjmmncjmcjfaaFq
set_option linter.unusedVariables false
set_option linter.unusedSimpArgs false
namespace Go.Proofs.Ytbgjmmncjmcjfaa
open Fl Go.RowKit
theorem effB_like {x y : EffectR} (h : x.like y) : effB x = effB y := by
  obtain ⟨h1, h2, h3, h4⟩ := h
  unfold effB
  rw [h1, h2, h3, h4]
theorem effsIn_like {e x : Nat → EffectR} {n : Nat} (h : ∀ k, k < n → (e k).like (x k)) : effsIn e n ↔ effsIn x n := by
  unfold effsIn
  constructor
  · exact fun h1 j hj => (effB_like (h j hj)) ▸ h1 j hj
  · exact fun h1 j hj => (effB_like (h j hj)).symm ▸ h1 j hj
theorem chainOk_like {e x : Nat → EffectR} {n : Nat} (h : ∀ k, k < n → (e k).like (x k)) : chainOk e n ↔ chainOk x n := by
  unfold chainOk
  rw [effsIn_like h]
theorem lateE_like {e x : Nat → EffectR} : ∀ {n : Nat}, (∀ k, k < n → (e k).like (x k)) → lateE e n = lateE x n
  | 0, _ => rfl
  | n + 1, h => by
    obtain ⟨_, _, h3, h4⟩ := h n (by omega)
    unfold lateE
    rw [lateE_like fun k hk => h k (by omega), h3, h4]
theorem effects_fit (x : Nat → EffectR) (n : Nat) (h : (n : Int) + EffectR.tot x n ≤ 1048576) : (∀ k, k < n → (x k).sn ≤ 1048576) ∧ EffectR.tot x n ≤ 1048576 ∧ n ≤ 1048576 :=
  ⟨fun k hk => by
    have h1 : EffectR.tot x k + (x k).sn ≤ EffectR.tot x n := EffectR.tot_le x (k := k + 1) hk
    omega, by omega, by omega⟩
open Classical in
theorem lawValidChain_any (A0 : Option Addr) (n0 c0 : Nat) (x0 : Nat → EffectR) (w : World)
    (h0 : Rs EffectR.cells 3 w w.heap.size A0 n0 x0) (hk0 : ∀ k, k < n0 → (x0 k).wf w) (hb0 : n0 ≤ 9223372036854775807) :
    Calls Try.prog 4 #[.slice A0 n0 c0] w fun e w' => e = .returned (.bool true) ∧ w.Since w.heap.size w' := by
  by_cases h : (n0 : Int) + EffectR.tot x0 n0 ≤ 1048576
  · obtain ⟨h1, h2, h3⟩ := effects_fit x0 n0 h
    have hr : (decide (chainOk x0 n0)) = true ↔ chainOk x0 n0 := decide_eq_true_iff
    exact lawValidChain_gen A0 n0 c0 x0 _ w ⟨h0, fun k hk => (hk0 k hk).2.1⟩ h3 (fun k hk => (hk0 k hk).1) h1 h2 h
      (fun v b e ht hl => specValidChain_b _ _ _ e _ _ ht h3 (hr.trans (chainOk_like hl).symm))
      (fun v b e ht hl => implValidChain_b _ _ _ e _ _ ht h3 (hr.trans (chainOk_like hl).symm))
  · exact lawValidChain_big A0 n0 c0 x0 w h0 (fun k hk => (hk0 k hk).2.2.1) hb0 h
open Classical in
theorem lawLatenessOf_any (A0 : Option Addr) (n0 c0 : Nat) (x0 : Nat → EffectR) (w : World)
    (h0 : Rs EffectR.cells 3 w w.heap.size A0 n0 x0) (hk0 : ∀ k, k < n0 → (x0 k).wf w) (hb0 : n0 ≤ 9223372036854775807) :
    Calls Try.prog 7 #[.slice A0 n0 c0] w fun e w' => e = .returned (.bool true) ∧ w.Since w.heap.size w' := by
  by_cases h : (n0 : Int) + EffectR.tot x0 n0 ≤ 1048576
  · obtain ⟨h1, h2, h3⟩ := effects_fit x0 n0 h
    have hr : (decide (chainOk x0 n0)) = true ↔ chainOk x0 n0 := decide_eq_true_iff
    exact lawLatenessOf_gen A0 n0 c0 x0 _ _ w ⟨h0, fun k hk => (hk0 k hk).2.1⟩ h3 (fun k hk => (hk0 k hk).1) h1 h2 h
      (fun v b e ht hl => by have := specLateness_b (some ⟨b, 0, none⟩) n0 n0 e _ v ht h3 (hr.trans (chainOk_like hl).symm); rw [lateE_like hl] at this; exact this)
      (fun v b e ht hl => by have := implLateness_b (some ⟨b, 0, none⟩) n0 n0 e _ v ht h3 (hr.trans (chainOk_like hl).symm); rw [lateE_like hl] at this; exact this)
  · exact lawLatenessOf_big A0 n0 c0 x0 w h0 (fun k hk => (hk0 k hk).2.2.1) hb0 h
theorem specValidEffect_b (x : EffectR) (b : Bool) (w : World) (hF : Fs w w.heap.size x.sA x.sn x.sx) (hb : effB x = b) :
    Calls Try.prog 16 #[x.val] w fun e w' => e = .returned (.bool b) ∧ w.Since w.heap.size w' := by
  obtain ⟨k, l, sA, sn, sc, sx⟩ := x
  unfold EffectR.val
  have HS : Hid (w.Since w.heap.size (w.alloc (.cells #[.int .i64 k, .int .i64 l, .slice sA sn sc] 27))) := Lib.hid ((World.Since.refl _ _).alloc (Nat.le_refl _) _)
  have HE := Lib.hid (specEffect_b w.heap.size 0 ⟨k, l, sA, sn, sc, sx⟩ b (w.alloc (.cells #[.int .i64 k, .int .i64 l, .slice sA sn sc] 27)) w.heap.size HS.out.size (by simp [go_sem]) (by simp [go_sem]) (by simp [go_sem]) (hF.since HS.out) (by simp) hb)
  clear hF hb
  go_enter Try.func16, Try.ntmps16
  go_wp2_with (go_at_call 66; refine HE.out.mono ?_; rintro e w2 ⟨rfl, hs⟩)
  go_ret
  exact ⟨rfl, since_step HS.out hs⟩
set_option maxHeartbeats 4000000 in
set_option maxRecDepth 100000 in
theorem lawValidEffect_any (x : EffectR) (w : World) (hx : x.wf w) :
    Calls Try.prog 3 #[x.val] w fun e w' => e = .returned (.bool true) ∧ w.Since w.heap.size w' := by
  obtain ⟨X, hX⟩ : ∃ X, X = x := ⟨_, rfl⟩
  obtain ⟨k, l, sA, sn, sc, sx⟩ := x
  have HXV : Hid (X.val = .agg #[.int .i64 k, .int .i64 l, .slice sA sn sc]) := Lib.hid (by rw [hX]; rfl)
  rw [← hX] at hx
  unfold EffectR.val
  simp only
  have HSN : X.sn = sn := by rw [hX]
  clear hX
  obtain ⟨W, hW⟩ : ∃ W, W = w.alloc (.cells #[.int .i64 k, .int .i64 l, .slice sA sn sc] 24) := ⟨_, rfl⟩
  have SW : Hid (w.Since w.heap.size W) := Lib.hid (by rw [hW]; exact (World.Since.refl _ _).alloc (Nat.le_refl _) _)
  have hlt : w.heap.size < W.heap.size := by rw [hW]; simp
  have B0 : Hid (W.cell? ⟨w.heap.size, 0, none⟩ = some (.int .i64 k)) := Lib.hid (by rw [hW]; simp [go_sem])
  have B1 : Hid (W.cell? ⟨w.heap.size, 1, none⟩ = some (.int .i64 l)) := Lib.hid (by rw [hW]; simp [go_sem])
  have B2 : Hid (W.cell? ⟨w.heap.size, 2, none⟩ = some (.slice sA sn sc)) := Lib.hid (by rw [hW]; simp [go_sem])
  have HW := Lib.hid hW
  clear hW
  have HF := Lib.hid (hx.2.1.now SW.out)
  have hn := hx.2.2.1
  have HOK := Lib.hid hx.1
  clear hx
  have HSZ := Lib.hid (fun W => szEffect_row X 1048576 W (by omega) (by omega) hn)
  rw [HXV.out] at HSZ
  by_cases h : (X.sn : Int) ≤ 1048576
  · simp only [if_pos h] at HSZ
    have HTO := Lib.hid (fun V (s : W.Since W.heap.size V) => toEffect_row X W V HF.out s (by omega))
    rw [HXV.out] at HTO
    have hd : ¬ (1048576 : Int) - (X.sn : Int) < 0 := by omega
    have HN2 : Hid (X.sn ≤ 1048576) := Lib.hid (by omega)
    clear hn h HSN
    go_enter Try.func3, Try.ntmps3
    go_wp2_with fail
    rw [← HW.out]
    refine (HSZ.out _).mono ?_
    rintro e w1 ⟨rfl, hs⟩
    have S := Lib.hid hs; clear hs
    have b0 := (S.out.cell (a := ⟨w.heap.size, 0, none⟩) hlt).trans B0.out
    have b1 := (S.out.cell (a := ⟨w.heap.size, 1, none⟩) hlt).trans B1.out
    have b2 := (S.out.cell (a := ⟨w.heap.size, 2, none⟩) hlt).trans B2.out
    go_wp2_with fail
    refine (HTO.out _ S.out).mono ?_
    rintro e w2 ⟨y, rfl, hl, _, hg, hs⟩
    have HL := Lib.hid hl
    have HSP := Lib.hid (specValidEffect_b y _ w2 hg.readF (effB_like HL.out))
    have S' := Lib.hid (since_step S.out hs); clear S; have S := S'; clear S'
    clear hl hg hs b0 b1 b2
    go_wp2_with fail
    refine HSP.out.mono ?_
    rintro e w3 ⟨rfl, hs⟩
    have S' := Lib.hid (since_step S.out hs); clear S; have S := S'; clear S'
    clear hs HSP
    have b0 := (S.out.cell (a := ⟨w.heap.size, 0, none⟩) hlt).trans B0.out
    have b1 := (S.out.cell (a := ⟨w.heap.size, 1, none⟩) hlt).trans B1.out
    have b2 := (S.out.cell (a := ⟨w.heap.size, 2, none⟩) hlt).trans B2.out
    go_wp2_with fail
    refine (HTO.out _ S.out).mono ?_
    rintro e w4 ⟨z, rfl, hl, _, hg, hs⟩
    have HLZ := Lib.hid hl; have HGZ := Lib.hid hg.readF
    have HIM := Lib.hid (implEffect_b z _ w4 hg.readF (effB_like HLZ.out))
    have S' := Lib.hid (since_step S.out hs); clear S; have S := S'; clear S'
    clear hl hg hs b0 b1 b2
    have hz4 := S.out.size
    obtain ⟨z_k, z_l, z_sA, z_sn, z_sc, z_sx⟩ := z
    unfold EffectR.val at HIM ⊢
    simp only at HGZ HLZ HIM ⊢
    obtain ⟨V, hV⟩ : ∃ V, V = w4.alloc (.cells #[.int .i64 z_k, .int .i64 z_l, .slice z_sA z_sn z_sc] 27) := ⟨_, rfl⟩
    have HV := Lib.hid hV
    have SV : Hid (w4.Since w4.heap.size V) := Lib.hid (by rw [hV]; exact (World.Since.refl _ _).alloc (Nat.le_refl _) _)
    have Y0 : Hid (V.cell? ⟨w4.heap.size, 0, none⟩ = some (.int .i64 z_k)) := Lib.hid (by rw [hV]; simp [go_sem])
    have Y1 : Hid (V.cell? ⟨w4.heap.size, 1, none⟩ = some (.int .i64 z_l)) := Lib.hid (by rw [hV]; simp [go_sem])
    have Y2 : Hid (V.cell? ⟨w4.heap.size, 2, none⟩ = some (.slice z_sA z_sn z_sc)) := Lib.hid (by rw [hV]; simp [go_sem])
    have hltV : w4.heap.size < V.heap.size := by rw [hV]; simp
    have HIM2 := Lib.hid (implEffect_b ⟨z_k, z_l, z_sA, z_sn, z_sc, z_sx⟩ _ V (HGZ.out.now SV.out) (effB_like HLZ.out))
    clear hV HIM
    go_wp2_with fail
    rw [← HV.out]
    refine HIM2.out.mono ?_
    rintro e w5 ⟨rfl, hs⟩
    have hz5 := hs.size
    have hx5 : w4.heap.size < w5.heap.size := by omega
    have HGZ5 := Lib.hid ((HGZ.out.now SV.out).now hs)
    have y0 := (hs.cell (a := ⟨w4.heap.size, 0, none⟩) hltV).trans Y0.out
    have y1 := (hs.cell (a := ⟨w4.heap.size, 1, none⟩) hltV).trans Y1.out
    have y2 := (hs.cell (a := ⟨w4.heap.size, 2, none⟩) hltV).trans Y2.out
    have S' := Lib.hid (since_step (since_step S.out SV.out) hs); clear S; have S := S'; clear S'
    clear hs HIM2
    have b0 := (S.out.cell (a := ⟨w.heap.size, 0, none⟩) hlt).trans B0.out
    have b1 := (S.out.cell (a := ⟨w.heap.size, 1, none⟩) hlt).trans B1.out
    have b2 := (S.out.cell (a := ⟨w.heap.size, 2, none⟩) hlt).trans B2.out
    have HE : Hid (∀ (u : EffectR) (V6 : World), w5.Since w5.heap.size V6 → Fs V6 V6.heap.size u.sA u.sn u.sx → u.like X → Calls Try.prog 19 #[.agg #[.int .i64 z_k, .int .i64 z_l, .slice z_sA z_sn z_sc], u.val] V6 fun e w' => e = .returned (.bool true) ∧ V6.Since V6.heap.size w') := Lib.hid (fun u V6 h1 h2 h3 => eqEffect_row ⟨z_k, z_l, z_sA, z_sn, z_sc, z_sx⟩ u V6 (HGZ5.out.now h1) h2 (EffectR.like_ok HLZ.out HOK.out) (by rw [HLZ.out.1]; exact HN2.out) (EffectR.like_tr HLZ.out h3))
    go_wp2_with fail
    go_region_with (first | (go_at_call 17; refine (HTO.out _ (by have hs0 := S.out; (repeat (first | (with_reducible refine Fl.sinDrew ?_) | (with_reducible refine World.Since.drew ?_) | (with_reducible refine Fl.sinSet ?_ ?_; rotate_left) | (with_reducible refine Fl.sinAlloc ?_ ?_; rotate_left) | with_reducible exact World.Since.refl _ _ | with_reducible assumption | (with_reducible refine Fl.sinStep (by with_reducible assumption) ?_))); all_goals (first | omega | (simp; done) | (simp; omega) | (simp [go_sem]; done) | (simp [go_sem]; omega)))).mono ?_; rintro e w6 ⟨u, rfl, hl, _, hg, hs⟩; have HLU := Lib.hid hl; have HGU := Lib.hid hg; have HS6 := Lib.hid hs; have y0' := (hs.cell (a := ⟨w4.heap.size, 0, none⟩) hx5).trans y0; have y1' := (hs.cell (a := ⟨w4.heap.size, 1, none⟩) hx5).trans y1; have y2' := (hs.cell (a := ⟨w4.heap.size, 2, none⟩) hx5).trans y2; clear hl hg hs) | (go_at_call 19; refine (HE.out u _ (by have h6 := HS6.out; (repeat (first | (with_reducible refine Fl.sinDrew ?_) | (with_reducible refine World.Since.drew ?_) | (with_reducible refine Fl.sinSet ?_ ?_; rotate_left) | (with_reducible refine Fl.sinAlloc ?_ ?_; rotate_left) | with_reducible exact World.Since.refl _ _ | with_reducible assumption | (with_reducible refine Fl.sinStep (by with_reducible assumption) ?_))); all_goals (first | omega | (simp; done) | (simp; omega) | (simp [go_sem]; done) | (simp [go_sem]; omega))) (HGU.out.readF.now (by (repeat (first | (with_reducible refine Fl.sinDrew ?_) | (with_reducible refine World.Since.drew ?_) | (with_reducible refine Fl.sinSet ?_ ?_; rotate_left) | (with_reducible refine Fl.sinAlloc ?_ ?_; rotate_left) | with_reducible exact World.Since.refl _ _ | with_reducible assumption | (with_reducible refine Fl.sinStep (by with_reducible assumption) ?_))); all_goals (first | omega | (simp; done) | (simp; omega) | (simp [go_sem]; done) | (simp [go_sem]; omega)))) HLU.out).mono ?_; rintro e w7 ⟨rfl, hs7⟩; have HS7 := Lib.hid hs7; clear hs7))
    all_goals
      go_wp2
      go_ret
      refine ⟨rfl, ?_⟩
      have h0 := SW.out
      have h1 := S.out
      have h6 := HS6.out
      have h7 := HS7.out
      (repeat (first | (with_reducible refine Fl.sinDrew ?_) | (with_reducible refine World.Since.drew ?_) | (with_reducible refine Fl.sinSet ?_ ?_; rotate_left) | (with_reducible refine Fl.sinAlloc ?_ ?_; rotate_left) | with_reducible exact World.Since.refl _ _ | with_reducible assumption | (with_reducible refine Fl.sinStep (by with_reducible assumption) ?_))); all_goals (first | omega | (simp; done) | (simp; omega) | (simp [go_sem]; done) | (simp [go_sem]; omega))
  · simp only [if_neg h] at HSZ
    clear hn h HSN
    go_enter Try.func3, Try.ntmps3
    go_wp2_with fail
    refine (HSZ.out _).mono ?_
    rintro e w1 ⟨rfl, hs⟩
    go_wp2
    go_ret
    exact ⟨rfl, by rw [← HW.out] at hs; exact SW.out.trans (since_mono hs (by omega))⟩
section
open Go.ChangeShapes Go.WideShapes Go.Deep
variable {H : Type} {enc : TypeId × Value → H} {P : Program} {w : World} {base : Nat}
theorem Fl.open_eff {r : Reach} {b0 : Nat} {t te : TypeId} {f0 f1 f2 : Field} {v : Value} {d : DataW H} {p : List MemPlace} (hs : P.underlying t = some (.struct #[f0, f1, f2])) (hone : oneCellFields P #[f0, f1, f2] = true) (hC : P.cellsOf t = 3)
    (hte : P.underlying te = some (.float .f32)) (hce : P.cellsOf te = 1) (h0 : P.underlying f0.type = some (.int .i64)) (h1 : P.underlying f1.type = some (.int .i64)) (h2 : P.underlying f2.type = some (.slice te))
    (hv : Value.okWide P w r b0 t v) (h : DataW.Trod enc P w base (fun _ => true) true t v d p) :
    ∃ m : EffectR, v = m.val ∧ m.wf w := by
  obtain ⟨cs, rfl, hsz, hc⟩ := open_row hs hone hC hv h
  obtain ⟨c0, y0, n0, e0, t0⟩ := hc 0 f0 rfl
  obtain ⟨c1, y1, n1, e1, t1⟩ := hc 1 f1 rfl
  obtain ⟨c2, y2, n2, e2, t2⟩ := hc 2 f2 rfl
  obtain ⟨x0, hx0, w0⟩ := trod_int h0 t0
  obtain ⟨x1, hx1, w1⟩ := trod_int h1 t1
  obtain ⟨xA, xn, xc, xx, hx2, w2, wn2⟩ := trod_fs h2 hte hce t2
  subst hx2
  injection hx0 with hx0 _; subst hx0
  injection hx1 with hx1 _; subst hx1
  refine ⟨⟨x0, x1, xA, xn, xc, xx⟩, ?_, trivial, w2, wn2, w0, w1⟩
  unfold EffectR.val
  congr 1
  apply Array.ext_getElem?
  intro i
  match i with
  | 0 => exact e0
  | 1 => exact e1
  | 2 => exact e2
  | i + 3 => rw [Array.getElem?_eq_none (by rw [hsz]; simp), Array.getElem?_eq_none (by simp)]
end
end Go.Proofs.Ytbgjmmncjmcjfaa
