/- The law of stable filters. -/
import Derived.Test.YtebocaicebolaaaHs
import Derived.Test.YtebocaicebolaaaHn
set_option linter.unusedVariables false
set_option linter.unusedSimpArgs false
namespace Go.Proofs.Ytebocaicebolaaa
open Fl Go.RowKit
theorem e8_word {z : Int} {r : Nat} (h1 : -20 ≤ z) (h2 : z ≤ 43) (h : Hid (Fv .f32 r (opO .quo .f32 (some (fI z)) (some 1090519040)))) : r = e8 z := by
  have h3 := h.out.2
  have h4 : opO .quo .f32 (some (fI z)) (some 1090519040) = some (e8 z) := (e8_ok h1 h2).1
  rw [h4] at h3
  exact (ab_some h3).symm
theorem e8_fv {z : Int} (h1 : -20 ≤ z) (h2 : z ≤ 43) : Hid (Fv .f32 (e8 z) (e8O z)) := by
  obtain ⟨h3, h4, h5⟩ := e8_ok h1 h2
  exact Lib.hid ⟨h5, by rw [h3]; exact h4⟩
theorem stab8 (x y z : Nat) (hx : x < 4294967296) (hy : y < 4294967296) (hz : z < 4294967296) (a b : Int) (h1 : -20 ≤ a) (h2 : a ≤ 20) (h3 : -20 ≤ b) (h4 : b ≤ 20) (u v : Nat) (hu : u = e8 a) (hv : v = e8 b) (w : World) :
    Calls Try.prog 51 #[.agg #[.float .f32 x, .float .f32 y, .float .f32 z, .float .f32 u, .float .f32 v]] w fun e w' => e = .returned (.bool (inT a b)) ∧ w.Since w.heap.size w' := by
  rw [hu, hv]
  have ha := e8_ok (z := a) (by omega) (by omega)
  have hb := e8_ok (z := b) (by omega) (by omega)
  have h := implIS_any ⟨x, y, z, e8 a, e8 b⟩ w ⟨Lib.hid ⟨hx, rfl⟩, Lib.hid ⟨hy, rfl⟩, Lib.hid ⟨hz, rfl⟩, Lib.hid ⟨ha.2.2, rfl⟩, Lib.hid ⟨hb.2.2, rfl⟩⟩ _ _ rfl rfl
  rw [← st8_ok h1 h2 h3 h4]
  exact h
theorem level_lit (i j k : Nat) (hi : i < 16) (hj : j < 16) (hk : k < 16) (r s : Nat) (hr : Hid (Fv .f32 r (opO .quo .f32 (ad (ad (e8O i) (e8O j)) (e8O k)) (ad (ad (some 1065353216) (some 0)) (some 0))))) (hs : Hid (Fv .f32 s (ad (ad (ad (ad (some 0) (e8O i)) (e8O j)) (e8O k)) (some 0)))) : FloatKind.f32.format.order r s = some .eq := by
  have h := eq_fv hr hs
  rw [sum8 i j k hi hj hk] at h
  simpa using h
set_option maxHeartbeats 16000000 in
set_option maxRecDepth 100000 in
theorem lawStable_any (A : Option Addr) (n c : Nat) (xs : List Int) (B : Option Addr) (m d : Nat) (ys : List Int) (w : World) (hA : Bs w w.heap.size A n xs) (hB : Bs w w.heap.size B m ys) :
    Calls Try.prog 10 #[.slice A n c, .slice B m d] w fun e w' => e = .returned (.bool true) ∧ w.Since w.heap.size w' := by
  have HA := Lib.hid hA; have HB := Lib.hid hB; clear hA hB
  cases hl : (decide ((48 : Int) < n) || decide ((48 : Int) < m))
  case true =>
    go_enter Try.func10, Try.ntmps10
    go_wp2_with fail
    refine (r8Long_any A B n c m d true w hl).mono ?_
    rintro e w1 ⟨rfl, hs⟩
    have S1 := Lib.hid hs; clear hs
    go_wp2
    go_ret
    exact ⟨rfl, S1.out⟩
  case false =>
    have hX0 : True := trivial
    go_enter Try.func10, Try.ntmps10
    go_wp2_with fail
    refine (r8Long_any A B n c m d false w hl).mono ?_
    rintro e w1 ⟨rfl, hs⟩
    have S1 := Lib.hid hs; clear hs hl
    go_wp2_with fail
    refine (r8At_any A n c xs 0 41 w1 ((HA.out.since S1.out (Nat.le_refl _)).more S1.out.size) (by omega) (by omega)).mono ?_
    rintro e w2 ⟨va, rfl, a1, a2, hs⟩
    have a3 := a2 (by omega)
    have S2 := Lib.hid (since_step S1.out hs); clear hs a2 S1
    go_wp2_with fail
    refine (r8At_any A n c xs 1 41 w2 ((HA.out.since S2.out (Nat.le_refl _)).more S2.out.size) (by omega) (by omega)).mono ?_
    rintro e w3 ⟨vb, rfl, b1, b2, hs⟩
    have b3 := b2 (by omega)
    have S3 := Lib.hid (since_step S2.out hs); clear hs b2 S2
    have q8 : Hid (Fv .f32 1090519040 (some 1090519040)) := fvc (by decide) (by decide)
    go_wp2_with fail
    refine (r8At_any B m d ys 0 16 w3 ((HB.out.since S3.out (Nat.le_refl _)).more S3.out.size) (by omega) (by omega)).mono ?_
    rintro e w4 ⟨i, rfl, i1, i2, hs⟩
    have i3 := i2 (by omega)
    obtain ⟨i, rfl⟩ := Int.eq_ofNat_of_zero_le i1
    have S4 := Lib.hid (since_step S3.out hs); clear hs i2 S3
    have q1 := fI_fv (i : Int)
    go_wp2_with (with_reducible_and_instances refine Lo.wpList_fo _ rfl _ _ _ _ _ rfl _ _ _ _ _ rfl rfl rfl (by assumption) (by assumption) ?_; intro rr nn hrr)
    have X1 : Hid (Fv .f32 rr (e8O (i : Int))) := hrr
    obtain ⟨x1, hx1⟩ : ∃ r, r = rr := ⟨_, rfl⟩
    rw [← hx1] at X1 ⊢
    clear hrr q1 hx1
    generalize hW : World.drewN w4 _ = W4
    have S4' : Hid (w.Since w.heap.size W4) := Lib.hid (by rw [← hW]; exact since_drewN S4.out _)
    clear hW S4; have S4 := S4'; clear S4'
    refine (r8At_any B m d ys 1 16 W4 ((HB.out.since S4.out (Nat.le_refl _)).more S4.out.size) (by omega) (by omega)).mono ?_
    rintro e w5 ⟨j, rfl, j1, j2, hs⟩
    have j3 := j2 (by omega)
    obtain ⟨j, rfl⟩ := Int.eq_ofNat_of_zero_le j1
    have S5 := Lib.hid (since_step S4.out hs); clear hs j2 S4
    have q1 := fI_fv (j : Int)
    go_wp2_with (with_reducible_and_instances refine Lo.wpList_fo _ rfl _ _ _ _ _ rfl _ _ _ _ _ rfl rfl rfl (by assumption) (by assumption) ?_; intro rr nn hrr)
    have X2 : Hid (Fv .f32 rr (e8O (j : Int))) := hrr
    obtain ⟨x2, hx2⟩ : ∃ r, r = rr := ⟨_, rfl⟩
    rw [← hx2] at X2 ⊢
    clear hrr q1 hx2
    generalize hW : World.drewN w5 _ = W5
    have S5' : Hid (w.Since w.heap.size W5) := Lib.hid (by rw [← hW]; exact since_drewN S5.out _)
    clear hW S5; have S5 := S5'; clear S5'
    refine (r8At_any B m d ys 2 16 W5 ((HB.out.since S5.out (Nat.le_refl _)).more S5.out.size) (by omega) (by omega)).mono ?_
    rintro e w6 ⟨k, rfl, k1, k2, hs⟩
    have k3 := k2 (by omega)
    obtain ⟨k, rfl⟩ := Int.eq_ofNat_of_zero_le k1
    have S6 := Lib.hid (since_step S5.out hs); clear hs k2 S5
    obtain ⟨a, ha⟩ : ∃ a, a = va - 20 := ⟨_, rfl⟩
    obtain ⟨b, hb⟩ : ∃ b, b = vb - 20 := ⟨_, rfl⟩
    have a4 : -20 ≤ a := by omega
    have a5 : a ≤ 20 := by omega
    have b4 : -20 ≤ b := by omega
    have b5 : b ≤ 20 := by omega
    rw [← ha, ← hb]
    clear ha hb a1 a3 b1 b3
    have q1 := fI_fv (k : Int)
    have q2 := fI_fv a
    have q3 := fI_fv b
    rename (∀ (a : Act) (w : World), Code.wp Try.prog _ _ a w → _) => ak
    have AK := Lib.hid ak; clear ak
    go_wp2_with (with_reducible_and_instances refine Lo.wpList_fo _ rfl _ _ _ _ _ rfl _ _ _ _ _ rfl rfl rfl (by assumption) (by assumption) ?_; intro rr nn hrr)
    rename_i x3 m3 h3 x4 m4 h4
    have X3 : Hid (Fv .f32 x3 (e8O (k : Int))) := h3
    have X4 : Hid (Fv .f32 x4 (e8O a)) := h4
    have X5 : Hid (Fv .f32 rr (e8O b)) := hrr
    have E4 : Hid (x4 = e8 a) := Lib.hid (e8_word (by omega) (by omega) h4)
    have E5 : Hid (rr = e8 b) := Lib.hid (e8_word (by omega) (by omega) hrr)
    obtain ⟨x5, hx5⟩ : ∃ r, r = rr := ⟨_, rfl⟩
    rw [← hx5] at X5 E5 ⊢
    clear h3 h4 hrr hx5 q1 q2 q3 q8
    generalize hW : World.drewN _ _ = W6
    obtain ⟨bf, hbf⟩ : ∃ q, Hid (q = w6.heap.size) := ⟨_, Lib.hid rfl⟩
    have FB : Hid (FilB 31 W6 bf ⟨x1, x2, x3, x4, x5⟩) := Lib.hid (by rw [← hW, hbf.out]; exact FilB.of (FilB.new _ w6 _ _ _ _ _) rfl)
    have S7 : Hid (w.Since w.heap.size W6) := Lib.hid (by rw [← hW]; exact since_drewN (S6.out.alloc S6.out.size _) _)
    clear hW S6
    rw [← hbf.out]; clear hbf
    have f0 := FB.out.c0; have f1 := FB.out.c1; have f2 := FB.out.c2; have f3 := FB.out.c3; have f4 := FB.out.c4
    refine AK.out _ _ ?_
    clear AK
    go_wp2_with fail
    all_goals
      generalize hW : World.alloc W6 _ = W7
      obtain ⟨bg, hbg⟩ : ∃ q, Hid (q = W6.heap.size) := ⟨_, Lib.hid rfl⟩
      have GB : Hid (FilB 31 W7 bg ⟨x1, x2, x3, 0, 0⟩) := Lib.hid (by rw [← hW, hbg.out]; exact FilB.new _ W6 _ _ _ _ _)
      have hs : W6.Since W6.heap.size W7 := by rw [← hW]; exact (World.Since.refl _ _).alloc (Nat.le_refl _) _
      have S8 := Lib.hid (since_step S7.out hs)
      have FB' := Lib.hid (FB.out.since hs FB.out.lt)
      clear hW hs FB S7 f0 f1 f2 f3 f4
      have FB := FB'; clear FB'
      try rw [← hbg.out]
      clear hbg
      have GG : FvF ⟨x1, x2, x3, 0, 0⟩ ⟨e8O (i : Int), e8O (j : Int), e8O (k : Int), some 0, some 0⟩ := ⟨X1, X2, X3, fv0, fv0⟩
      refine (implImp_ok 1 (by omega) ⟨x1, x2, x3, 0, 0⟩ ⟨e8O (i : Int), e8O (j : Int), e8O (k : Int), some 0, some 0⟩ 4 W7 GG (by omega)).mono ?_
      rintro e w8 ⟨⟨pA, pn, px⟩, pc, rfl, hpn, hg, hf, hs⟩
      change pn = 4 at hpn
      subst hpn
      have P8 := Lib.hid hg.read
      have S9 := Lib.hid (since_step S8.out hs); have FB' := Lib.hid (FB.out.since hs FB.out.lt); have GB' := Lib.hid (GB.out.since hs GB.out.lt)
      have hsum : sumO px 4 = ad (ad (ad (ad (some 0) (e8O (i : Int))) (e8O (j : Int))) (e8O (k : Int))) (some 0) := by
        obtain ⟨y0, y1, y2, y3⟩ := level8 i j k (by omega) (by omega) (by omega)
        have z0 := hf 0 (show 0 < 4 by omega); have z1 := hf 1 (show 1 < 4 by omega); have z2 := hf 2 (show 2 < 4 by omega); have z3 := hf 3 (show 3 < 4 by omega)
        simp only at z0 z1 z2 z3
        simp only [sumO]
        rw [z0, z1, z2, z3, y0, y1, y2, y3]
      have HS := Lib.hid hsum
      clear hg hf hs hsum S8 FB GB
      have FB := FB'; have GB := GB'; clear FB' GB'
      have SI : ∃ X : Bool, inT a b = X ∧ (X = decide (-a < 8 + b) ∧ -8 < b ∧ b < 8 ∧ a < 8 + b ∨ X = false ∧ ¬ (-8 < b ∧ b < 8 ∧ a < 8 + b)) := by
        by_cases h : -8 < b ∧ b < 8 ∧ a < 8 + b
        · exact ⟨_, by unfold inT; rw [decide_eq_true h.1, decide_eq_true h.2.1, decide_eq_true h.2.2]; rfl, .inl ⟨rfl, h⟩⟩
        · exact ⟨false, by unfold inT; simp; omega, .inr ⟨rfl, h⟩⟩
      obtain ⟨X, hX, hXX⟩ := SI
      rcases hXX with ⟨rfl, hp⟩ | ⟨rfl, hp⟩
      all_goals first
        | (exfalso; omega)
        | (have KI := Lib.hid fun (v : World) => (stab8 x1 x2 x3 X1.out.1 X2.out.1 X3.out.1 a b a4 a5 b4 b5 x4 x5 E4.out E5.out v)
           rw [hX] at KI
           clear hX hp
           have g0 := FB.out.c0; have g1 := FB.out.c1; have g2 := FB.out.c2; have g3 := FB.out.c3; have g4 := FB.out.c4
           simp only
           go_wp2_with (first
             | (go_at_call 50; refine (implSum_any pA 4 pc px w8 w8.heap.size P8.out (by omega)).mono ?_; rintro e w9 ⟨s, qd, rfl, hv, rfl⟩; rw [if_pos (by omega), HS.out] at hv; have HV := Lib.hid hv; clear hv)
             | (go_at_call 51; refine (KI.out _).mono ?_; rintro e w10 ⟨rfl, hs⟩; have T10 := Lib.hid hs; clear hs; clear g0 g1 g2 g3 g4; have G10 := Lib.hid ((FilB.of (w' := w8.drewN qd) GB.out rfl).since T10.out GB.out.lt); have g0 := G10.out.c0; have g1 := G10.out.c1; have g2 := G10.out.c2; have g3 := G10.out.c3; have g4 := G10.out.c4)
             | (go_at_call 52; refine (implLevel_any ⟨x1, x2, x3, 0, 0⟩ ⟨e8O (i : Int), e8O (j : Int), e8O (k : Int), some 0, some 0⟩ w10 ⟨X1, X2, X3, fv0, fv0⟩).mono ?_; rintro e w11 ⟨r, rfl, hr, hs⟩; have T11 := Lib.hid (since_step (since_step (since_drewN S9.out qd) T10.out) hs); have heq := level_lit i j k (by omega) (by omega) (by omega) r s hr HV; clear hs))
           go_ret
           exact ⟨rfl, T11.out⟩)
end Go.Proofs.Ytebocaicebolaaa
