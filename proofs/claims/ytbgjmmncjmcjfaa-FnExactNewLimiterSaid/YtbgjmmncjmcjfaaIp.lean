/- The law of NewLimiter. -/
import Derived.Test.YtbgjmmncjmcjfaaIo
set_option linter.unusedVariables false
set_option linter.unusedSimpArgs false
namespace Go.Proofs.Ytbgjmmncjmcjfaa
open Fl Go.RowKit
set_option maxRecDepth 100000 in
set_option maxHeartbeats 4000000 in
theorem eqLim_any (p q : Ls) (c d l r g l' r' g' : Nat) (L R G : O) (f : Nat → O) (w : World) (hp : Fs w w.heap.size p.A p.n p.xs) (hq : Fs w w.heap.size q.A q.n q.xs) (hn : p.n ≤ 1048576) (hnn : q.n = p.n) (hs : Are p f) (ht : Are q f)
    (m0 : Hid (Fv .f32 l L)) (m1 : Hid (Fv .f32 r R)) (m2 : Hid (Fv .f32 g G)) (n0 : Hid (Fv .f32 l' L)) (n1 : Hid (Fv .f32 r' R)) (n2 : Hid (Fv .f32 g' G)) :
    Calls Try.prog 44 #[limV l r g p.A p.n c, limV l' r' g' q.A q.n d] w fun e w' => e = .returned (.bool true) ∧ w.Since w.heap.size w' := by
  have HQ := Lib.hid (fun W (s : w.Since w.heap.size W) => eqL_any p q c d W f (hp.now s) (hq.now s) hn hnn hs ht)
  clear hp hq hn hnn hs ht
  unfold limV
  obtain ⟨pA, pn, px⟩ := p
  obtain ⟨qA, qn, qx⟩ := q
  simp only at HQ ⊢
  obtain ⟨V1, hV1⟩ : ∃ V, V = w.alloc (.cells #[.float .f32 l, .float .f32 r, .float .f32 g, .slice pA pn c] 57) := ⟨_, rfl⟩
  obtain ⟨V2, hV2⟩ : ∃ V, V = V1.alloc (.cells #[.float .f32 l', .float .f32 r', .float .f32 g', .slice qA qn d] 57) := ⟨_, rfl⟩
  have z1 : V1.heap.size = w.heap.size + 1 := by rw [hV1]; simp
  have S2 : Hid (w.Since w.heap.size V2) := Lib.hid (by rw [hV2, hV1]; exact ((World.Since.refl _ _).alloc (Nat.le_refl _) _).alloc (by simp) _)
  have HV1 := Lib.hid hV1; have HV2 := Lib.hid hV2
  clear hV1 hV2 z1
  go_enter Try.func44, Try.ntmps44
  go_wp2_with (first | (with_reducible_and_instances refine Lo.wpList_wi _ rfl _ _ _ rfl _ _ rfl (by kernel_rfl) (by kernel_rfl) (by assumption) ?_; intro rr nn hrr) | (go_at_call 89; refine (sameFloat_any _ _ _ _ (by assumption : Hid _) (by assumption : Hid _)).mono ?_; rintro e w' ⟨rfl, n1, rfl⟩))
  rw [← HV1.out, ← HV2.out]
  refine (HQ.out _ (since_drewN S2.out _)).mono ?_
  rintro e v ⟨rfl, hs⟩
  have SS := Lib.hid (since_step (since_drewN S2.out _) hs)
  clear hs
  go_wp2
  go_ret
  exact ⟨rfl, SS.out⟩
set_option maxRecDepth 100000 in
theorem markLim_any (l r g : Nat) (A : Option Addr) (n : Nat) (xs : List Nat) (c k0 : Nat) (K : Int) (v : World) (B : Nat) (q : List En) (h : He B v (fe A n xs :: q)) (hB : B ≤ v.heap.size) (hn : n ≤ 1048576) (hk0 : k0 ≤ 1073741824) (hK : K = (k0 : Nat)) :
    Calls Try.prog 45 #[limV l r g A n c, .int .i64 K] v fun e v' => e = .returned (.int .i64 ((k0 + n : Nat) : Int)) ∧ He B v' (fe A n (mk k0 n) :: q) ∧ v.Since B v' := by
  obtain ⟨V, hV⟩ : ∃ V, V = v.alloc (.cells #[.float .f32 l, .float .f32 r, .float .f32 g, .slice A n c] 57) := ⟨_, rfl⟩
  have S1 : Hid (v.Since v.heap.size V) := Lib.hid (by rw [hV]; exact (World.Since.refl _ _).alloc (Nat.le_refl _) _)
  have HM := Lib.hid (markFE_any A n xs c k0 K V B q (h.since S1.out) hn hk0 hK)
  have HV := Lib.hid hV
  unfold limV
  clear h hV hK
  go_enter Try.func45, Try.ntmps45
  go_wp2_with fail
  rw [← HV.out]
  refine HM.out.mono ?_
  rintro e v' ⟨rfl, h1, h2⟩
  have H1 := Lib.hid h1; have H2 := Lib.hid h2
  clear h1 h2
  go_wp2
  go_ret
  exact ⟨rfl, H1.out, (since_mono S1.out hB).trans H2.out⟩
set_option maxRecDepth 100000 in
theorem heldLim_any (l r g : Nat) (A : Option Addr) (n c k0 : Nat) (K : Int) (v : World) (lo : Nat) (h : Ge lo v (fe A n (mk k0 n))) (hn : n ≤ 1048576) (hk0 : k0 ≤ 1073741824) (hK : K = (k0 : Nat)) :
    Calls Try.prog 46 #[limV l r g A n c, .int .i64 K] v fun e v' => e = .returned (.int .i64 ((k0 + n : Nat) : Int)) ∧ v.Since v.heap.size v' := by
  obtain ⟨V, hV⟩ : ∃ V, V = v.alloc (.cells #[.float .f32 l, .float .f32 r, .float .f32 g, .slice A n c] 57) := ⟨_, rfl⟩
  have S1 : Hid (v.Since v.heap.size V) := Lib.hid (by rw [hV]; exact (World.Since.refl _ _).alloc (Nat.le_refl _) _)
  have HM := Lib.hid (heldFE_any A n c k0 K V lo (h.since S1.out) hn hk0 hK)
  have HV := Lib.hid hV
  have hlt : decide (((k0 + n : Nat) : Int) < 0) = false := decide_eq_false (by omega)
  unfold limV
  clear h hV hK
  generalize k0 + n = kn at HM hlt ⊢
  go_enter Try.func46, Try.ntmps46
  go_wp2_with fail
  rw [← HV.out]
  refine HM.out.mono ?_
  rintro e v' ⟨rfl, rfl⟩
  go_wp2
  go_ret
  exact ⟨rfl, S1.out⟩
set_option maxHeartbeats 16000000 in
set_option maxRecDepth 100000 in
theorem lawNewLimiter_gen (l r : Nat) (x : Int) (n0 : Nat) (L R G : O) (b : Bool) (w : World) (hr0 : n0 ≤ 1048576)
    (hsp : ∀ v, Calls Try.prog 42 #[.float .f32 l, .float .f32 r, .int .i64 x] v (PLIM n0 L R G b v))
    (him : ∀ v, Calls Try.prog 43 #[.float .f32 l, .float .f32 r, .int .i64 x] v (PLIM n0 L R G b v)) :
    Calls Try.prog 10 #[.float .f32 l, .float .f32 r, .int .i64 x] w fun e w' => e = .returned (.bool true) ∧ w.Since w.heap.size w' := by
  have HSP := Lib.hid hsp; have HIM := Lib.hid him; clear hsp him
  have S : Hid (w.Since w.heap.size w) := Lib.hid (World.Since.refl _ _)
  have LV : Hid (He w.heap.size w []) := Lib.hid trivial
  go_enter Try.func10, Try.ntmps10
  go_wp2_with fail
  go_at_call 42
  refine (HSP.out _).mono ?_
  rintro e v1 ⟨p, pc, w0, w1, w2, rfl, hn, hg, ha, m0, m1, m2, hs⟩
  have LV' := Lib.hid (LV.out.new hs hg S.out.size); clear LV; have LV := LV'; clear LV'
  have S' := Lib.hid (since_step S.out hs); clear S; have S := S'; clear S'
  have Nw := Lib.hid hn; have Kw := Lib.hid ha; clear hn ha hg hs
  simp only [limV]
  go_wp2_with fail
  obtain ⟨v2, hV, hs, hg⟩ := boxw v1 57 [.float .f32 w0, .float .f32 w1, .float .f32 w2, .slice p.A p.n pc]
  rw [← hV]
  clear hV
  have LV' := Lib.hid (LV.out.new hs hg S.out.size); clear LV; have LV := LV'; clear LV'
  have S' := Lib.hid (since_step S.out hs); clear S; have S := S'; clear S'
  clear hs hg
  go_at_call 43
  refine (HIM.out _).mono ?_
  rintro e v3 ⟨q, qc, g0, g1, g2, rfl, hn, hg, ha, k0, k1, k2, hs⟩
  have LV' := Lib.hid (LV.out.new hs hg S.out.size); clear LV; have LV := LV'; clear LV'
  have S' := Lib.hid (since_step S.out hs); clear S; have S := S'; clear S'
  have Ng := Lib.hid hn; have Kg := Lib.hid ha; clear hn ha hg hs
  simp only [limV]
  have hA : v3.Since v3.heap.size (v3.alloc (.cells #[.float .f32 g0, .float .f32 g1, .float .f32 g2, .slice q.A q.n qc] 57)) := (World.Since.refl _ _).alloc (Nat.le_refl _) _
  have b0 : (v3.alloc (.cells #[.float .f32 g0, .float .f32 g1, .float .f32 g2, .slice q.A q.n qc] 57)).cell? ⟨v1.heap.size, 0, none⟩ = some (.float .f32 w0) := ((LV.out.2.1.1).since hA).boxv 0 _ rfl
  have b1 : (v3.alloc (.cells #[.float .f32 g0, .float .f32 g1, .float .f32 g2, .slice q.A q.n qc] 57)).cell? ⟨v1.heap.size, 1, none⟩ = some (.float .f32 w1) := ((LV.out.2.1.1).since hA).boxv 1 _ rfl
  have b2 : (v3.alloc (.cells #[.float .f32 g0, .float .f32 g1, .float .f32 g2, .slice q.A q.n qc] 57)).cell? ⟨v1.heap.size, 2, none⟩ = some (.float .f32 w2) := ((LV.out.2.1.1).since hA).boxv 2 _ rfl
  have b3 : (v3.alloc (.cells #[.float .f32 g0, .float .f32 g1, .float .f32 g2, .slice q.A q.n qc] 57)).cell? ⟨v1.heap.size, 3, none⟩ = some (.slice p.A p.n pc) := ((LV.out.2.1.1).since hA).boxv 3 _ rfl
  clear hA
  go_wp2_with fail
  clear b0 b1 b2 b3
  obtain ⟨v4, hV, hs, hg⟩ := boxw v3 57 [.float .f32 g0, .float .f32 g1, .float .f32 g2, .slice q.A q.n qc]
  rw [← hV]
  clear hV
  have LV' := Lib.hid (LV.out.new hs hg S.out.size); clear LV; have LV := LV'; clear LV'
  have S' := Lib.hid (since_step S.out hs); clear S; have S := S'; clear S'
  clear hs hg
  go_at_call 44
  refine (eqLim_any q p qc pc g0 g1 g2 w0 w1 w2 L R G _ v4 (LV.out.2.1.1).readF (LV.out.2.2.2.1.1).readF (by rw [Ng.out]; exact hr0) (Nw.out.trans Ng.out.symm) Kg.out Kw.out k0 k1 k2 m0 m1 m2).mono ?_
  rintro e v5 ⟨rfl, hs⟩
  have S' := Lib.hid (since_step S.out hs); clear S; have S := S'; clear S'
  have LV' := Lib.hid (LV.out.since hs); clear LV; have LV := LV'; clear LV'
  clear hs
  have b0 : v5.cell? ⟨v3.heap.size, 0, none⟩ = some (.float .f32 g0) := (LV.out.1.1).boxv 0 _ rfl
  have b1 : v5.cell? ⟨v3.heap.size, 1, none⟩ = some (.float .f32 g1) := (LV.out.1.1).boxv 1 _ rfl
  have b2 : v5.cell? ⟨v3.heap.size, 2, none⟩ = some (.float .f32 g2) := (LV.out.1.1).boxv 2 _ rfl
  have b3 : v5.cell? ⟨v3.heap.size, 3, none⟩ = some (.slice q.A q.n qc) := (LV.out.1.1).boxv 3 _ rfl
  go_wp2_with fail
  clear b0 b1 b2 b3
  go_at_call 45
  refine (markLim_any g0 g1 g2 q.A q.n q.xs qc 1 _ v5 _ _ (He.front [_] LV.out) S.out.size (by rw [Ng.out]; exact hr0) (by decide) (by first | rfl | omega)).mono ?_
  rintro e v6 ⟨rfl, hlv, hs⟩
  have LV' := Lib.hid hlv; clear LV hlv; have LV := LV'; clear LV'
  have S' := Lib.hid (since_mark S.out hs); clear S hs; have S := S'; clear S'
  have b0 : v6.cell? ⟨v3.heap.size, 0, none⟩ = some (.float .f32 g0) := (LV.out.2.1.1).boxv 0 _ rfl
  have b1 : v6.cell? ⟨v3.heap.size, 1, none⟩ = some (.float .f32 g1) := (LV.out.2.1.1).boxv 1 _ rfl
  have b2 : v6.cell? ⟨v3.heap.size, 2, none⟩ = some (.float .f32 g2) := (LV.out.2.1.1).boxv 2 _ rfl
  have b3 : v6.cell? ⟨v3.heap.size, 3, none⟩ = some (.slice q.A q.n qc) := (LV.out.2.1.1).boxv 3 _ rfl
  go_wp2_with fail
  clear b0 b1 b2 b3
  go_at_call 46
  refine (heldLim_any g0 g1 g2 q.A q.n qc 1 _ v6 _ (LV.out.1.1) (by rw [Ng.out]; exact hr0) (by decide) (by first | rfl | omega)).mono ?_
  rintro e v7 ⟨rfl, hs⟩
  have S' := Lib.hid (since_step S.out hs); clear S; have S := S'; clear S'
  have LV' := Lib.hid (LV.out.since hs); clear LV; have LV := LV'; clear LV'
  clear hs
  go_wp2_with fail
  go_at_call 43
  refine (HIM.out _).mono ?_
  rintro e v8 ⟨s, sc, h0, h1, h2, rfl, hn, hg, ha, j0, j1, j2, hs⟩
  have LV' := Lib.hid (LV.out.new hs hg S.out.size); clear LV; have LV := LV'; clear LV'
  have S' := Lib.hid (since_step S.out hs); clear S; have S := S'; clear S'
  have Nh := Lib.hid hn; have Kh := Lib.hid ha; clear hn ha hg hs
  simp only [limV]
  have hA : v8.Since v8.heap.size (v8.alloc (.cells #[.float .f32 h0, .float .f32 h1, .float .f32 h2, .slice s.A s.n sc] 57)) := (World.Since.refl _ _).alloc (Nat.le_refl _) _
  have b0 : (v8.alloc (.cells #[.float .f32 h0, .float .f32 h1, .float .f32 h2, .slice s.A s.n sc] 57)).cell? ⟨v1.heap.size, 0, none⟩ = some (.float .f32 w0) := ((LV.out.2.2.2.1.1).since hA).boxv 0 _ rfl
  have b1 : (v8.alloc (.cells #[.float .f32 h0, .float .f32 h1, .float .f32 h2, .slice s.A s.n sc] 57)).cell? ⟨v1.heap.size, 1, none⟩ = some (.float .f32 w1) := ((LV.out.2.2.2.1.1).since hA).boxv 1 _ rfl
  have b2 : (v8.alloc (.cells #[.float .f32 h0, .float .f32 h1, .float .f32 h2, .slice s.A s.n sc] 57)).cell? ⟨v1.heap.size, 2, none⟩ = some (.float .f32 w2) := ((LV.out.2.2.2.1.1).since hA).boxv 2 _ rfl
  have b3 : (v8.alloc (.cells #[.float .f32 h0, .float .f32 h1, .float .f32 h2, .slice s.A s.n sc] 57)).cell? ⟨v1.heap.size, 3, none⟩ = some (.slice p.A p.n pc) := ((LV.out.2.2.2.1.1).since hA).boxv 3 _ rfl
  clear hA
  go_wp2_with fail
  clear b0 b1 b2 b3
  obtain ⟨v9, hV, hs, hg⟩ := boxw v8 57 [.float .f32 h0, .float .f32 h1, .float .f32 h2, .slice s.A s.n sc]
  rw [← hV]
  clear hV
  have LV' := Lib.hid (LV.out.new hs hg S.out.size); clear LV; have LV := LV'; clear LV'
  have S' := Lib.hid (since_step S.out hs); clear S; have S := S'; clear S'
  clear hs hg
  go_at_call 44
  refine (eqLim_any s p sc pc h0 h1 h2 w0 w1 w2 L R G _ v9 (LV.out.2.1.1).readF (LV.out.2.2.2.2.2.1.1).readF (by rw [Nh.out]; exact hr0) (Nw.out.trans Nh.out.symm) Kh.out Kw.out j0 j1 j2 m0 m1 m2).mono ?_
  rintro e v10 ⟨rfl, hs⟩
  have S' := Lib.hid (since_step S.out hs); clear S; have S := S'; clear S'
  have LV' := Lib.hid (LV.out.since hs); clear LV; have LV := LV'; clear LV'
  clear hs
  have b0 : v10.cell? ⟨v3.heap.size, 0, none⟩ = some (.float .f32 g0) := (LV.out.2.2.2.1.1).boxv 0 _ rfl
  have b1 : v10.cell? ⟨v3.heap.size, 1, none⟩ = some (.float .f32 g1) := (LV.out.2.2.2.1.1).boxv 1 _ rfl
  have b2 : v10.cell? ⟨v3.heap.size, 2, none⟩ = some (.float .f32 g2) := (LV.out.2.2.2.1.1).boxv 2 _ rfl
  have b3 : v10.cell? ⟨v3.heap.size, 3, none⟩ = some (.slice q.A q.n qc) := (LV.out.2.2.2.1.1).boxv 3 _ rfl
  go_wp2_with fail
  clear b0 b1 b2 b3
  go_at_call 46
  refine (heldLim_any g0 g1 g2 q.A q.n qc 1 _ v10 _ (LV.out.2.2.1.1) (by rw [Ng.out]; exact hr0) (by decide) (by first | rfl | omega)).mono ?_
  rintro e v11 ⟨rfl, hs⟩
  have S' := Lib.hid (since_step S.out hs); clear S; have S := S'; clear S'
  clear hs LV
  go_wp2_with fail
  go_ret
  exact ⟨rfl, S.out⟩
theorem lawNewLimiter_any (l r : Nat) (x : Int) (w : World) (hl : l < 4294967296) (hr : r < 4294967296) (hx : (Lit.int .i64 x).wf = true) :
    Calls Try.prog 10 #[.float .f32 l, .float .f32 r, .int .i64 x] w fun e w' => e = .returned (.bool true) ∧ w.Since w.heap.size w' := by
  cases h : (limB l && inB x 0 64)
  · exact lawNewLimiter_gen l r x 0 _ _ _ false w (by omega) (fun v => specNewLim_no l r x v hl h) (fun v => implNewLim_no l r x v hl h)
  · have h1 : limB l = true := by simpa using (Bool.and_eq_true_iff.1 h).1
    have h2 : inB x 0 64 = true := (Bool.and_eq_true_iff.1 h).2
    have h3 : 0 ≤ x ∧ x ≤ 64 := by unfold inB at h2; simpa using h2
    obtain ⟨n, rfl⟩ : ∃ n : Nat, x = n := ⟨x.toNat, by omega⟩
    exact lawNewLimiter_gen l r n n _ _ _ true w (by omega) (fun v => specNewLim_ok l r n _ _ v hl (Lib.hid (fvs hl)) (Lib.hid (fvs hr)) h1 h2 (by omega)) (fun v => implNewLim_ok l r n _ _ v hl (Lib.hid (fvs hl)) (Lib.hid (fvs hr)) h1 h2 (by omega))
end Go.Proofs.Ytbgjmmncjmcjfaa
