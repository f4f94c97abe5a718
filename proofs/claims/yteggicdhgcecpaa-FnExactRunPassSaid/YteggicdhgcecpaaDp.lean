/- Lines of one kind: a pass. -/
import Derived.Test.YteggicdhgcecpaaDs
set_option linter.unusedVariables false
set_option linter.unusedSimpArgs false
namespace Go.Proofs.Yteggicdhgcecpaa
open Fl Go.RowKit
structure PasAt (w : World) (g : Nat) (d : PasN) : Prop where
  lt : g < w.heap.size
  l : w.cell? ⟨g, 0, none⟩ = some (.int .i64 d.l)
  g : w.cell? ⟨g, 1, none⟩ = some (.float .f32 d.g)
theorem PasAt.of2 {w w' : World} {g : Nat} {d : PasN} (h : PasAt w g d) (hs : g < w'.heap.size) (e : w'.heap[g]? = w.heap[g]?) : PasAt w' g d :=
  ⟨hs, (cell_of_block e _).trans h.l, (cell_of_block e _).trans h.g⟩
theorem PasAt.of {w w' : World} {g : Nat} {d : PasN} (h : PasAt w g d) (hs : w.heap.size ≤ w'.heap.size) (e : w'.heap[g]? = w.heap[g]?) : PasAt w' g d := h.of2 (Nat.lt_of_lt_of_le h.lt hs) e
theorem PasAt.on {w w' : World} {g b : Nat} {d : PasN} (h : PasAt w g d) (o : On b w w') (hn : g ≠ b) : PasAt w' g d := h.of o.1.size (o.2 g h.lt hn)
theorem PasAt.drewN {w : World} {g : Nat} {d : PasN} (h : PasAt w g d) (k : Nat) : PasAt (w.drewN k) g d := ⟨h.lt, h.l, h.g⟩
set_option maxHeartbeats 2000000 in
set_option maxRecDepth 100000 in
theorem specPass_any (d : PasN) (D : O) (gd g n c : Nat) (ys : List Nat) (L : Nat → O) (x : Nat) (X : O) (w : World) (lo : Nat) (hd : PasAt w gd d) (hD : Hid (Fv .f32 d.g D)) (hgd : gd ≠ g)
    (h : Gs 22 w lo (some ⟨g, 0, none⟩) n ys) (hL : Are' n ys L) (h0 : 0 < n) (hn : n ≤ 1048576) (hx : Hid (Fv .f32 x X)) :
    Calls Try.prog 39 #[.pointer (some ⟨gd, 0, none⟩), .slice (some ⟨g, 0, none⟩) n c, .float .f32 x] w fun e w' =>
      ∃ (r : Nat) (zs : List Nat), e = .returned (.float .f32 r) ∧ Hid (Fv .f32 r (pasY D X (L 0))) ∧ Gs 22 w' lo (some ⟨g, 0, none⟩) n zs ∧ Are' n zs (took n L (pasV D X (L 0))) ∧ On g w w' := by
  obtain ⟨dl, dg⟩ := d
  obtain ⟨hgl, hcl, hcg⟩ := hd
  simp only at hD hcl hcg
  have hb0 : w.cell? ⟨g, 0, none⟩ = some (.float .f32 (wd ys 0)) := by
    obtain ⟨g', cs, e, hg, hb, hc⟩ := h.2.2 h0
    injection e with e; injection e with e1 _ _; subst e1
    have h1 := hc 0 h0
    unfold fv at h1
    simp only [World.cell?, hb]
    simpa using h1
  have hbv : Hid (Fv .f32 (wd ys 0) (L 0)) := Lib.hid ⟨h.2.1.at_ 0, hL 0 h0⟩
  have HG := Lib.hid h
  have HL := Lib.hid hL
  clear h hL
  have HD : Hid (PasAt w gd ⟨dl, dg⟩) := Lib.hid ⟨hgl, hcl, hcg⟩
  go_enter Try.func39, Try.ntmps39
  go_wp2_with (first | (with_reducible_and_instances refine Lo.wpList_fo _ rfl _ _ _ _ _ rfl _ _ _ _ _ rfl rfl rfl (by assumption) (by assumption) ?_; intro rr nn hrr) | (go_at_call 57; refine (specTake_any g n c ys _ _ lo (HG.out.drewN _) h0 hn (by exact hrr.1)).mono ?_; have hv0 := Lib.hid hrr; rintro e w1 ⟨rfl, hg1, ho1⟩; have hd1 := (HD.out.drewN _).on ho1 hgd; have HG1 := Lib.hid hg1; have HO1 := Lib.hid ho1; clear hg1 ho1 hcl hcg; obtain ⟨hgl1, hcl1, hcg1⟩ := hd1; simp only at hcl1 hcg1))
  go_ret
  exact specDelay_end rfl hrr (HG1.out.drewN _) HG.out.1 h0 HL.out hv0.out (HO1.out.before _)
set_option maxHeartbeats 2000000 in
set_option maxRecDepth 100000 in
theorem throughPass_any (d : PasN) (D : O) (g n o : Nat) (f : Nat → Nat) (x : Nat) (X : O) (w : World) (hD : Hid (Fv .f32 d.g D)) (h : RingAt w g n o f) (ho : o < n) (hn : n ≤ 64) (hx : Hid (Fv .f32 x X)) :
    Calls Try.prog 41 #[d.val, .pointer (some ⟨g, 0, none⟩), .float .f32 x] w fun e w' => ∃ r v : Nat, e = .returned (.float .f32 r) ∧ Hid (Fv .f32 r (pasY D X (ab .f32 (f o)))) ∧ Hid (Fv .f32 v (pasV D X (ab .f32 (f o)))) ∧ RingAt w' g n ((o + 1) % n) (fun i => if i = o then v else f i) ∧ On g w w' := by
  have hgl := h.lt
  have hbv : Hid (Fv .f32 (f o) (ab .f32 (f o))) := Lib.hid ⟨h.small o (by omega), rfl⟩
  obtain ⟨dl, dg⟩ := d
  simp only at hD
  have HR : Hid (RingAt (w.alloc (.cells #[.int .i64 dl, .float .f32 dg] 37)) g n o f) := Lib.hid (h.since ((World.Since.refl _ _).alloc (Nat.le_refl _) _) hgl)
  clear h
  unfold PasN.val
  go_enter Try.func41, Try.ntmps41
  go_wp2_with (first | (with_reducible_and_instances refine Lo.wpList_fo _ rfl _ _ _ _ _ rfl _ _ _ _ _ rfl rfl rfl (by assumption) (by assumption) ?_; intro rr nn hrr) | (go_at_call 62; refine (oldest_any g n o f _ HR.out (by omega)).mono ?_; rintro e w' ⟨rfl, m, rfl⟩) | (go_at_call 64; refine (take_any g n o _ f _ (HR.out.drewN _) ho hn (by exact hrr.1)).mono ?_; have hv0 := Lib.hid hrr; rintro e w1 ⟨rfl, hr1, ho1⟩; have HR1 := Lib.hid hr1; have HO1 := Lib.hid ho1; obtain ⟨hc1, hf1⟩ := on_cells ho1 (b := w.heap.size) (by simp) (by omega); clear hr1 ho1))
  go_ret
  exact ⟨_, _, rfl, hrr, hv0.out, HR1.out.drewN _, ((On.refl g w).alloc (by omega) _).trans (HO1.out.before _)⟩
def Sp (D : O) (n : Nat) (xs ys : List Nat) : Nat → O := Ln.st (n - 1) (fun j => ab .f32 (wd xs j)) (pasV D) (fun j => ab .f32 (wd ys j))
theorem Sp_old {D : O} {n : Nat} {xs ys : List Nat} {j : Nat} (h : j < n) : Sp D n xs ys j = ab .f32 (wd xs j) := Ln.st_old (by omega)
theorem Sp_new {D : O} {n : Nat} {xs ys : List Nat} (hn : 0 < n) (k : Nat) : Sp D n xs ys (k + n) = pasV D (ab .f32 (wd ys k)) (Sp D n xs ys k) := by
  have := Ln.st_new (n := n - 1) (l := fun j => ab .f32 (wd xs j)) (v := pasV D) (x := fun j => ab .f32 (wd ys j)) k
  rw [show n - 1 + 1 + k = k + n by omega] at this
  exact this
set_option maxHeartbeats 4000000 in
set_option maxRecDepth 100000 in
theorem specRunPass_ok (d : PasN) (D : O) (A : Option Addr) (n c : Nat) (xs : List Nat) (B : Option Addr) (m c2 : Nat) (ys : List Nat) (w : World) (hD : Hid (Fv .f32 d.g D)) (hl : d.l = (n : Int)) (h1 : 1 ≤ n) (h2 : n ≤ 64) (hm : m ≤ 256)
    (hA : Fs w w.heap.size A n xs) (hB : Fs w w.heap.size B m ys) :
    Calls Try.prog 17 #[d.val, .slice A n c, .slice B m c2] w (PLLB m (fun k => pasY D (ab .f32 (wd ys k)) (Sp D n xs ys k)) n (fun i => Sp D n xs ys (m + i)) true w) := by
  obtain ⟨dl, dg⟩ := d
  simp only at hl
  subst hl
  have hok : okLen (n : Int) = true := by unfold okLen; simp; omega
  have hfew : decide ((m : Int) ≤ 256) = true := decide_eq_true (by omega)
  have HA := Lib.hid hA; have HB := Lib.hid hB; have HDD := hD
  obtain ⟨i0, hi, hz0, hz1, hz2⟩ := info_parts Try.infoF
  clear hA hB hD
  unfold PasN.val
  go_enter Try.func17, Try.ntmps17
  go_wp2_with (first | (go_at_call 32; refine (specLen_b _ _ _ hok).mono ?_; rintro e w' ⟨rfl, rfl⟩) | (go_at_call 33; refine (specFew_any _ _ _ _ _ hfew).mono ?_; rintro e w' ⟨rfl, rfl⟩) | (go_at_call 34; refine (specOwn_any A n c xs _ (HA.out.now ((World.Since.refl _ _).alloc (Nat.le_refl _) _)) h1 (by omega)).mono ?_; rintro e w1 ⟨g1, c1, rfl, hg1, hlo1, hhi1, hs1⟩; have hd1 : PasAt w1 w.heap.size ⟨(n : Int), dg⟩ := ⟨Nat.lt_of_lt_of_le (by simp) hs1.size, (hs1.cell (a := ⟨w.heap.size, 0, none⟩) (by simp)).trans (by simp [go_sem]), (hs1.cell (a := ⟨w.heap.size, 1, none⟩) (by simp)).trans (by simp [go_sem])⟩; have HD1 := Lib.hid hd1; have HG1 := Lib.hid hg1; have HS1 := Lib.hid hs1; clear hg1 hs1 hd1))
  have hlo : w.heap.size < g1 := by simp at hlo1; omega
  clear hlo1
  have S1 : Hid (w.Since w.heap.size w1) := Lib.hid (((World.Since.refl _ _).alloc (Nat.le_refl _) _).trans (since_mono HS1.out (by simp)))
  go_loopw [10, 11] (fun v i wr => ∃ (k c' : Nat) (A' : Option Addr) (os zs : List Nat), k ≤ m ∧ i = .int .i64 k ∧ v = .slice A' k c' ∧ wr.ownsRow w1.heap.size 22 1 (.slice A' k c') k (fvl os) ∧ Small os ∧ (∀ j, j < k → ab .f32 (wd os j) = pasY D (ab .f32 (wd ys j)) (Sp D n xs ys j)) ∧ Gs 22 wr w.heap.size (some ⟨g1, 0, none⟩) n zs ∧ Are' n zs (fun i => Sp D n xs ys (k + i)) ∧ PasAt wr w.heap.size ⟨(n : Int), dg⟩ ∧ w.Since w.heap.size wr ∧ w1.heap.size ≤ wr.heap.size) (fun _ i _ => m - (intOf i).toNat)
  case atStart =>
    have sa : w1.Since w1.heap.size (w1.alloc (.cells #[] 22)) := (World.Since.refl _ _).alloc (Nat.le_refl _) _
    refine ⟨0, 0, _, [], xs, Nat.zero_le _, rfl, rfl, ⟨rfl, .inr ⟨w1.heap.size, 0, #[], rfl, Nat.le_refl _, Go.Deep.blk_alloc_new _ _, Nat.le_refl _, Nat.zero_le _, rfl, rfl⟩⟩, (fun x hx => by cases hx), (fun j hj => by omega), (HG1.out.less (by simp)).since sa, fun i hi => ?_, HD1.out.of (by simp) (sa.block _ HD1.out.lt), since_step S1.out sa, by simp⟩
    show _ = Sp D n xs ys (0 + i)
    rw [Nat.zero_add]; exact (Sp_old hi).symm
  case round =>
    obtain ⟨k, c', A', os, zs, hk, rfl, rfl, hown, hsm, hv, hgs, har, hda, hs, hbz⟩ := hrel
    have HO := Lib.hid hown; have HM := Lib.hid hsm; have HV := Lib.hid hv; have HGZ := Lib.hid hgs; have HAR := Lib.hid har; have HDA := Lib.hid hda; have HS := Lib.hid hs
    clear hown hsm hv hgs har hda hs
    by_cases hlt : k < m
    · obtain ⟨g, off, rfl, hg, hc⟩ := HB.out.2.2 (by omega)
      have hcell : wr.cell? ⟨g, off + k, none⟩ = some (.float .f32 (wd ys k)) := (HS.out.cell (a := ⟨g, off + k, none⟩) hg).trans (hc k hlt)
      have hx : Hid (Fv .f32 (wd ys k) (ab .f32 (wd ys k))) := Lib.hid ⟨HB.out.2.1.at_ k, rfl⟩
      clear hc
      go_wp2_with (first | (go_at_call 39; refine (specPass_any ⟨(n : Int), dg⟩ D w.heap.size g1 n c1 zs (fun i => Sp D n xs ys (k + i)) _ (ab .f32 (wd ys k)) wr w.heap.size HDA.out HDD (by omega) HGZ.out HAR.out h1 (by omega) hx).mono ?_; rintro e w2 ⟨r, zs2, rfl, hr2, hg2, ha2, ho2⟩; have HR2 := Lib.hid hr2; have HG2 := Lib.hid hg2; have HA2 := Lib.hid ha2; have HO2 := Lib.hid ho2; clear hr2 hg2 ha2 ho2) | (at_builtin; refine wpList_append_own _ rfl (.tmp 37) (.tmp 44) 25 rfl w1.heap.size 22 i0 (.float .f32 0) 1 4 Try.underlying25 hi hz0 hz1 hz2 rfl (by omega) (.slice A' k c') k (fvl os) rfl ((own_on HO.out HO2.out hhi1).alloc _) ⟨w2.heap.size, 0, none⟩ 1 1 [.float .f32 r] rfl rfl ?c1 ?c2 ?c3 ?c4 ?c5 ?_))
      case c1 => exact one_new w2 _ _ 0
      case c2 => intro u hu; simp at hu; subst hu; rfl
      case c3 => unfold maxLen; omega
      case c4 => omega
      case c5 => have := HO2.out.1.size; simp; omega
      intro v' w3 hown3 hgrow3 _
      have hz2' := HO2.out.1.size
      have hS3 : w2.Since w1.heap.size w3 := ((World.Since.refl _ _).alloc (by omega) _).grown hgrow3 (by simp; omega) (own_lo HO.out)
      obtain ⟨g', cap', rfl⟩ := own_form hown3 (by omega)
      rw [fvl_snoc] at hown3
      have HO3 := Lib.hid hown3
      have HS3 := Lib.hid hS3
      clear hown3 hgrow3 hS3
      go_wp2
      go_roundw
      case rel =>
        refine ⟨k + 1, cap', _, os ++ [r], zs2, by omega, by go_num, rfl, HO3.out, HM.out.snoc HR2.out.out.1, fun j hj => ?_, Gs.under HG2.out HS3.out hhi1, fun i hi => (HA2.out i hi).trans (took_step (Sp_new h1 k) i hi), (HDA.out.on HO2.out (by omega)).of HS3.out.size (HS3.out.block _ (by omega)), since_mono_trans HS.out HO2.out HS3.out (by omega) (by omega), Nat.le_trans (by omega) HS3.out.size⟩
        have hyl : os.length = k := by simpa [fvl] using HO.out.1
        rw [wd_snoc hyl]
        by_cases e : j < k
        · rw [if_pos e]; exact HV.out j e
        · obtain rfl : j = k := by omega
          rw [if_neg e, if_pos rfl]; exact HR2.out.out.2
      case measure => simp [intOf]; omega
    · obtain rfl : k = m := by omega
      go_wp2
      go_ret3
      have hq := Gs.of_own HO.out HM.out
      refine ⟨⟨A', k, os⟩, ⟨some ⟨g1, 0, none⟩, n, zs⟩, c', c1, rfl, rfl, rfl, hq.less (by have := S1.out.size; omega), HGZ.out, HV.out, HAR.out, fun hp hq2 a o s o' s' e e' => ?_, HS.out⟩
      obtain ⟨b, e1, h3, h4⟩ := hq.block hp
      simp only at e e' e1
      rw [e1] at e
      injection e with e; injection e with e _ _
      injection e' with e'; injection e' with e' _ _
      omega
/-- what stands when k samples have gone through a ring -/
def RunP (d : PasN) (S : Nat → O) (F : FuncId) (n g b5 b6 b13 k : Nat) (W : World) : Prop :=
  ∃ f, RingAt W g n (k % n) f ∧ (∀ j, j < n → ab .f32 (f j) = S (Ln.ix n k j)) ∧ PasAt W b5 d ∧ W.cell? ⟨b6, 0, none⟩ = some (.func (.func F) #[] #[]) ∧ W.cell? ⟨b13, 0, none⟩ = some (.pointer (some ⟨g, 0, none⟩))
set_option maxHeartbeats 2000000 in
set_option maxRecDepth 100000 in
theorem closPass_any (d : PasN) (D : O) (g n k b5 b6 b13 : Nat) (x : Nat) (S : Nat → O) (w : World) (hD : Hid (Fv .f32 d.g D)) (hn0 : 0 < n) (hn : n ≤ 64) (hx : x < 4294967296) (h : RunP d S 41 n g b5 b6 b13 k w)
    (hS : S (k + n) = pasV D (ab .f32 x) (S k)) (h5 : b5 ≠ g) (h6 : b6 ≠ g) (h13 : b13 ≠ g) (l6 : b6 < w.heap.size) (l13 : b13 < w.heap.size) :
    Calls Try.prog 65 #[.float .f32 x, .pointer (some ⟨b6, 0, none⟩), .pointer (some ⟨b5, 0, none⟩), .pointer (some ⟨b13, 0, none⟩)] w
      fun e w' => ∃ r, e = .returned (.float .f32 r) ∧ Hid (Fv .f32 r (pasY D (ab .f32 x) (S k))) ∧ RunP d S 41 n g b5 b6 b13 (k + 1) w' ∧ On g w w' := by
  obtain ⟨f, hr, hf, hd, hc6, hc13⟩ := h
  have ho : k % n < n := Nat.mod_lt _ hn0
  have hX : Hid (Fv .f32 x (ab .f32 x)) := Lib.hid ⟨hx, rfl⟩
  have hold : ab .f32 (f (k % n)) = S k := by rw [hf _ ho, Ln.ix_old hn0]
  have HR := Lib.hid hr; have HF := Lib.hid hf; have HD := Lib.hid hd; have HDD := hD; have HS := Lib.hid hS; have HO := Lib.hid hold
  clear hr hf hd hD hS hold
  have HC6 := Lib.hid hc6; have HC13 := Lib.hid hc13
  obtain ⟨dl, dg⟩ := d
  have hgl := HD.out.lt
  have hc0 := HD.out.l; have hc1 := HD.out.g
  simp only at hc0 hc1
  go_enter Try.func65, Try.ntmps65
  go_wp2_with fail
  refine (throughPass_any ⟨dl, dg⟩ D g n (k % n) f x (ab .f32 x) _ HDD HR.out ho hn hX).mono ?_
  rintro e w1 ⟨r, v, rfl, hr, hv, hring, hon⟩
  have HRR := Lib.hid hr; have HV := Lib.hid hv; have HRG := Lib.hid hring; have HON := Lib.hid hon
  clear hr hv hring hon hc0 hc1 hc6 hc13
  go_wp2
  go_ret
  have o1 : On g w w1 := HON.out
  rw [HO.out] at HRR HV
  refine ⟨r, rfl, HRR.out, ⟨_, by rw [← Ln.mod_step hn0]; exact HRG.out, fun j hj => ?_, (HD.out.on HON.out h5), ?_, ?_⟩, HON.out⟩
  · rw [Ln.ix_step hj]
    by_cases e : j = k % n
    · rw [if_pos e, if_pos e, HS.out]; exact HV.out.out.2
    · rw [if_neg e, if_neg e]; exact HF.out j hj
  · exact (cell_of_block (o1.2 _ l6 h6) 0).trans HC6.out
  · exact (cell_of_block (o1.2 _ l13 h13) 0).trans HC13.out
set_option maxHeartbeats 4000000 in
set_option maxRecDepth 100000 in
theorem runLinePass_ok (d : PasN) (D : O) (A : Option Addr) (n c : Nat) (xs : List Nat) (B : Option Addr) (m c2 : Nat) (ys : List Nat) (w : World) (hD : Hid (Fv .f32 d.g D)) (hl : d.l = (n : Int)) (h1 : 1 ≤ n) (h2 : n ≤ 64) (hm : m ≤ 256)
    (hA : Fs w w.heap.size A n xs) (hB : Fs w w.heap.size B m ys) :
    Calls Try.prog 40 #[d.val, .func (.func 41) #[] #[], .int .i64 n, .slice A n c, .slice B m c2] w (PLLB m (fun k => pasY D (ab .f32 (wd ys k)) (Sp D n xs ys k)) n (fun i => Sp D n xs ys (m + i)) true w) := by
  obtain ⟨dl, dg⟩ := d
  simp only at hl
  subst hl
  have hok : (okLen (n : Int) && decide ((n : Int) = (n : Int))) = true := by unfold okLen; simp; omega
  have hfew : decide ((m : Int) ≤ 256) = true := decide_eq_true (by omega)
  have HA := Lib.hid hA; have HB := Lib.hid hB; have HDD := hD
  clear hA hB hD
  simp only [PasN.val]
  obtain ⟨W1, hW1⟩ : ∃ W, W = w.alloc (.cells #[.int .i64 (n : Int), .float .f32 dg] 37) := ⟨_, rfl⟩
  obtain ⟨W2, hW2⟩ : ∃ W, W = W1.alloc (.cells #[.func (.func 41) #[] #[]] 67) := ⟨_, rfl⟩
  have z1 : W1.heap.size = w.heap.size + 1 := by rw [hW1]; simp
  have z2 : W2.heap.size = w.heap.size + 2 := by rw [hW2]; simp [z1]
  have S1 : Hid (w.Since w.heap.size W1) := Lib.hid (by rw [hW1]; exact (World.Since.refl _ _).alloc (Nat.le_refl _) _)
  have S2 : Hid (W1.Since W1.heap.size W2) := Lib.hid (by rw [hW2]; exact (World.Since.refl _ _).alloc (Nat.le_refl _) _)
  have D1 : Hid (PasAt W1 w.heap.size ⟨(n : Int), dg⟩) := Lib.hid ⟨by omega, by rw [hW1]; simp [go_sem], by rw [hW1]; simp [go_sem]⟩
  have D2 : Hid (PasAt W2 w.heap.size ⟨(n : Int), dg⟩) := Lib.hid (D1.out.of (by omega) (S2.out.block _ (by omega)))
  have C2 : Hid (W2.cell? ⟨W1.heap.size, 0, none⟩ = some (.func (.func 41) #[] #[])) := Lib.hid (by rw [hW2]; simp [go_sem])
  go_enter Try.func40, Try.ntmps40
  go_wp2_with (first | (go_at_call 58; refine (implIsLineOf_b _ _ _ _ _ _ hok).mono ?_; rintro e w' ⟨rfl, rfl⟩) | (go_at_call 43; refine (implSamples_b _ _ _ _ _ hfew).mono ?_; rintro e w' ⟨rfl, rfl⟩) | fail)
  rw [← hW1, ← hW2]
  rw [z1] at C2
  refine (ringOf_any A n c xs W2 ((HA.out.now S1.out).now S2.out) h1 h2).mono ?_
  rintro e w3 ⟨rfl, hr3, hs3⟩
  have R3 := Lib.hid hr3; have S3 := Lib.hid hs3
  clear hr3 hs3
  have z3 : w.heap.size + 2 < w3.heap.size := by have := R3.out.lt; omega
  rw [z2] at R3 S3 ⊢
  go_wp2_with fail
  generalize hw4 : World.alloc _ _ = w4
  have S4 : Hid (w3.Since w3.heap.size w4) := Lib.hid (by rw [← hw4]; exact (World.Since.refl _ _).alloc (Nat.le_refl _) _)
  have C4 : Hid (w4.cell? ⟨w3.heap.size, 0, none⟩ = some (.pointer (some ⟨w.heap.size + 2, 0, none⟩))) := Lib.hid (by rw [← hw4]; simp [go_sem])
  have z4 : w4.heap.size = w3.heap.size + 1 := by rw [← hw4]; simp
  clear hw4
  have R4 : Hid (RingAt w4 (w.heap.size + 2) n 0 (fun j => wd xs j)) := Lib.hid (R3.out.since S4.out z3)
  have D4 : Hid (PasAt w4 w.heap.size ⟨(n : Int), dg⟩) := Lib.hid ((D2.out.of S3.out.size (S3.out.block _ (by omega))).of S4.out.size (S4.out.block _ (by omega)))
  have C6 : Hid (w4.cell? ⟨w.heap.size + 1, 0, none⟩ = some (.func (.func 41) #[] #[])) := Lib.hid (((S4.out.cell (a := ⟨w.heap.size + 1, 0, none⟩) (by simp; omega)).trans (S3.out.cell (a := ⟨w.heap.size + 1, 0, none⟩) (by simp))).trans C2.out)
  have SW : Hid (w.Since w.heap.size w4) := Lib.hid (since_step (since_step (since_step S1.out S2.out) (by rw [z2]; exact S3.out)) S4.out)
  have B4 : Hid (Fs w4 (w.heap.size + 2) B m ys) := Lib.hid ((HB.out.since SW.out).more (by omega))
  refine (results_any B m c2 ys 65 #[.pointer (some ⟨w.heap.size + 1, 0, none⟩), .pointer (some ⟨w.heap.size, 0, none⟩), .pointer (some ⟨w3.heap.size, 0, none⟩)] (w.heap.size + 2) (RunP ⟨(n : Int), dg⟩ (Sp D n xs ys) 41 n (w.heap.size + 2) w.heap.size (w.heap.size + 1) w3.heap.size) (fun k => pasY D (ab .f32 (wd ys k)) (Sp D n xs ys k)) w4 B4.out (by omega) hm (fun _ _ => rfl) ?hI ?hst ?h0).mono ?_
  case hI =>
    rintro k W W' ⟨f, ha, hb, hc, hd, he⟩ hs1 hs2 hbl
    exact ⟨f, ha.of (hbl _ (by omega)), hb, hc.of2 (by omega) (hbl _ (by omega)), (cell_of_block (hbl _ (by omega)) 0).trans hd, (cell_of_block (hbl _ (by omega)) 0).trans he⟩
  case hst =>
    rintro k q W hk rfl hi hs
    exact closPass_any _ D _ n k _ _ _ _ (Sp D n xs ys) W HDD h1 h2 (B4.out.2.1.at_ k) hi (Sp_new h1 k) (by omega) (by omega) (by omega) (by omega) (by omega)
  case h0 => exact ⟨_, by rw [Nat.zero_mod]; exact R4.out, fun j hj => by rw [Ln.ix_zero hj]; exact (Sp_old hj).symm, D4.out, C6.out, C4.out⟩
  rintro e w5 ⟨os, rfl, hgs, har, ⟨f5, hr5, hf5, hd5, hc5, hc13⟩, ho5⟩
  have G5 := Lib.hid hgs; have A5 := Lib.hid har; have R5 := Lib.hid hr5; have F5 := Lib.hid hf5; have O5 := Lib.hid ho5
  clear hgs har hr5 hf5 hd5 hc5 ho5
  have z5 : w4.heap.size ≤ w5.heap.size := O5.out.1.size
  go_wp2_with (go_at_call 61; refine (line_any _ n _ f5 w5 R5.out (Nat.mod_lt _ h1) h2).mono ?_; rintro e w6 ⟨ls, rfl, hg6, hl6, hs6⟩; have G6 := Lib.hid hg6; have L6 := Lib.hid hl6; have S6 := Lib.hid hs6; clear hg6 hl6 hs6)
  go_ret3
  rw [← z4]
  have SZ : w.Since w.heap.size w6 := since_step (SW.out.trans (O5.out.since (by omega))) S6.out
  refine ⟨⟨some ⟨w4.heap.size, 0, none⟩, m, os⟩, ⟨some ⟨w5.heap.size, 0, none⟩, n, ls⟩, m, n, rfl, rfl, rfl, (G5.out.since S6.out).less (by omega), G6.out.less (by omega), A5.out, fun i hi => ?_, fun hp _ a o s o' s' e e' => ?_, SZ⟩
  · show ab .f32 (wd ls i) = _
    rw [L6.out i hi, F5.out _ (Nat.mod_lt _ h1), Ln.ix_at hi]
  · obtain ⟨b, e1, h3, h4⟩ := G5.out.block hp
    injection e1 with e1; injection e1 with e1 _ _
    injection e with e; injection e with e _ _
    injection e' with e'; injection e' with e' _ _
    omega
set_option maxHeartbeats 4000000 in
set_option maxRecDepth 100000 in
theorem implRunPass_ok (d : PasN) (D : O) (A : Option Addr) (n c : Nat) (xs : List Nat) (B : Option Addr) (m c2 : Nat) (ys : List Nat) (w : World) (hD : Hid (Fv .f32 d.g D)) (hl : d.l = (n : Int)) (h1 : 1 ≤ n) (h2 : n ≤ 64) (hm : m ≤ 256)
    (hA : Fs w w.heap.size A n xs) (hB : Fs w w.heap.size B m ys) :
    Calls Try.prog 19 #[d.val, .slice A n c, .slice B m c2] w (PLLB m (fun k => pasY D (ab .f32 (wd ys k)) (Sp D n xs ys k)) n (fun i => Sp D n xs ys (m + i)) true w) := by
  obtain ⟨dl, dg⟩ := d
  simp only at hl
  subst hl
  have HA := Lib.hid hA; have HB := Lib.hid hB; have HDD := hD
  clear hA hB hD
  simp only [PasN.val]
  obtain ⟨W1, hW1⟩ : ∃ W, W = w.alloc (.cells #[.int .i64 (n : Int), .float .f32 dg] 37) := ⟨_, rfl⟩
  have S1 : Hid (w.Since w.heap.size W1) := Lib.hid (by rw [hW1]; exact (World.Since.refl _ _).alloc (Nat.le_refl _) _)
  go_enter Try.func19, Try.ntmps19
  go_wp2_with fail
  rw [← hW1]
  refine (runLinePass_ok ⟨(n : Int), dg⟩ D A n c xs B m c2 ys W1 HDD rfl h1 h2 hm (HA.out.now S1.out) (HB.out.now S1.out)).mono ?_
  rintro e w2 hp
  have hp2 := PLLB.up S1.out hp
  obtain ⟨p, q, c', d', rfl, hr⟩ := hp2
  have HR := Lib.hid hr
  clear hr hp
  go_wp2
  go_ret3
  exact ⟨p, q, c', d', rfl, HR.out⟩
set_option maxHeartbeats 1000000 in
set_option maxRecDepth 100000 in
theorem specRunPass_no (d : PasN) (A : Option Addr) (n c : Nat) (B : Option Addr) (m c2 : Nat) (w : World) (f0 f1 : Nat → Option Nat) (h : (okLen d.l && (decide ((n : Int) = d.l) && decide ((m : Int) ≤ 256))) = false) :
    Calls Try.prog 17 #[d.val, .slice A n c, .slice B m c2] w (PLLB 0 f0 0 f1 false w) := by
  obtain ⟨dl, dg⟩ := d
  simp only at h
  simp only [PasN.val]
  cases h1 : okLen dl
  · go_enter Try.func17, Try.ntmps17
    go_wp2_with (first | (go_at_call 32; refine (specLen_b _ _ _ h1).mono ?_; rintro e w' ⟨rfl, rfl⟩))
    go_ret3
    exact PLLB.none_ (by (repeat (first | (with_reducible refine Fl.sinDrew ?_) | (with_reducible refine World.Since.drew ?_) | (with_reducible refine Fl.sinSet ?_ ?_; rotate_left) | (with_reducible refine Fl.sinAlloc ?_ ?_; rotate_left) | with_reducible exact World.Since.refl _ _ | with_reducible assumption | (with_reducible refine Fl.sinStep (by with_reducible assumption) ?_))); all_goals (first | omega | (simp; done) | (simp; omega) | (simp [go_sem]; done) | (simp [go_sem]; omega))) _ _
  · by_cases h2 : (n : Int) = dl
    · have h3 : decide ((m : Int) ≤ 256) = false := by simpa [h1, h2] using h
      subst h2
      go_enter Try.func17, Try.ntmps17
      go_wp2_with (first | (go_at_call 32; refine (specLen_b _ _ _ h1).mono ?_; rintro e w' ⟨rfl, rfl⟩) | (go_at_call 33; refine (specFew_any _ _ _ _ _ h3).mono ?_; rintro e w' ⟨rfl, rfl⟩))
      go_ret3
      exact PLLB.none_ (by (repeat (first | (with_reducible refine Fl.sinDrew ?_) | (with_reducible refine World.Since.drew ?_) | (with_reducible refine Fl.sinSet ?_ ?_; rotate_left) | (with_reducible refine Fl.sinAlloc ?_ ?_; rotate_left) | with_reducible exact World.Since.refl _ _ | with_reducible assumption | (with_reducible refine Fl.sinStep (by with_reducible assumption) ?_))); all_goals (first | omega | (simp; done) | (simp; omega) | (simp [go_sem]; done) | (simp [go_sem]; omega))) _ _
    · have h4 : ((n : Int) == dl) = false := by simpa using h2
      go_enter Try.func17, Try.ntmps17
      go_wp2_with (first | (go_at_call 32; refine (specLen_b _ _ _ h1).mono ?_; rintro e w' ⟨rfl, rfl⟩) | (go_at_call 33; refine (specFew_any _ _ _ _ _ h3).mono ?_; rintro e w' ⟨rfl, rfl⟩))
      go_ret3
      exact PLLB.none_ (by (repeat (first | (with_reducible refine Fl.sinDrew ?_) | (with_reducible refine World.Since.drew ?_) | (with_reducible refine Fl.sinSet ?_ ?_; rotate_left) | (with_reducible refine Fl.sinAlloc ?_ ?_; rotate_left) | with_reducible exact World.Since.refl _ _ | with_reducible assumption | (with_reducible refine Fl.sinStep (by with_reducible assumption) ?_))); all_goals (first | omega | (simp; done) | (simp; omega) | (simp [go_sem]; done) | (simp [go_sem]; omega))) _ _
set_option maxHeartbeats 1000000 in
set_option maxRecDepth 100000 in
theorem implRunPass_no (d : PasN) (A : Option Addr) (n c : Nat) (B : Option Addr) (m c2 : Nat) (w : World) (f0 f1 : Nat → Option Nat) (h : (okLen d.l && (decide ((n : Int) = d.l) && decide ((m : Int) ≤ 256))) = false) :
    Calls Try.prog 19 #[d.val, .slice A n c, .slice B m c2] w (PLLB 0 f0 0 f1 false w) := by
  obtain ⟨dl, dg⟩ := d
  simp only at h
  simp only [PasN.val]
  obtain ⟨W1, hW1⟩ : ∃ W, W = w.alloc (.cells #[.int .i64 dl, .float .f32 dg] 37) := ⟨_, rfl⟩
  have S1 : Hid (w.Since w.heap.size W1) := Lib.hid (by rw [hW1]; exact (World.Since.refl _ _).alloc (Nat.le_refl _) _)
  go_enter Try.func19, Try.ntmps19
  go_wp2_with fail
  rw [← hW1]
  have key : Calls Try.prog 40 #[PasN.val ⟨dl, dg⟩, .func (.func 41) #[] #[], .int .i64 dl, .slice A n c, .slice B m c2] W1 (PLLB 0 f0 0 f1 false W1) := by
    clear hW1 S1
    simp only [PasN.val]
    cases h1 : (okLen (n : Int) && decide ((n : Int) = dl))
    · go_enter Try.func40, Try.ntmps40
      go_wp2_with (first | (go_at_call 58; refine (implIsLineOf_b _ _ _ _ _ _ h1).mono ?_; rintro e w' ⟨rfl, rfl⟩))
      go_ret3
      exact PLLB.none_ (by (repeat (first | (with_reducible refine Fl.sinDrew ?_) | (with_reducible refine World.Since.drew ?_) | (with_reducible refine Fl.sinSet ?_ ?_; rotate_left) | (with_reducible refine Fl.sinAlloc ?_ ?_; rotate_left) | with_reducible exact World.Since.refl _ _ | with_reducible assumption | (with_reducible refine Fl.sinStep (by with_reducible assumption) ?_))); all_goals (first | omega | (simp; done) | (simp; omega) | (simp [go_sem]; done) | (simp [go_sem]; omega))) _ _
    · have h3 : decide ((m : Int) ≤ 256) = false := by
        simp only [Bool.and_eq_true, decide_eq_true_eq] at h1
        rw [← h1.2] at h
        simpa [h1.1] using h
      go_enter Try.func40, Try.ntmps40
      go_wp2_with (first | (go_at_call 58; refine (implIsLineOf_b _ _ _ _ _ _ h1).mono ?_; rintro e w' ⟨rfl, rfl⟩) | (go_at_call 43; refine (implSamples_b _ _ _ _ _ h3).mono ?_; rintro e w' ⟨rfl, rfl⟩))
      go_ret3
      exact PLLB.none_ (by (repeat (first | (with_reducible refine Fl.sinDrew ?_) | (with_reducible refine World.Since.drew ?_) | (with_reducible refine Fl.sinSet ?_ ?_; rotate_left) | (with_reducible refine Fl.sinAlloc ?_ ?_; rotate_left) | with_reducible exact World.Since.refl _ _ | with_reducible assumption | (with_reducible refine Fl.sinStep (by with_reducible assumption) ?_))); all_goals (first | omega | (simp; done) | (simp; omega) | (simp [go_sem]; done) | (simp [go_sem]; omega))) _ _
  refine Calls.mono key ?_
  rintro e w2 hp
  have hp2 := PLLB.up S1.out hp
  obtain ⟨p, q, c', d', rfl, hr⟩ := hp2
  have HR := Lib.hid hr
  clear hr hp
  go_wp2
  go_ret3
  exact ⟨p, q, c', d', rfl, HR.out⟩
end Go.Proofs.Yteggicdhgcecpaa
