/- Delays: the model's run. -/
import Derived.Test.YtbjhioolfighdaaDl
set_option linter.unusedVariables false
set_option linter.unusedSimpArgs false
namespace Go.Proofs.Ytbjhioolfighdaa
open Fl Go.RowKit
/-- two lists and a yes -/
def PLLB (n0 : Nat) (f0 : Nat → Option Nat) (n1 : Nat) (f1 : Nat → Option Nat) (b : Bool) (w : World) (e : Ending) (w' : World) : Prop :=
  ∃ (p q : Ls) (c d : Nat), e = .returned (.tuple #[.slice p.A p.n c, .slice q.A q.n d, .bool b]) ∧ p.n = n0 ∧ q.n = n1 ∧ Gs 22 w' w.heap.size p.A p.n p.xs ∧ Gs 22 w' w.heap.size q.A q.n q.xs ∧ Are p f0 ∧ Are q f1 ∧ Dj p q ∧ w.Since w.heap.size w'
theorem PLLB.none_ {w w' : World} (s : w.Since w.heap.size w') (f0 f1 : Nat → Option Nat) : PLLB 0 f0 0 f1 false w (.returned (.tuple #[.slice none 0 0, .slice none 0 0, .bool false])) w' :=
  ⟨⟨none, 0, []⟩, ⟨none, 0, []⟩, 0, 0, rfl, rfl, rfl, Gs.nil_, Gs.nil_, (fun k hk => by simp at hk), (fun k hk => by simp at hk), (fun h => by simp at h), s⟩
theorem specLen_b (l : Int) (b : Bool) (w : World) (h : okLen l = b) : Calls Try.prog 28 #[.int .i64 l] w fun e w' => e = .returned (.bool b) ∧ w = w' := by
  subst h; exact specLen_any l w
theorem implLen_b (l : Int) (b : Bool) (w : World) (h : okLen l = b) : Calls Try.prog 63 #[.int .i64 l] w fun e w' => e = .returned (.bool b) ∧ w = w' := by
  subst h; exact implLen_any l w
set_option maxHeartbeats 1000000 in
theorem specOwn_any (A : Option Addr) (n c : Nat) (xs : List Nat) (w : World) (h : Fs w w.heap.size A n xs) (h0 : 0 < n) (hn : n ≤ 1048576) :
    Calls Try.prog 30 #[.slice A n c] w fun e w' => ∃ g c', e = .returned (.slice (some ⟨g, 0, none⟩) n c') ∧ Gs 22 w' w.heap.size (some ⟨g, 0, none⟩) n xs ∧ w.heap.size ≤ g ∧ g < w'.heap.size ∧ w.Since w.heap.size w' := by
  have H := Lib.hid h
  have hl := h.1; have hs := h.2.1
  obtain ⟨g, off, rfl, hg, hc⟩ := h.2.2 h0
  obtain ⟨i0, hi, hz0, hz1, hz2⟩ := info_parts Try.infoF
  have HC := Lib.hid hc
  have hfl : (fvl xs).length = n := by simp [fvl, h.1]
  have HFL := Lib.hid hfl
  clear h hc hfl
  have HNW : Hid (∀ j u, (fvl xs)[j]? = some u → (w.alloc (.cells #[] 22)).cell? (({ block := g, off := off } : Addr).add j) = some u) := by
    obtain ⟨ad, e, hh⟩ := fvl_cells (A := some ⟨g, off, none⟩) ⟨hl, hs, fun _ => ⟨g, off, rfl, hg, HC.out⟩⟩ ((World.Since.refl w.heap.size w).alloc (Nat.le_refl _) (.cells #[] 22)) h0
    injection e with e
    subst e
    exact hh
  go_enter Try.func30, Try.ntmps30
  go_wp2_with (at_builtin; refine wpList_append_own _ rfl (.tmp 3) (.tmp 4) 25 rfl w.heap.size 22 i0 (.float .f32 0) 1 4 Try.underlying25 hi hz0 hz1 hz2 rfl (by omega) (.slice (some ⟨w.heap.size, 0, none⟩) 0 0) 0 [] rfl ⟨rfl, .inr ⟨w.heap.size, 0, #[], rfl, Nat.le_refl _, Go.Deep.blk_alloc_new _ _, Nat.le_refl _, Nat.zero_le _, rfl, rfl⟩⟩ ⟨g, off, none⟩ n c (fvl xs) rfl (by rw [HFL.out]; omega) HNW.out (fvl_one xs) (by unfold maxLen; omega) (by omega) (by simp) ?_; intro v' w1 hown hgrow _; have HOWN := Lib.hid hown; have HGROW := Lib.hid hgrow; clear hown hgrow)
  go_ret
  have hown := HOWN.out
  rw [List.nil_append, Nat.zero_add] at hown
  obtain ⟨g', cap', rfl⟩ := own_form hown h0
  have hgs := Gs.of_own hown hs
  obtain ⟨g2, e2, h2, h3⟩ := hgs.block h0
  injection e2 with e2; injection e2 with e2 _ _; subst e2
  exact ⟨g', cap', rfl, hgs, h2, h3, ((World.Since.refl _ _).alloc (Nat.le_refl _) _).grown HGROW.out (by simp) (fun k hk => by simp [Value.ownBlock] at hk; omega)⟩
def Sd (fu : Bool) (D : Del) (n : Nat) (xs ys : List Nat) : Nat → O := Ln.st (n - 1) (fun j => ab .f32 (wd xs j)) (DelV fu D) (fun j => ab .f32 (wd ys j))
theorem Sd_old {fu : Bool} {D : Del} {n : Nat} {xs ys : List Nat} {j : Nat} (h : j < n) : Sd fu D n xs ys j = ab .f32 (wd xs j) := Ln.st_old (by omega)
theorem Sd_new {fu : Bool} {D : Del} {n : Nat} {xs ys : List Nat} (hn : 0 < n) (k : Nat) : Sd fu D n xs ys (k + n) = DelV fu D (ab .f32 (wd ys k)) (Sd fu D n xs ys k) := by
  have := Ln.st_new (n := n - 1) (l := fun j => ab .f32 (wd xs j)) (v := DelV fu D) (x := fun j => ab .f32 (wd ys j)) k
  rw [show n - 1 + 1 + k = k + n by omega] at this
  exact this
theorem took_step {n k : Nat} {S : Nat → O} {V : O} (hV : S (k + n) = V) : ∀ i, i < n → took n (fun i => S (k + i)) V i = S (k + 1 + i) := fun i hi => by
  unfold took
  by_cases e : i + 1 < n
  · rw [if_pos e]
    show S (k + (i + 1)) = _
    rw [show k + (i + 1) = k + 1 + i by omega]
  · rw [if_neg e, ← hV, show k + 1 + i = k + n by omega]
theorem Gs.under {T : TypeId} {w w' : World} {lo n g B : Nat} {xs : List Nat} (h : Gs T w lo (some ⟨g, 0, none⟩) n xs) (s : w.Since B w') (hg : g < B) : Gs T w' lo (some ⟨g, 0, none⟩) n xs :=
  ⟨h.1, h.2.1, fun hn => by
    obtain ⟨b, cs, e, hb, hh, hc⟩ := h.2.2 hn
    injection e with e; injection e with e1 _ _; subst e1
    exact ⟨g, cs, rfl, hb, (s.block g hg).trans hh, hc⟩⟩
theorem since_mono_trans {B g C : Nat} {w a b c : World} (h : w.Since B a) (o : On g a b) (k : b.Since C c) (h1 : B ≤ g) (h2 : B ≤ C) : w.Since B c := (h.trans (o.since h1)).trans (since_mono k h2)
set_option maxHeartbeats 4000000 in
set_option maxRecDepth 100000 in
theorem specRunDelay_ok (d : DelN) (D : Del) (A : Option Addr) (n c : Nat) (xs : List Nat) (B : Option Addr) (m c2 : Nat) (ys : List Nat) (w : World) (hD : FvD d D) (hl : d.l = (n : Int)) (h1 : 1 ≤ n) (h2 : n ≤ 64) (hm : m ≤ 256)
    (hA : Fs w w.heap.size A n xs) (hB : Fs w w.heap.size B m ys) :
    Calls Try.prog 7 #[d.val, .slice A n c, .slice B m c2] w (PLLB m (fun k => DelY D (ab .f32 (wd ys k)) (Sd d.fl D n xs ys k)) n (fun i => Sd d.fl D n xs ys (m + i)) true w) := by
  obtain ⟨dl, dfb, ddry, dwet, dfl⟩ := d
  simp only at hl
  subst hl
  have hok : okLen (n : Int) = true := by unfold okLen; simp; omega
  have hfew : decide ((m : Int) ≤ 256) = true := decide_eq_true (by omega)
  have HA := Lib.hid hA; have HB := Lib.hid hB; have HDD := Lib.hid hD
  obtain ⟨i0, hi, hz0, hz1, hz2⟩ := info_parts Try.infoF
  clear hA hB hD
  unfold DelN.val
  go_enter Try.func7, Try.ntmps7
  go_wp2_with (first | (go_at_call 28; refine (specLen_b _ _ _ hok).mono ?_; rintro e w' ⟨rfl, rfl⟩) | (go_at_call 29; refine (specFew_any _ _ _ _ _ hfew).mono ?_; rintro e w' ⟨rfl, rfl⟩) | (go_at_call 30; refine (specOwn_any A n c xs _ (HA.out.now ((World.Since.refl _ _).alloc (Nat.le_refl _) _)) h1 (by omega)).mono ?_; rintro e w1 ⟨g1, c1, rfl, hg1, hlo1, hhi1, hs1⟩; have hd1 : DelAt w1 w.heap.size ⟨(n : Int), dfb, ddry, dwet, dfl⟩ := ⟨Nat.lt_of_lt_of_le (by simp) hs1.size, (hs1.cell (a := ⟨w.heap.size, 0, none⟩) (by simp)).trans (by simp [go_sem]), (hs1.cell (a := ⟨w.heap.size, 1, none⟩) (by simp)).trans (by simp [go_sem]), (hs1.cell (a := ⟨w.heap.size, 2, none⟩) (by simp)).trans (by simp [go_sem]), (hs1.cell (a := ⟨w.heap.size, 3, none⟩) (by simp)).trans (by simp [go_sem]), (hs1.cell (a := ⟨w.heap.size, 4, none⟩) (by simp)).trans (by simp [go_sem])⟩; have HD1 := Lib.hid hd1; have HG1 := Lib.hid hg1; have HS1 := Lib.hid hs1; clear hg1 hs1 hd1))
  have hlo : w.heap.size < g1 := by simp at hlo1; omega
  clear hlo1
  have S1 : Hid (w.Since w.heap.size w1) := Lib.hid (((World.Since.refl _ _).alloc (Nat.le_refl _) _).trans (since_mono HS1.out (by simp)))
  go_loopw [10, 11] (fun v i wr => ∃ (k c' : Nat) (A' : Option Addr) (os zs : List Nat), k ≤ m ∧ i = .int .i64 k ∧ v = .slice A' k c' ∧ wr.ownsRow w1.heap.size 22 1 (.slice A' k c') k (fvl os) ∧ Small os ∧ (∀ j, j < k → ab .f32 (wd os j) = DelY D (ab .f32 (wd ys j)) (Sd dfl D n xs ys j)) ∧ Gs 22 wr w.heap.size (some ⟨g1, 0, none⟩) n zs ∧ Are' n zs (fun i => Sd dfl D n xs ys (k + i)) ∧ DelAt wr w.heap.size ⟨(n : Int), dfb, ddry, dwet, dfl⟩ ∧ w.Since w.heap.size wr ∧ w1.heap.size ≤ wr.heap.size) (fun _ i _ => m - (intOf i).toNat)
  case atStart =>
    have sa : w1.Since w1.heap.size (w1.alloc (.cells #[] 22)) := (World.Since.refl _ _).alloc (Nat.le_refl _) _
    refine ⟨0, 0, _, [], xs, Nat.zero_le _, rfl, rfl, ⟨rfl, .inr ⟨w1.heap.size, 0, #[], rfl, Nat.le_refl _, Go.Deep.blk_alloc_new _ _, Nat.le_refl _, Nat.zero_le _, rfl, rfl⟩⟩, (fun x hx => by cases hx), (fun j hj => by omega), (HG1.out.less (by simp)).since sa, fun i hi => ?_, HD1.out.of (by simp) (sa.block _ HD1.out.lt), since_step S1.out sa, by simp⟩
    show _ = Sd dfl D n xs ys (0 + i)
    rw [Nat.zero_add]; exact (Sd_old hi).symm
  case round =>
    obtain ⟨k, c', A', os, zs, hk, rfl, rfl, hown, hsm, hv, hgs, har, hda, hs, hbz⟩ := hrel
    have HO := Lib.hid hown; have HM := Lib.hid hsm; have HV := Lib.hid hv; have HGZ := Lib.hid hgs; have HAR := Lib.hid har; have HDA := Lib.hid hda; have HS := Lib.hid hs
    clear hown hsm hv hgs har hda hs
    by_cases hlt : k < m
    · obtain ⟨g, off, rfl, hg, hc⟩ := HB.out.2.2 (by omega)
      have hcell : wr.cell? ⟨g, off + k, none⟩ = some (.float .f32 (wd ys k)) := (HS.out.cell (a := ⟨g, off + k, none⟩) hg).trans (hc k hlt)
      have hx : Hid (Fv .f32 (wd ys k) (ab .f32 (wd ys k))) := Lib.hid ⟨HB.out.2.1.at_ k, rfl⟩
      clear hc
      go_wp2_with (first | (go_at_call 31; refine (specDelay_any ⟨(n : Int), dfb, ddry, dwet, dfl⟩ D w.heap.size g1 n c1 zs (fun i => Sd dfl D n xs ys (k + i)) _ (ab .f32 (wd ys k)) wr w.heap.size HDA.out HDD.out (by omega) HGZ.out HAR.out h1 (by omega) hx).mono ?_; rintro e w2 ⟨r, zs2, rfl, hr2, hg2, ha2, ho2⟩; have HR2 := Lib.hid hr2; have HG2 := Lib.hid hg2; have HA2 := Lib.hid ha2; have HO2 := Lib.hid ho2; clear hr2 hg2 ha2 ho2) | (at_builtin; refine wpList_append_own _ rfl (.tmp 37) (.tmp 44) 25 rfl w1.heap.size 22 i0 (.float .f32 0) 1 4 Try.underlying25 hi hz0 hz1 hz2 rfl (by omega) (.slice A' k c') k (fvl os) rfl ((own_on HO.out HO2.out hhi1).alloc _) ⟨w2.heap.size, 0, none⟩ 1 1 [.float .f32 r] rfl rfl ?c1 ?c2 ?c3 ?c4 ?c5 ?_))
      case c1 => exact one_new w2 _ _ 0
      case c2 => intro u hu; simp at hu; subst hu; rfl
      case c3 => unfold maxLen; omega
      case c4 => omega
      case c5 => have := HO2.out.1.size; simp; omega
      intro v' w3 hown3 hgrow3 _
      have hz2' := HO2.out.1.size
      have hS3 : w2.Since w1.heap.size w3 := ((World.Since.refl _ _).alloc (by omega) _).grown hgrow3 (by simp; omega) (own_lo HO.out)
      obtain ⟨g', cap', rfl⟩ := own_form hown3 (by omega)
      rw [fvl_snoc] at hown3
      have HO3 := Lib.hid hown3
      have HS3 := Lib.hid hS3
      clear hown3 hgrow3 hS3
      go_wp2
      go_roundw
      case rel =>
        refine ⟨k + 1, cap', _, os ++ [r], zs2, by omega, by go_num, rfl, HO3.out, HM.out.snoc HR2.out.out.1, fun j hj => ?_, Gs.under HG2.out HS3.out hhi1, fun i hi => (HA2.out i hi).trans (took_step (Sd_new h1 k) i hi), (HDA.out.on HO2.out (by omega)).of HS3.out.size (HS3.out.block _ (by omega)), since_mono_trans HS.out HO2.out HS3.out (by omega) (by omega), Nat.le_trans (by omega) HS3.out.size⟩
        have hyl : os.length = k := by simpa [fvl] using HO.out.1
        rw [wd_snoc hyl]
        by_cases e : j < k
        · rw [if_pos e]; exact HV.out j e
        · obtain rfl : j = k := by omega
          rw [if_neg e, if_pos rfl]; exact HR2.out.out.2
      case measure => simp [intOf]; omega
    · obtain rfl : k = m := by omega
      go_wp2
      go_ret3
      have hq := Gs.of_own HO.out HM.out
      refine ⟨⟨A', k, os⟩, ⟨some ⟨g1, 0, none⟩, n, zs⟩, c', c1, rfl, rfl, rfl, hq.less (by have := S1.out.size; omega), HGZ.out, HV.out, HAR.out, fun hp hq2 a o s o' s' e e' => ?_, HS.out⟩
      obtain ⟨b, e1, h3, h4⟩ := hq.block hp
      simp only at e e' e1
      rw [e1] at e
      injection e with e; injection e with e _ _
      injection e' with e'; injection e' with e' _ _
      omega
end Go.Proofs.Ytbjhioolfighdaa
