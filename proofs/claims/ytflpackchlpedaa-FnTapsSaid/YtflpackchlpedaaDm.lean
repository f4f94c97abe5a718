/- Delays: the model's run. -/
import Derived.Test.YtflpackchlpedaaDl
set_option linter.unusedVariables false
set_option linter.unusedSimpArgs false
namespace Go.Proofs.Ytflpackchlpedaa
open Fl Go.RowKit
/-- two lists and a yes -/
def PLLB (n0 : Nat) (f0 : Nat → Option Nat) (n1 : Nat) (f1 : Nat → Option Nat) (b : Bool) (w : World) (e : Ending) (w' : World) : Prop :=
  ∃ (p q : Ls) (c d : Nat), e = .returned (.tuple #[.slice p.A p.n c, .slice q.A q.n d, .bool b]) ∧ p.n = n0 ∧ q.n = n1 ∧ Gs 33 w' w.heap.size p.A p.n p.xs ∧ Gs 33 w' w.heap.size q.A q.n q.xs ∧ Are p f0 ∧ Are q f1 ∧ Dj p q ∧ w.Since w.heap.size w'
theorem PLLB.none_ {w w' : World} (s : w.Since w.heap.size w') (f0 f1 : Nat → Option Nat) : PLLB 0 f0 0 f1 false w (.returned (.tuple #[.slice none 0 0, .slice none 0 0, .bool false])) w' :=
  ⟨⟨none, 0, []⟩, ⟨none, 0, []⟩, 0, 0, rfl, rfl, rfl, Gs.nil_, Gs.nil_, (fun k hk => by simp at hk), (fun k hk => by simp at hk), (fun h => by simp at h), s⟩
theorem specLen_b (l : Int) (b : Bool) (w : World) (h : okLen l = b) : Calls Try.prog 52 #[.int .i64 l] w fun e w' => e = .returned (.bool b) ∧ w = w' := by
  subst h; exact specLen_any l w
theorem implLen_b (l : Int) (b : Bool) (w : World) (h : okLen l = b) : Calls Try.prog 45 #[.int .i64 l] w fun e w' => e = .returned (.bool b) ∧ w = w' := by
  subst h; exact implLen_any l w
set_option maxHeartbeats 1000000 in
theorem specOwn_any (A : Option Addr) (n c : Nat) (xs : List Nat) (w : World) (h : Fs w w.heap.size A n xs) (h0 : 0 < n) (hn : n ≤ 1048576) :
    Calls Try.prog 54 #[.slice A n c] w fun e w' => ∃ g c', e = .returned (.slice (some ⟨g, 0, none⟩) n c') ∧ Gs 33 w' w.heap.size (some ⟨g, 0, none⟩) n xs ∧ w.heap.size ≤ g ∧ g < w'.heap.size ∧ w.Since w.heap.size w' := by
  have H := Lib.hid h
  have hl := h.1; have hs := h.2.1
  obtain ⟨g, off, rfl, hg, hc⟩ := h.2.2 h0
  obtain ⟨i0, hi, hz0, hz1, hz2⟩ := info_parts Try.infoF
  have HC := Lib.hid hc
  have hfl : (fvl xs).length = n := by simp [fvl, h.1]
  have HFL := Lib.hid hfl
  clear h hc hfl
  have HNW : Hid (∀ j u, (fvl xs)[j]? = some u → (w.alloc (.cells #[] 33)).cell? (({ block := g, off := off } : Addr).add j) = some u) := by
    obtain ⟨ad, e, hh⟩ := fvl_cells (A := some ⟨g, off, none⟩) ⟨hl, hs, fun _ => ⟨g, off, rfl, hg, HC.out⟩⟩ ((World.Since.refl w.heap.size w).alloc (Nat.le_refl _) (.cells #[] 33)) h0
    injection e with e
    subst e
    exact hh
  go_enter Try.func54, Try.ntmps54
  go_wp2_with (at_builtin; refine wpList_append_own _ rfl (.tmp 3) (.tmp 4) 27 rfl w.heap.size 33 i0 (.float .f32 0) 1 4 Try.underlying27 hi hz0 hz1 hz2 rfl (by omega) (.slice (some ⟨w.heap.size, 0, none⟩) 0 0) 0 [] rfl ⟨rfl, .inr ⟨w.heap.size, 0, #[], rfl, Nat.le_refl _, Go.Deep.blk_alloc_new _ _, Nat.le_refl _, Nat.zero_le _, rfl, rfl⟩⟩ ⟨g, off, none⟩ n c (fvl xs) rfl (by rw [HFL.out]; omega) HNW.out (fvl_one xs) (by unfold maxLen; omega) (by omega) (by simp) ?_; intro v' w1 hown hgrow _; have HOWN := Lib.hid hown; have HGROW := Lib.hid hgrow; clear hown hgrow)
  go_ret
  have hown := HOWN.out
  rw [List.nil_append, Nat.zero_add] at hown
  obtain ⟨g', cap', rfl⟩ := own_form hown h0
  have hgs := Gs.of_own hown hs
  obtain ⟨g2, e2, h2, h3⟩ := hgs.block h0
  injection e2 with e2; injection e2 with e2 _ _; subst e2
  exact ⟨g', cap', rfl, hgs, h2, h3, ((World.Since.refl _ _).alloc (Nat.le_refl _) _).grown HGROW.out (by simp) (fun k hk => by simp [Value.ownBlock] at hk; omega)⟩
def Sd (fu : Bool) (D : Del) (n : Nat) (xs ys : List Nat) : Nat → O := Ln.st (n - 1) (fun j => ab .f32 (wd xs j)) (DelV fu D) (fun j => ab .f32 (wd ys j))
theorem Sd_old {fu : Bool} {D : Del} {n : Nat} {xs ys : List Nat} {j : Nat} (h : j < n) : Sd fu D n xs ys j = ab .f32 (wd xs j) := Ln.st_old (by omega)
theorem Sd_new {fu : Bool} {D : Del} {n : Nat} {xs ys : List Nat} (hn : 0 < n) (k : Nat) : Sd fu D n xs ys (k + n) = DelV fu D (ab .f32 (wd ys k)) (Sd fu D n xs ys k) := by
  have := Ln.st_new (n := n - 1) (l := fun j => ab .f32 (wd xs j)) (v := DelV fu D) (x := fun j => ab .f32 (wd ys j)) k
  rw [show n - 1 + 1 + k = k + n by omega] at this
  exact this
theorem took_step {n k : Nat} {S : Nat → O} {V : O} (hV : S (k + n) = V) : ∀ i, i < n → took n (fun i => S (k + i)) V i = S (k + 1 + i) := fun i hi => by
  unfold took
  by_cases e : i + 1 < n
  · rw [if_pos e]
    show S (k + (i + 1)) = _
    rw [show k + (i + 1) = k + 1 + i by omega]
  · rw [if_neg e, ← hV, show k + 1 + i = k + n by omega]
theorem Gs.under {T : TypeId} {w w' : World} {lo n g B : Nat} {xs : List Nat} (h : Gs T w lo (some ⟨g, 0, none⟩) n xs) (s : w.Since B w') (hg : g < B) : Gs T w' lo (some ⟨g, 0, none⟩) n xs :=
  ⟨h.1, h.2.1, fun hn => by
    obtain ⟨b, cs, e, hb, hh, hc⟩ := h.2.2 hn
    injection e with e; injection e with e1 _ _; subst e1
    exact ⟨g, cs, rfl, hb, (s.block g hg).trans hh, hc⟩⟩
theorem since_mono_trans {B g C : Nat} {w a b c : World} (h : w.Since B a) (o : On g a b) (k : b.Since C c) (h1 : B ≤ g) (h2 : B ≤ C) : w.Since B c := (h.trans (o.since h1)).trans (since_mono k h2)
end Go.Proofs.Ytflpackchlpedaa
