/- Sums by halves. -/
import Derived.Test.YtcckoplpdehgoabSb
import Derived.Deep.RegionWith
set_option linter.unusedVariables false
set_option linter.unusedSimpArgs false
namespace Go.Proofs.Ytcckoplpdehgoab
open Fl Go.RowKit

def pairF : Nat → List Nat → Nat → Option Nat
  | 0, _, _ => some 0
  | f + 1, xs, n => if n = 0 then some 0 else if n = 1 then ab .f32 (wd xs 0) else opO .add .f32 (pairF f (xs.take ((n + 1) / 2)) ((n + 1) / 2)) (pairF f (xs.drop ((n + 1) / 2)) (n - (n + 1) / 2))

theorem wd_take (xs : List Nat) {h j : Nat} (hj : j < h) : wd (xs.take h) j = wd xs j := by
  unfold wd; simp [List.getD_eq_getElem?_getD, List.getElem?_take_of_lt hj]
theorem wd_drop (xs : List Nat) (h j : Nat) : wd (xs.drop h) j = wd xs (h + j) := by
  unfold wd; simp [List.getD_eq_getElem?_getD]
theorem fs_take {w : World} {B : Nat} {A : Option Addr} {n : Nat} {xs : List Nat} (h : Fs w B A n xs) {k : Nat} (hk : k ≤ n) : Fs w B A k (xs.take k) :=
  ⟨by simp [h.1]; omega, fun x hx => h.2.1 x (List.mem_of_mem_take hx), fun hp => by
    obtain ⟨g, off, e, hg, hc⟩ := h.2.2 (by omega)
    exact ⟨g, off, e, hg, fun j hj => by rw [hc j (by omega)]; unfold fv; rw [wd_take xs hj]⟩⟩
theorem fs_drop {w : World} {B g off : Nat} {n : Nat} {xs : List Nat} (h : Fs w B (some ⟨g, off, none⟩) n xs) {k : Nat} (hk : k ≤ n) : Fs w B (some ⟨g, off + k, none⟩) (n - k) (xs.drop k) :=
  ⟨by simp [h.1], fun x hx => h.2.1 x (List.mem_of_mem_drop hx), fun hp => by
    obtain ⟨g', off', e, hg, hc⟩ := h.2.2 (by omega)
    injection e with e
    injection e with e1 e2 _
    subst e1; subst e2
    exact ⟨g, off + k, rfl, hg, fun j hj => by rw [Nat.add_assoc, hc (k + j) (by omega)]; unfold fv; rw [wd_drop]⟩⟩

theorem fs_heap {w W : World} {B : Nat} {A : Option Addr} {n : Nat} {xs : List Nat} (h : Fs w B A n xs) (e : W.heap = w.heap) : Fs W B A n xs :=
  h.keep fun g o _ => by simp only [World.cell?, e]

set_option maxHeartbeats 8000000 in
theorem specPairs0_any : ∀ (f n : Nat) (A : Option Addr) (c : Nat) (xs : List Nat) (w : World) (B : Nat), n ≤ f → Fs w B A n xs → n ≤ c → n ≤ 1048576 →
    Calls Try.prog 53 #[.slice A n c] w (RetF .f32 (pairF f xs n) w)
  | 0, n, A, c, xs, w, B, hf, h, hc, hn => by
    obtain rfl : n = 0 := by omega
    go_enter Try.func53, Try.ntmps53
    go_wp2
    go_ret
    exact ⟨0, 0, rfl, fv32z, rfl⟩
  | f + 1, n, A, c, xs, w, B, hf, h, hc, hn => by
    have IH := Lib.hid (specPairs0_any f)
    by_cases h0 : n = 0
    · subst h0
      go_enter Try.func53, Try.ntmps53
      go_wp2
      go_ret
      exact ⟨0, 0, rfl, fv32z, rfl⟩
    · obtain ⟨g, off, rfl, hg, hc1⟩ := h.2.2 (by omega)
      by_cases h1 : n = 1
      · subst h1
        have hcell : w.cell? ⟨g, off, none⟩ = some (.float .f32 (wd xs 0)) := hc1 0 (by omega)
        have hw := h.2.1.at_ 0
        clear hc1
        have H := Lib.hid h
        clear h
        go_enter Try.func53, Try.ntmps53
        go_wp2
        go_ret
        exact ⟨wd xs 0, 0, rfl, ⟨hw, rfl⟩, rfl⟩
      · obtain ⟨k, hk⟩ : ∃ k, k = (n + 1) / 2 := ⟨_, rfl⟩
        have hkn : k < n := by omega
        have hk0 : 0 < k := by omega
        have e : pairF (f + 1) xs n = opO .add .f32 (pairF f (xs.take k) k) (pairF f (xs.drop k) (n - k)) := by
          rw [hk]; show (if _ then _ else _) = _; rw [if_neg h0, if_neg h1]
        rw [e]
        have H1 := Lib.hid (fs_take h (k := k) (by omega))
        have H2 := Lib.hid (fs_drop h (k := k) (by omega))
        have hkd : ((n : Int) + 1) / 2 = (k : Int) := by omega
        have hck : ¬ c = k := by omega
        have hkf : k ≤ f := by omega
        have hnf : n - k ≤ f := by omega
        have C1 := Lib.hid (fun (W : World) (hW : W.heap = w.heap) => IH.out k (some ⟨g, off, none⟩) c (xs.take k) W B hkf (fs_heap H1.out hW) (by omega) (by omega))
        have C2 := Lib.hid (fun (W : World) (hW : W.heap = w.heap) => IH.out (n - k) (some ⟨g, off + k, none⟩) (c - k) (xs.drop k) W B hnf (fs_heap H2.out hW) (by omega) (by omega))
        have hadd := fun x y => run_fopE (P := Try.prog) (op := .add) rfl 23 .f32 x y
        have e0 : ((n : Int) == 0) = false := by simp; omega
        have e1 : ((n : Int) == 1) = false := by simp; omega
        clear h hc1 e hk h0 h1 hf IH H1 H2
        go_enter Try.func53, Try.ntmps53
        go_wp2
        go_region_with (first | (go_at_call 53; (with_reducible refine (C1.out _ ?_).mono ?_); rfl; rintro e w' ⟨r1, m1, rfl, hv, rfl⟩; have V1 := Lib.hid hv; clear hv) | (go_at_call 53; (with_reducible refine (C2.out _ ?_).mono ?_); rfl; rintro e w' ⟨r2, m2, rfl, hv, rfl⟩; have V2 := Lib.hid hv; clear hv))
        all_goals
          clear hadd
          go_wp2
          go_ret
          refine ⟨_, _, rfl, ?_, rfl⟩
          have h1 := ov_fv (op := .add) rfl .f32 r1 r2 (w.drewN (1 + m1 + m2))
          rw [V1.out.2, V2.out.2] at h1
          exact h1
set_option maxHeartbeats 8000000 in
theorem implPairs0_any : ∀ (f n : Nat) (A : Option Addr) (c : Nat) (xs : List Nat) (w : World) (B : Nat), n ≤ f → Fs w B A n xs → n ≤ c → n ≤ 1048576 →
    Calls Try.prog 54 #[.slice A n c] w (RetF .f32 (pairF f xs n) w)
  | 0, n, A, c, xs, w, B, hf, h, hc, hn => by
    obtain rfl : n = 0 := by omega
    go_enter Try.func54, Try.ntmps54
    go_wp2
    go_ret
    exact ⟨0, 0, rfl, fv32z, rfl⟩
  | f + 1, n, A, c, xs, w, B, hf, h, hc, hn => by
    have IH := Lib.hid (implPairs0_any f)
    by_cases h0 : n = 0
    · subst h0
      go_enter Try.func54, Try.ntmps54
      go_wp2
      go_ret
      exact ⟨0, 0, rfl, fv32z, rfl⟩
    · obtain ⟨g, off, rfl, hg, hc1⟩ := h.2.2 (by omega)
      by_cases h1 : n = 1
      · subst h1
        have hcell : w.cell? ⟨g, off, none⟩ = some (.float .f32 (wd xs 0)) := hc1 0 (by omega)
        have hw := h.2.1.at_ 0
        clear hc1
        have H := Lib.hid h
        clear h
        go_enter Try.func54, Try.ntmps54
        go_wp2
        go_ret
        exact ⟨wd xs 0, 0, rfl, ⟨hw, rfl⟩, rfl⟩
      · obtain ⟨k, hk⟩ : ∃ k, k = (n + 1) / 2 := ⟨_, rfl⟩
        have hkn : k < n := by omega
        have hk0 : 0 < k := by omega
        have e : pairF (f + 1) xs n = opO .add .f32 (pairF f (xs.take k) k) (pairF f (xs.drop k) (n - k)) := by
          rw [hk]; show (if _ then _ else _) = _; rw [if_neg h0, if_neg h1]
        rw [e]
        have H1 := Lib.hid (fs_take h (k := k) (by omega))
        have H2 := Lib.hid (fs_drop h (k := k) (by omega))
        have hkd : ((n : Int) + 1) / 2 = (k : Int) := by omega
        have hck : ¬ c = k := by omega
        have hkf : k ≤ f := by omega
        have hnf : n - k ≤ f := by omega
        have C1 := Lib.hid (fun (W : World) (hW : W.heap = w.heap) => IH.out k (some ⟨g, off, none⟩) c (xs.take k) W B hkf (fs_heap H1.out hW) (by omega) (by omega))
        have C2 := Lib.hid (fun (W : World) (hW : W.heap = w.heap) => IH.out (n - k) (some ⟨g, off + k, none⟩) (c - k) (xs.drop k) W B hnf (fs_heap H2.out hW) (by omega) (by omega))
        have hadd := fun x y => run_fopE (P := Try.prog) (op := .add) rfl 23 .f32 x y
        have e0 : ((n : Int) == 0) = false := by simp; omega
        have e1 : ((n : Int) == 1) = false := by simp; omega
        clear h hc1 e hk h0 h1 hf IH H1 H2
        go_enter Try.func54, Try.ntmps54
        go_wp2
        go_region_with (first | (go_at_call 54; (with_reducible refine (C1.out _ ?_).mono ?_); rfl; rintro e w' ⟨r1, m1, rfl, hv, rfl⟩; have V1 := Lib.hid hv; clear hv) | (go_at_call 54; (with_reducible refine (C2.out _ ?_).mono ?_); rfl; rintro e w' ⟨r2, m2, rfl, hv, rfl⟩; have V2 := Lib.hid hv; clear hv))
        all_goals
          clear hadd
          go_wp2
          go_ret
          refine ⟨_, _, rfl, ?_, rfl⟩
          have h1 := ov_fv (op := .add) rfl .f32 r1 r2 (w.drewN (1 + m1 + m2))
          rw [V1.out.2, V2.out.2] at h1
          exact h1

theorem specPairs_any (A : Option Addr) (n c : Nat) (xs : List Nat) (w : World) (B : Nat) (h : Fs w B A n xs) (hc : n ≤ c) (hn : n ≤ 1048576) :
    Calls Try.prog 20 #[.slice A n c] w (RetFB .f32 (if n ≤ 256 then pairF n xs n else some 0) (decide (n ≤ 256)) w) := by
  have H := Lib.hid h
  clear h
  by_cases hle : n ≤ 256
  · rw [if_pos hle, decide_eq_true hle]
    have hd : decide ((n : Int) ≤ 256) = true := decide_eq_true (by omega)
    go_enter Try.func20, Try.ntmps20
    go_wp2_with (first | (go_at_call 53; refine (specPairs0_any n _ _ _ xs _ B (Nat.le_refl _) H.out hc hn).mono ?_; rintro e w' ⟨r, m, rfl, hr, rfl⟩) | (go_at_call 50; refine (specFew_any _ _ _ _ _ hd).mono ?_; rintro e w' ⟨rfl, rfl⟩))
    go_ret2
    exact ⟨r, m, rfl, hr, rfl⟩
  · rw [if_neg hle, decide_eq_false hle]
    have hd : decide ((n : Int) ≤ 256) = false := decide_eq_false (by omega)
    go_enter Try.func20, Try.ntmps20
    go_wp2_with (first | (go_at_call 50; refine (specFew_any _ _ _ _ _ hd).mono ?_; rintro e w' ⟨rfl, rfl⟩))
    go_ret2
    exact ⟨0, 0, rfl, fv32z, rfl⟩
theorem implPairs_any (A : Option Addr) (n c : Nat) (xs : List Nat) (w : World) (B : Nat) (h : Fs w B A n xs) (hc : n ≤ c) (hn : n ≤ 1048576) :
    Calls Try.prog 21 #[.slice A n c] w (RetFB .f32 (if n ≤ 256 then pairF n xs n else some 0) (decide (n ≤ 256)) w) := by
  have H := Lib.hid h
  clear h
  by_cases hle : n ≤ 256
  · rw [if_pos hle, decide_eq_true hle]
    have hd : decide ((n : Int) ≤ 256) = true := decide_eq_true (by omega)
    go_enter Try.func21, Try.ntmps21
    go_wp2_with (first | (go_at_call 54; refine (implPairs0_any n _ _ _ xs _ B (Nat.le_refl _) H.out hc hn).mono ?_; rintro e w' ⟨r, m, rfl, hr, rfl⟩) | (go_at_call 52; refine (implFew_any _ _ _ _ _ hd).mono ?_; rintro e w' ⟨rfl, rfl⟩))
    go_ret2
    exact ⟨r, m, rfl, hr, rfl⟩
  · rw [if_neg hle, decide_eq_false hle]
    have hd : decide ((n : Int) ≤ 256) = false := decide_eq_false (by omega)
    go_enter Try.func21, Try.ntmps21
    go_wp2_with (first | (go_at_call 52; refine (implFew_any _ _ _ _ _ hd).mono ?_; rintro e w' ⟨rfl, rfl⟩))
    go_ret2
    exact ⟨0, 0, rfl, fv32z, rfl⟩
theorem specPairsN (A : Option Addr) (n _c : Nat) (xs : List Nat) (w : World) (B : Nat) (h : Fs w B A n xs) (hn : n ≤ 1048576) :
    Calls Try.prog 20 #[.slice A n n] w (RetFB .f32 (if n ≤ 256 then pairF n xs n else some 0) (decide (n ≤ 256)) w) := specPairs_any A n n xs w B h (Nat.le_refl _) hn
theorem implPairsN (A : Option Addr) (n _c : Nat) (xs : List Nat) (w : World) (B : Nat) (h : Fs w B A n xs) (hn : n ≤ 1048576) :
    Calls Try.prog 21 #[.slice A n n] w (RetFB .f32 (if n ≤ 256 then pairF n xs n else some 0) (decide (n ≤ 256)) w) := implPairs_any A n n xs w B h (Nat.le_refl _) hn
end Go.Proofs.Ytcckoplpdehgoab
