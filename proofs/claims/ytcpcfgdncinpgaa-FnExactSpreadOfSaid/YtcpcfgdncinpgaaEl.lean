/- Dynamics: the root of the mean of squares. -/
import Derived.Test.YtcpcfgdncinpgaaEg
import Derived.Test.YtcpcfgdncinpgaaSr
import Derived.Test.YtcpcfgdncinpgaaSc
set_option linter.unusedVariables false
set_option linter.unusedSimpArgs false
namespace Go.Proofs.Ytcpcfgdncinpgaa
open Fl Go.RowKit
def meanO (xs : List Nat) (n : Nat) : O := rootO (qu (dotO xs xs n) (some (fI n)))
def meanB (n : Nat) : Bool := decide (n ≤ 256) && decide (0 < n)
def meanR (xs : List Nat) (n : Nat) : O := if meanB n then meanO xs n else some 0
theorem meanR_yes {xs : List Nat} {n : Nat} (h : n ≤ 256) (h0 : 0 < n) : meanR xs n = meanO xs n := by unfold meanR meanB; rw [decide_eq_true h, decide_eq_true h0]; rfl
set_option maxHeartbeats 1000000 in
theorem specMean_any (A : Option Addr) (n c : Nat) (xs : List Nat) (w : World) (B : Nat) (h : Fs w B A n xs) (hn : n ≤ 1048576) :
    Calls Try.prog 90 #[.slice A n c] w (RetFB .f32 (meanR xs n) (meanB n) w) := by
  have H := Lib.hid h
  clear h
  by_cases hle : n ≤ 256
  · have hd : decide ((n : Int) ≤ 256) = true := decide_eq_true (by omega)
    by_cases h0 : 0 < n
    · have h1 : ((n : Int) == 0) = false := by simp; omega
      have q2 := fI_fv (n : Nat)
      rw [meanR_yes hle h0, show meanB n = true by unfold meanB; rw [decide_eq_true hle, decide_eq_true h0]; rfl]
      go_enter Try.func90, Try.ntmps90
      go_wp2_with (first | (go_at_call 50; refine (specFew_any _ _ _ _ _ hd).mono ?_; rintro e w' ⟨rfl, rfl⟩) | fail)
      refine (specDot0_any A A n c c xs xs _ B H.out H.out hn).mono ?_
      rintro e w' ⟨r1, m1, rfl, hv, rfl⟩
      have V1 : Hid (Fv .f32 r1 (dotO xs xs n)) := Lib.hid hv
      clear hv
      go_wp2_with (with_reducible_and_instances refine Lo.wpList_fo _ rfl _ _ _ _ _ rfl _ _ _ _ _ rfl rfl rfl (by assumption) (by assumption) ?_; intro rr nn hrr)
      refine (specSqrt_any _ _ hrr.out.1).mono ?_
      rintro e w' ⟨r2, m2, rfl, hv2, rfl⟩
      rw [hrr.out.2] at hv2
      have V2 := Lib.hid hv2
      clear hv2
      go_wp2
      go_ret2
      exact ⟨r2, _, rfl, V2.out, rfl⟩
    · obtain rfl : n = 0 := by omega
      go_enter Try.func90, Try.ntmps90
      go_wp2_with (first | (go_at_call 50; refine (specFew_any _ _ _ _ _ hd).mono ?_; rintro e w' ⟨rfl, rfl⟩))
      go_ret2
      exact ⟨0, 0, rfl, fv32z, rfl⟩
  · have hd : decide ((n : Int) ≤ 256) = false := decide_eq_false (by omega)
    rw [show meanR xs n = some 0 by unfold meanR meanB; rw [decide_eq_false hle]; rfl, show meanB n = false by unfold meanB; rw [decide_eq_false hle]; rfl]
    go_enter Try.func90, Try.ntmps90
    go_wp2_with (first | (go_at_call 50; refine (specFew_any _ _ _ _ _ hd).mono ?_; rintro e w' ⟨rfl, rfl⟩))
    go_ret2
    exact ⟨0, 0, rfl, fv32z, rfl⟩
set_option maxHeartbeats 1000000 in
theorem implMean_any (A : Option Addr) (n c : Nat) (xs : List Nat) (w : World) (B : Nat) (h : Fs w B A n xs) (hn : n ≤ 1048576) :
    Calls Try.prog 91 #[.slice A n c] w (RetFB .f32 (meanR xs n) (meanB n) w) := by
  have HD := Lib.hid (fun v (s : Fs v B A n xs) => implDot_any A n c xs A n c xs v B s s hn hn)
  by_cases hle : n ≤ 256
  · rw [if_pos ⟨hle, rfl⟩, decide_eq_true (show n ≤ 256 ∧ n = n from ⟨hle, rfl⟩)] at HD
    have H := Lib.hid h
    clear h
    by_cases h0 : 0 < n
    · have h1 : ((n : Int) == 0) = false := by simp; omega
      have q2 := fI_fv (n : Nat)
      rw [meanR_yes hle h0, show meanB n = true by unfold meanB; rw [decide_eq_true hle, decide_eq_true h0]; rfl]
      go_enter Try.func91, Try.ntmps91
      go_wp2_with fail
      refine (HD.out _ H.out).mono ?_
      rintro e w' ⟨r1, m1, rfl, hv, rfl⟩
      have V1 : Hid (Fv .f32 r1 (dotO xs xs n)) := Lib.hid hv
      clear hv
      go_wp2_with (with_reducible_and_instances refine Lo.wpList_fo _ rfl _ _ _ _ _ rfl _ _ _ _ _ rfl rfl rfl (by assumption) (by assumption) ?_; intro rr nn hrr)
      refine (implRoot_any _ _ hrr.out.1).mono ?_
      rintro e w' ⟨r2, m2, rfl, hv2, rfl⟩
      rw [hrr.out.2] at hv2
      have V2 := Lib.hid hv2
      clear hv2
      go_wp2
      go_ret2
      exact ⟨r2, _, rfl, V2.out, rfl⟩
    · obtain rfl : n = 0 := by omega
      go_enter Try.func91, Try.ntmps91
      go_wp2_with fail
      refine (HD.out _ H.out).mono ?_
      rintro e w' ⟨r1, m1, rfl, hv, rfl⟩
      clear hv
      go_wp2
      go_ret2
      exact ⟨0, m1, rfl, fv32z, rfl⟩
  · rw [if_neg (fun h => hle h.1), decide_eq_false (fun (h : n ≤ 256 ∧ n = n) => hle h.1)] at HD
    have H := Lib.hid h
    clear h
    rw [show meanR xs n = some 0 by unfold meanR meanB; rw [decide_eq_false hle]; rfl, show meanB n = false by unfold meanB; rw [decide_eq_false hle]; rfl]
    go_enter Try.func91, Try.ntmps91
    go_wp2_with fail
    refine (HD.out _ H.out).mono ?_
    rintro e w' ⟨r1, m1, rfl, hv, rfl⟩
    clear hv
    go_wp2
    go_ret2
    exact ⟨0, m1, rfl, fv32z, rfl⟩
end Go.Proofs.Ytcpcfgdncinpgaa
