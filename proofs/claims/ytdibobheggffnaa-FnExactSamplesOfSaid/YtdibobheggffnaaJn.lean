/- The laws of CountClipped and SamplesOf. -/
import Derived.Test.YtdibobheggffnaaJj
import Derived.Test.YtdibobheggffnaaJl
import Derived.Test.YtdibobheggffnaaJm
import Derived.Test.YtdibobheggffnaaJk
set_option linter.unusedVariables false
set_option linter.unusedSimpArgs false
namespace Go.Proofs.Ytdibobheggffnaa
open Fl Go.RowKit
theorem okCod_nat {b : Int} {n : Nat} {xs : List Int} (h : okCod b n xs) : ∃ b' : Nat, b = b' ∧ 2 ≤ b' ∧ b' ≤ 16 ∧ n ≤ 256 ∧ areC (mst b') xs n := by
  obtain ⟨h1, h2, h3⟩ := h
  simp only [inB, Bool.and_eq_true, decide_eq_true_eq] at h1
  exact ⟨b.toNat, by omega, by omega, by omega, h2, h3⟩
theorem lawCountClipped_any (b : Int) (A : Option Addr) (n c : Nat) (xs : List Int) (w : World) (w1 : (Lit.int .i64 b).wf = true) (h0 : Is w w.heap.size A n xs) (hx : ∀ k, k < n → (Lit.int .i64 (wi xs k)).wf = true) (m0 : n ≤ 9223372036854775807) :
    Calls Try.prog 6 #[.int .i64 b, .slice A n c] w fun e w' => e = .returned (.bool true) ∧ w.Since w.heap.size w' := by
  by_cases b1 : 1048576 < n
  · exact lawCountClipped_big b A n c w b1
  by_cases hok : okCod b n xs
  · obtain ⟨b', rfl, k1, k2, k3, k4⟩ := okCod_nat hok
    exact lawCountClipped_gen b' A n c xs _ true w h0 (by omega) (fun v b g => specCount_ok b' _ n _ xs v g k3 k1 k2 k4) (fun v b g => implCount_ok b' _ n _ xs v g k3 k1 k2 k4)
  · exact lawCountClipped_gen b A n c xs 0 false w h0 (by omega) (fun v g hg => specCount_no b _ n _ xs v hg (by omega) hok) (fun v g hg => implCount_no b _ n _ xs v hg (by omega) hok)
theorem lawSamplesOf_any (b : Int) (A : Option Addr) (n c : Nat) (xs : List Int) (w : World) (w1 : (Lit.int .i64 b).wf = true) (h0 : Is w w.heap.size A n xs) (hx : ∀ k, k < n → (Lit.int .i64 (wi xs k)).wf = true) (m0 : n ≤ 9223372036854775807) :
    Calls Try.prog 8 #[.int .i64 b, .slice A n c] w fun e w' => e = .returned (.bool true) ∧ w.Since w.heap.size w' := by
  by_cases b1 : 1048576 < n
  · exact lawSamplesOf_big b A n c w b1
  by_cases hok : okCod b n xs
  · obtain ⟨b', rfl, k1, k2, k3, k4⟩ := okCod_nat hok
    exact lawSamplesOf_gen b' A n c xs _ _ true w h0 (by omega) (by omega) (fun v b g => specSmp_ok b' _ n _ xs v g k3 k1 k2 k4) (fun v b g => implSmp_ok b' _ n _ xs v g k3 k1 k2 k4)
  · exact lawSamplesOf_gen b A n c xs 0 (fun _ => none) false w h0 (by omega) (by omega) (fun v g hg => specSmp_no b _ n _ xs v hg (by omega) hok _) (fun v g hg => implSmp_no b _ n _ xs v hg (by omega) hok _)
end Go.Proofs.Ytdibobheggffnaa
