/- The law of PlayRecording. -/
import Derived.Test.YtlodnikboekdpaaVj
set_option linter.unusedVariables false
set_option linter.unusedSimpArgs false
namespace Go.Proofs.Ytlodnikboekdpaa
open Fl Go.RowKit
theorem okPlay_nat {n : Nat} {f s c : Int} (h : okPlay n f s c = true) : ∃ f' s' c' : Nat, f = f' ∧ s = s' ∧ c = c' := by
  simp only [okPlay, inB, Bool.and_eq_true, decide_eq_true_eq] at h
  exact ⟨f.toNat, s.toNat, c.toNat, by omega, by omega, by omega⟩
theorem lawPlayRecording_any (A0 : Option Addr) (n0 c0 : Nat) (x0 : List Nat) (f s c : Int) (w : World) (h0 : Fs w w.heap.size A0 n0 x0) (m0 : n0 ≤ 9223372036854775807) (w1 : (Lit.int .i64 f).wf = true) (w2 : (Lit.int .i64 s).wf = true) (w3 : (Lit.int .i64 c).wf = true) :
    Calls Try.prog 13 #[.slice A0 n0 c0, .int .i64 f, .int .i64 s, .int .i64 c] w fun e w' => e = .returned (.bool true) ∧ w.Since w.heap.size w' := by
  by_cases b1 : 1048576 < n0
  · exact lawPlayRecording_big A0 n0 c0 f s c w b1
  cases hok : okPlay n0 f s c
  · exact lawPlayRecording_gen A0 n0 c0 x0 f s c 0 (fun _ => none) 0 false w h0 (by omega) (by omega) (fun v b g => specRec_no _ n0 _ f s c v hok _) (fun v b g => implRec_no _ n0 _ f s c v hok _)
  · obtain ⟨f', s', c', rfl, rfl, rfl⟩ := okPlay_nat hok
    have hb := hok
    simp only [okPlay, inB, Bool.and_eq_true, decide_eq_true_eq] at hb
    exact lawPlayRecording_gen A0 n0 c0 x0 f' s' c' c' _ _ true w h0 (by omega) (by omega) (fun v b g => specRec_ok _ n0 _ x0 f' s' c' v g hok) (fun v b g => implRec_ok _ n0 _ x0 f' s' c' v g hok)
end Go.Proofs.Ytlodnikboekdpaa
