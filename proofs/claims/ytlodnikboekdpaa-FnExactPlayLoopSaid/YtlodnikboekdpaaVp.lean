/- The law of PlayLoop. -/
import Derived.Test.YtlodnikboekdpaaVo
set_option linter.unusedVariables false
set_option linter.unusedSimpArgs false
namespace Go.Proofs.Ytlodnikboekdpaa
open Fl Go.RowKit
theorem lawPlayLoop_any (A0 : Option Addr) (n0 c0 : Nat) (x0 : List Nat) (fi be f s c : Int) (w : World) (h0 : Fs w w.heap.size A0 n0 x0) (m0 : n0 ≤ 9223372036854775807) (u1 : (Lit.int .i64 fi).wf = true) (u2 : (Lit.int .i64 be).wf = true) (w1 : (Lit.int .i64 f).wf = true) (w2 : (Lit.int .i64 s).wf = true) (w3 : (Lit.int .i64 c).wf = true) :
    Calls Try.prog 14 #[.slice A0 n0 c0, .int .i64 fi, .int .i64 be, .int .i64 f, .int .i64 s, .int .i64 c] w fun e w' => e = .returned (.bool true) ∧ w.Since w.heap.size w' := by
  by_cases b1 : 1048576 < n0
  · exact lawPlayLoop_big A0 n0 c0 fi be f s c w b1
  cases hok : okLoop n0 fi be f s c
  · exact lawPlayLoop_gen A0 n0 c0 x0 fi be f s c 0 (fun _ => none) 0 false w h0 (by omega) (by omega) (fun v b g => specLoop_no _ n0 _ fi be f s c v hok u2 _) (fun v b g => implLoop_no _ n0 _ fi be f s c v hok _)
  · have hb := hok
    simp only [okLoop, Bool.and_eq_true] at hb
    obtain ⟨⟨hp, h1⟩, h2⟩ := hb
    have hb := hp; have hb1 := h1; have hb2 := h2
    simp only [okPlay, inB, Bool.and_eq_true, decide_eq_true_eq] at hb hb1 hb2
    obtain ⟨f', rfl⟩ : ∃ m : Nat, f = m := ⟨f.toNat, by omega⟩
    obtain ⟨s', rfl⟩ : ∃ m : Nat, s = m := ⟨s.toNat, by omega⟩
    obtain ⟨c', rfl⟩ : ∃ m : Nat, c = m := ⟨c.toNat, by omega⟩
    obtain ⟨fi', rfl⟩ : ∃ m : Nat, fi = m := ⟨fi.toNat, by omega⟩
    obtain ⟨be', rfl⟩ : ∃ m : Nat, be = m := ⟨be.toNat, by omega⟩
    exact lawPlayLoop_gen A0 n0 c0 x0 fi' be' f' s' c' c' _ _ true w h0 (by omega) (by omega) (fun v b g => specLoop_ok _ n0 _ x0 fi' be' f' s' c' _ _ v g hp h1 h2 rfl rfl) (fun v b g => implLoop_ok _ n0 _ x0 fi' be' f' s' c' _ _ v g hp h1 h2 rfl rfl)
end Go.Proofs.Ytlodnikboekdpaa
