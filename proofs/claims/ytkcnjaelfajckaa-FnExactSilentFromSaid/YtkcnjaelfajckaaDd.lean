/- The law of SilentFrom. -/
import Derived.Test.YtkcnjaelfajckaaDc
import Derived.Test.YtkcnjaelfajckaaFd
set_option linter.unusedVariables false
set_option linter.unusedSimpArgs false
namespace Go.Proofs.Ytkcnjaelfajckaa
open Fl Go.RowKit
theorem lawSilentFrom_any (d : DelN) (A1 : Option Addr) (n1 c1 : Nat) (x1 : List Nat) (w : World) (hd : DelOk d) (h1 : Fs w w.heap.size A1 n1 x1) (m1 : n1 ≤ 9223372036854775807) :
    Calls Try.prog 11 #[d.val, .slice A1 n1 c1] w fun e w' => e = .returned (.bool true) ∧ w.Since w.heap.size w' := by
  by_cases b1 : 1048576 < n1
  · exact lawSilentFrom_big d A1 n1 c1 w b1
  have hD : FvD d ⟨ab .f32 d.fb, ab .f32 d.dry, ab .f32 d.wet⟩ := ⟨Lib.hid ⟨hd.fb, rfl⟩, Lib.hid ⟨hd.dry, rfl⟩, Lib.hid ⟨hd.wet, rfl⟩⟩
  by_cases hbad : (okLen d.l && (decide ((n1 : Int) = d.l) && finB d.fb)) = false ∨ ∃ i, i < n1 ∧ finB (wd x1 i) = false
  · exact lawSilentFrom_gen d A1 n1 c1 x1 0 false w h1 (by omega) (fun v b g => specSilent_no d _ n1 _ x1 v hd g (by omega) hbad) (fun v b g => implSilent_no d _ n1 _ x1 v hd g (by omega) hbad)
  · have hok : (okLen d.l && (decide ((n1 : Int) = d.l) && finB d.fb)) = true := by
      cases h : (okLen d.l && (decide ((n1 : Int) = d.l) && finB d.fb))
      · exact absurd (.inl h) hbad
      · rfl
    have hx : ∀ i, i < n1 → finB (wd x1 i) = true := fun i hi => by
      cases h : finB (wd x1 i)
      · exact absurd (.inr ⟨i, hi, h⟩) hbad
      · rfl
    simp only [Bool.and_eq_true, decide_eq_true_eq, okLen] at hok
    obtain ⟨K, hK, hm, hs⟩ := least (Sil n1 (Sd d.fl ⟨ab .f32 d.fb, ab .f32 d.dry, ab .f32 d.wet⟩ n1 x1 []))
    obtain ⟨R, bb, hrb⟩ : ∃ R bb, Told K R bb := by
      by_cases h : K ≤ 256
      · exact ⟨K, true, fun _ => ⟨rfl, rfl⟩, fun h2 => absurd h h2⟩
      · exact ⟨0, false, fun h2 => absurd h2 h, fun _ => ⟨rfl, rfl⟩⟩
    exact lawSilentFrom_gen d A1 n1 c1 x1 R bb w h1 (by omega)
      (fun v b g => specSilent_ok d _ _ n1 _ x1 K v hD hok.2.1.symm (by omega) (by omega) hok.2.2 hd g hx hK hm hs R bb hrb)
      (fun v b g => implSilent_ok d _ _ n1 _ x1 K v hD hok.2.1.symm (by omega) (by omega) hok.2.2 hd g hx hK hm hs R bb hrb)
end Go.Proofs.Ytkcnjaelfajckaa
