/- The law of RunDelay. -/
import Derived.Test.YteggicdhgcecpaaDs
import Derived.Test.YteggicdhgcecpaaDq
import Derived.Test.YteggicdhgcecpaaFd
set_option linter.unusedVariables false
set_option linter.unusedSimpArgs false
namespace Go.Proofs.Yteggicdhgcecpaa
open Fl Go.RowKit
theorem lawRunDelay_any (d : DelN) (A1 : Option Addr) (n1 c1 : Nat) (x1 : List Nat) (A2 : Option Addr) (n2 c2 : Nat) (x2 : List Nat) (w : World) (hd : DelOk d)
    (h1 : Fs w w.heap.size A1 n1 x1) (m1 : n1 ≤ 9223372036854775807) (h2 : Fs w w.heap.size A2 n2 x2) (m2 : n2 ≤ 9223372036854775807) :
    Calls Try.prog 3 #[d.val, .slice A1 n1 c1, .slice A2 n2 c2] w fun e w' => e = .returned (.bool true) ∧ w.Since w.heap.size w' := by
  by_cases b1 : 1048576 < n1 ∨ 1048576 < n2
  · exact lawRunDelay_big d A1 n1 c1 A2 n2 c2 w b1
  have hD : FvD d ⟨ab .f32 d.fb, ab .f32 d.dry, ab .f32 d.wet⟩ := ⟨Lib.hid ⟨hd.fb, rfl⟩, Lib.hid ⟨hd.dry, rfl⟩, Lib.hid ⟨hd.wet, rfl⟩⟩
  cases hok : (okLen d.l && (decide ((n1 : Int) = d.l) && decide ((n2 : Int) ≤ 256)))
  · exact lawRunDelay_gen d A1 n1 c1 x1 A2 n2 c2 x2 0 (fun _ => none) 0 (fun _ => none) false w h1 (by omega) h2 (by omega) (by omega) (by omega)
      (fun v b1 b2 g1 g2 => specRunDelay_no d _ n1 _ _ n2 _ v _ _ hok) (fun v b1 b2 g1 g2 => implRunDelay_no d _ n1 _ _ n2 _ v _ _ hok)
  · simp only [Bool.and_eq_true, decide_eq_true_eq, okLen] at hok
    exact lawRunDelay_gen d A1 n1 c1 x1 A2 n2 c2 x2 n2 _ n1 _ true w h1 (by omega) h2 (by omega) (by omega) (by omega)
      (fun v b1 b2 g1 g2 => specRunDelay_ok d _ _ n1 _ x1 _ n2 _ x2 v hD hok.2.1.symm (by omega) (by omega) (by omega) g1 g2)
      (fun v b1 b2 g1 g2 => implRunDelay_ok d _ _ n1 _ x1 _ n2 _ x2 v hD hok.2.1.symm (by omega) (by omega) (by omega) g1 g2)
end Go.Proofs.Yteggicdhgcecpaa
