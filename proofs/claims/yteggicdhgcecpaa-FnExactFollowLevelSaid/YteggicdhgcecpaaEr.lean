/- The law of FollowLevel; followers that come in by value. -/
import Derived.Test.YteggicdhgcecpaaEq
import Derived.Test.YteggicdhgcecpaaFq
set_option linter.unusedVariables false
set_option linter.unusedSimpArgs false
namespace Go.Proofs.Yteggicdhgcecpaa
namespace Fl
open Go.ChangeShapes Go.WideShapes Go.RowKit Go.Deep
section
variable {H : Type} {enc : TypeId × Value → H} {P : Program} {w : World} {base : Nat} {spare : Nat → Bool} {held : Bool}
theorem open_fol {r : Reach} {b0 : Nat} {t : TypeId} {f0 f1 f2 : Field} {v : Value} {d : DataW H} {p : List MemPlace} (hs : P.underlying t = some (.struct #[f0, f1, f2])) (hone : oneCellFields P #[f0, f1, f2] = true) (hC : P.cellsOf t = 3)
    (hfl : ∀ f ∈ [f0, f1, f2], P.underlying f.type = some (.float .f32)) (hv : Value.okWide P w r b0 t v) (h : DataW.Trod enc P w base spare held t v d p) :
    ∃ m : FolN, v = m.val ∧ FvFol m ⟨ab .f32 m.a, ab .f32 m.r, ab .f32 m.l⟩ := by
  obtain ⟨bs, hl, hsm, rfl⟩ := open_floats hs hone hC hfl hv h
  match bs, hl with
  | [a, b, c], _ =>
    exact ⟨⟨a, b, c⟩, rfl, ⟨Lib.hid (fvs (hsm a (by simp))), Lib.hid (fvs (hsm b (by simp))), Lib.hid (fvs (hsm c (by simp)))⟩⟩
end
end Fl
open Fl Go.RowKit
theorem lawFollowLevel_any (d : FolN) (A1 : Option Addr) (n1 c1 : Nat) (x1 : List Nat) (w : World) (hD : FvFol d ⟨ab .f32 d.a, ab .f32 d.r, ab .f32 d.l⟩) (h1 : Fs w w.heap.size A1 n1 x1) (m1 : n1 ≤ 9223372036854775807) :
    Calls Try.prog 5 #[d.val, .slice A1 n1 c1] w fun e w' => e = .returned (.bool true) ∧ w.Since w.heap.size w' := by
  by_cases b1 : 1048576 < n1
  · exact lawFollowLevel_big d A1 n1 c1 w b1
  by_cases hn : n1 ≤ 256
  · exact lawFollowLevel_gen d A1 n1 c1 x1 n1 _ _ true w h1 (by omega) (by omega) (fun v b g => specFollowL_ok d _ _ n1 _ x1 v hD g hn) (fun v b g => implFollowL_ok d _ _ n1 _ x1 v hD g hn)
  · exact lawFollowLevel_gen d A1 n1 c1 x1 0 (fun _ => none) zFol false w h1 (by omega) (by omega) (fun v b g => specFollowL_no d _ n1 _ v hn _) (fun v b g => implFollowL_no d _ n1 _ v hn _)
end Go.Proofs.Yteggicdhgcecpaa
