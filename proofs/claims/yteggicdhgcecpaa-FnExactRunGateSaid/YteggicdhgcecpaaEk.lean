/- The laws of ClipSamples, FadeSamples, RunGate. -/
import Derived.Test.YteggicdhgcecpaaEj
set_option linter.unusedVariables false
set_option linter.unusedSimpArgs false
namespace Go.Proofs.Yteggicdhgcecpaa
open Fl Go.RowKit
theorem lawClipSamples_any (A0 : Option Addr) (n0 c0 : Nat) (x0 : List Nat) (l : Nat) (w : World) (h0 : Fs w w.heap.size A0 n0 x0) (m0 : n0 ≤ 9223372036854775807) (hl : Fv .f32 l (ab .f32 l)) :
    Calls Try.prog 7 #[.slice A0 n0 c0, .float .f32 l] w fun e w' => e = .returned (.bool true) ∧ w.Since w.heap.size w' := by
  by_cases b1 : 1048576 < n0
  · exact lawClipSamples_big A0 n0 c0 l w b1
  by_cases hn : n0 ≤ 256
  · exact lawClipSamples_gen A0 n0 c0 x0 l n0 _ true w h0 (by omega) (by omega) (fun v b g => specClipS_ok _ n0 _ x0 l _ v g hn (Lib.hid hl)) (fun v b g => implClipS_ok _ n0 _ x0 l _ v g hn (Lib.hid hl))
  · exact lawClipSamples_gen A0 n0 c0 x0 l 0 (fun _ => none) false w h0 (by omega) (by omega) (fun v b g => specClipS_no _ n0 _ l v hn _) (fun v b g => implClipS_no _ n0 _ l v hn _)
theorem lawRunGate_any (A0 : Option Addr) (n0 c0 : Nat) (x0 : List Nat) (t : Nat) (hold held : Int) (w : World) (h0 : Fs w w.heap.size A0 n0 x0) (m0 : n0 ≤ 9223372036854775807) (ht : Fv .f32 t (ab .f32 t)) (w1 : (Lit.int .i64 hold).wf = true) (w2 : (Lit.int .i64 held).wf = true) :
    Calls Try.prog 6 #[.slice A0 n0 c0, .float .f32 t, .int .i64 hold, .int .i64 held] w fun e w' => e = .returned (.bool true) ∧ w.Since w.heap.size w' := by
  by_cases b1 : 1048576 < n0
  · exact lawRunGate_big A0 n0 c0 t hold held w b1
  by_cases hn : n0 ≤ 256 ∧ inB hold 0 10000 = true ∧ inB held 0 hold = true
  · exact lawRunGate_gen A0 n0 c0 x0 t hold held n0 _ _ true w h0 (by omega) (by omega) (fun v b g => specGate_ok _ n0 _ x0 t _ hold held v g hn.1 (Lib.hid ht) hn.2.1 hn.2.2) (fun v b g => implGate_ok _ n0 _ x0 t _ hold held v g hn.1 (Lib.hid ht) hn.2.1 hn.2.2)
  · exact lawRunGate_gen A0 n0 c0 x0 t hold held 0 (fun _ => none) 0 false w h0 (by omega) (by omega) (fun v b g => specGate_no _ n0 _ t hold held v hn _) (fun v b g => implGate_no _ n0 _ t hold held v (fun h => hn ⟨h.1, by have := h.2; unfold okHold at this; simpa using this⟩) _)
end Go.Proofs.Yteggicdhgcecpaa
