/- Dynamics: the program's gate, all samples. -/
import Derived.Test.YtogbejgbaenfdaaEh
set_option linter.unusedVariables false
set_option linter.unusedSimpArgs false
namespace Go.Proofs.Ytogbejgbaenfdaa
open Fl Go.RowKit
set_option maxHeartbeats 4000000 in
set_option maxRecDepth 100000 in
theorem implGate_ok (A : Option Addr) (n c : Nat) (xs : List Nat) (t : Nat) (T : O) (hold held : Int) (w : World) (hA : Fs w w.heap.size A n xs) (hn : n ≤ 256) (ht : Hid (Fv .f32 t T)) (h1 : inB hold 0 10000 = true) (h2 : inB held 0 hold = true) :
    Calls Try.prog 29 #[.slice A n c, .float .f32 t, .int .i64 hold, .int .i64 held] w (PLIB n (gateY (fun k => ab .f32 (wd xs k)) T hold held) (gateH (fun k => ab .f32 (wd xs k)) T hold held n) true w) := by
  have hfew : decide ((n : Int) ≤ 256) = true := decide_eq_true (by omega)
  have HA := Lib.hid hA
  have hok : okHold hold held = true := by unfold okHold; rw [h1, h2]; rfl
  have hb1 := h1; have hb2 := h2
  simp only [inB, Bool.and_eq_true, decide_eq_true_eq] at hb1 hb2
  clear hA h1 h2
  go_enter Try.func29, Try.ntmps29
  go_wp2_with (first | (go_at_call 61; refine (implSamples_b _ _ _ _ _ hfew).mono ?_; rintro e w' ⟨rfl, rfl⟩) | fail)
  generalize hW : World.alloc _ _ = W
  have S1 : Hid (w.Since w.heap.size W) := Lib.hid (by rw [← hW]; exact ((World.Since.refl _ _).alloc (Nat.le_refl _) _).alloc (by simp) _ |>.alloc (by simp; omega) _)
  have z1 : Hid (W.heap.size = w.heap.size + 1 + 1 + 1) := Lib.hid (by rw [← hW]; simp)
  have I1 : Hid (GateI w.heap.size t hold held W) := Lib.hid ⟨by rw [← hW]; simp, by rw [← hW]; simp [go_sem], by rw [← hW]; simp [go_sem], by rw [← hW]; have h9 := Go.Deep.blk_alloc_new ((w.alloc (.cells #[.float .f32 t] 24)).alloc (.cells #[.int .i64 hold] 2)) (.cells #[.int .i64 held] 2); simpa using h9⟩
  clear hW
  refine (isHold_any _ _ _ _ hok).mono ?_
  rintro e W2 ⟨rfl, hs2⟩
  have I2 : Hid (GateI w.heap.size t hold held W2) := Lib.hid (I1.out.of hs2.size fun i hi => hs2.block i (by have := z1.out; omega))
  have S2 : Hid (w.Since w.heap.size W2) := Lib.hid (since_step S1.out hs2)
  have z2 : Hid (w.heap.size + 1 + 1 + 1 ≤ W2.heap.size) := Lib.hid (by have := hs2.size; have := z1.out; omega)
  clear hs2
  go_wp2_with fail
  have hz2 := z2.out
  refine (results_any A n c xs 66 #[.pointer (some ⟨w.heap.size, 0, none⟩), .pointer (some ⟨w.heap.size + 1, 0, none⟩), .pointer (some ⟨w.heap.size + 1 + 1, 0, none⟩)] (w.heap.size + 1 + 1) (fun k W => GateI w.heap.size t hold (gateH (fun k => ab .f32 (wd xs k)) T hold held k) W) (gateY (fun k => ab .f32 (wd xs k)) T hold held) W2 ((HA.out.since S2.out).more (by omega)) (by omega) hn (fun _ _ => rfl) ?hI ?hst I2.out).mono ?_
  case hI => exact fun k W W' h1 h2 h3 h4 => h1.of h3 fun i hi => h4 i (by omega)
  case hst =>
    rintro k q W hk rfl hi hs
    have hh := gateH_in (X := fun k => ab .f32 (wd xs k)) (T := T) hb2.1 hb2.2 k
    exact gateClos_any w.heap.size _ t _ T hold _ W (Lib.hid ⟨HA.out.2.1.at_ k, rfl⟩) ht hi hh.1 (by omega)
  rintro e w5 ⟨ys, rfl, hg, ha, hi, ho⟩
  have HG := Lib.hid hg; have HAA := Lib.hid ha; have HO := Lib.hid ho; have hc3 : w5.cell? ⟨w.heap.size + 1 + 1, 0, none⟩ = some (.int .i64 (gateH (fun k => ab .f32 (wd xs k)) T hold held n)) := by simp [World.cell?, hi.he]
  clear hg ha ho hi hz2
  go_wp2_with fail
  go_region
  all_goals
    go_wp2
    go_ret3
    have hz2 := z2.out
    refine ⟨⟨some ⟨W2.heap.size, 0, none⟩, n, ys⟩, n, rfl, rfl, HG.out.less (by omega), HAA.out, ?_⟩
    exact since_drewN (S2.out.trans (HO.out.since (by omega))) _
end Go.Proofs.Ytogbejgbaenfdaa
