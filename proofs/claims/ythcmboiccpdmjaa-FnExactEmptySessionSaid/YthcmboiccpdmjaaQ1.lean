/- An empty session: both sides, equality and marks. -/
import Derived.Test.YthcmboiccpdmjaaEo
import Derived.Test.YthcmboiccpdmjaaSf
set_option linter.unusedVariables false
set_option linter.unusedSimpArgs false
namespace Go.Proofs.Ythcmboiccpdmjaa
open Fl Go.RowKit
/-- a strip in a block of its own -/
def SB (w : World) (g : Nat) (E : Option Addr) (t : Int) (p : Nat) (m s : Bool) : Prop := w.heap[g]? = some (.cells #[.slice E 0 0, .int .i64 t, .float .f32 p, .bool m, .bool s] 33 (0, 0))
section
variable {w w' : World} {g : Nat} {E : Option Addr} {t : Int} {p : Nat} {m s : Bool}
theorem SB.lt (h : SB w g E t p m s) : g < w.heap.size := (Array.getElem?_eq_some_iff.1 h).1
theorem SB.c0 (h : SB w g E t p m s) : w.cell? ⟨g, 0, none⟩ = some (.slice E 0 0) := by unfold SB at h; simp [World.cell?, h]
theorem SB.c1 (h : SB w g E t p m s) : w.cell? ⟨g, 1, none⟩ = some (.int .i64 t) := by unfold SB at h; simp [World.cell?, h]
theorem SB.c2 (h : SB w g E t p m s) : w.cell? ⟨g, 2, none⟩ = some (.float .f32 p) := by unfold SB at h; simp [World.cell?, h]
theorem SB.c3 (h : SB w g E t p m s) : w.cell? ⟨g, 3, none⟩ = some (.bool m) := by unfold SB at h; simp [World.cell?, h]
theorem SB.c4 (h : SB w g E t p m s) : w.cell? ⟨g, 4, none⟩ = some (.bool s) := by unfold SB at h; simp [World.cell?, h]
theorem SB.free (h : SB w g E t p m s) (o : Nat) : w.frozen? ⟨g, o, none⟩ = false := by unfold SB at h; simp [World.frozen?, h]
theorem SB.of (h : SB w g E t p m s) (e : w'.heap[g]? = w.heap[g]?) : SB w' g E t p m s := e.trans h
theorem SB.all (h : SB w g E t p m s) (t' : Int) (p' : Nat) (m' s' : Bool) : SB ((((w.setCell ⟨g, 1, none⟩ (.int .i64 t')).setCell ⟨g, 2, none⟩ (.float .f32 p')).setCell ⟨g, 3, none⟩ (.bool m')).setCell ⟨g, 4, none⟩ (.bool s')) g E t' p' m' s' := by
  unfold SB at h ⊢
  simp [World.setCell, Array.getElem?_modify, h]
end
/-- a session's block -/
def XB (w : World) (b : Nat) (x y : Value) : Prop := w.heap[b]? = some (.cells #[x, y] 25 (0, 0))
section
variable {w w' : World} {b : Nat} {x y : Value}
theorem XB.lt (h : XB w b x y) : b < w.heap.size := (Array.getElem?_eq_some_iff.1 h).1
theorem XB.c0 (h : XB w b x y) : w.cell? ⟨b, 0, none⟩ = some x := by unfold XB at h; simp [World.cell?, h]
theorem XB.c1 (h : XB w b x y) : w.cell? ⟨b, 1, none⟩ = some y := by unfold XB at h; simp [World.cell?, h]
theorem XB.free (h : XB w b x y) (o : Nat) : w.frozen? ⟨b, o, none⟩ = false := by unfold XB at h; simp [World.frozen?, h]
theorem XB.of (h : XB w b x y) (e : w'.heap[b]? = w.heap[b]?) : XB w' b x y := e.trans h
theorem XB.all (h : XB w b x y) (u v : Value) : XB ((w.setCell ⟨b, 0, none⟩ u).setCell ⟨b, 1, none⟩ v) b u v := by
  unfold XB at h ⊢
  simp [World.setCell, Array.getElem?_modify, h]
end
def stv (E : Option Addr) : Value := .agg #[.slice E 0 0, .int .i64 0, .float .f32 1056964608, .bool false, .bool false]
set_option maxHeartbeats 4000000 in
set_option maxRecDepth 100000 in
theorem emptyStrip_any (w : World) : Calls Try.prog 10 #[] w fun e w' => ∃ E, e = .returned (.agg #[.slice E 0 0, .int .i64 0, .float .f32 1056964608, .bool false, .bool false]) ∧ w.Since w.heap.size w' := by
  go_enter Try.func10, Try.ntmps10
  go_wp2_with fail
  exact bodyPost_ret (v := .agg #[.slice none 0 0, .int .i64 0, .float .f32 1056964608, .bool false, .bool false]) (by simp [results, Try.results10, go_sem]) rfl ⟨none, rfl, (World.Since.refl _ _).alloc (Nat.le_refl _) _⟩
set_option maxHeartbeats 4000000 in
set_option maxRecDepth 100000 in
theorem l11Strip_any (w : World) : Calls Try.prog 17 #[] w fun e w' => ∃ E, e = .returned (.agg #[.slice E 0 0, .int .i64 0, .float .f32 1056964608, .bool false, .bool false]) ∧ w.Since w.heap.size w' := by
  go_enter Try.func17, Try.ntmps17
  go_wp2_with fail
  exact bodyPost_ret (v := .agg #[.slice (some ⟨w.heap.size + 1, 0, none⟩) 0 0, .int .i64 0, .float .f32 1056964608, .bool false, .bool false]) (by simp [results, Try.results17, go_sem]) rfl ⟨some ⟨w.heap.size + 1, 0, none⟩, rfl, ((World.Since.refl _ _).alloc (Nat.le_refl _) _).alloc (by simp) _⟩
/-- a session without clips, with one strip -/
def PE (w : World) (e : Ending) (w' : World) : Prop := ∃ (A E : Option Addr) (g : Nat), e = .returned (.agg #[.slice A 0 0, .slice (some ⟨g, 0, none⟩) 1 1]) ∧ SB w' g E 0 1056964608 false false ∧ w.heap.size ≤ g ∧ w.Since w.heap.size w'
set_option maxHeartbeats 4000000 in
set_option maxRecDepth 100000 in
theorem implEmpty_any (w : World) : Calls Try.prog 5 #[] w (PE w) := by
  go_enter Try.func5, Try.ntmps5
  go_wp2_with fail
  generalize hW : World.alloc w _ = W0
  have T0 : Hid (w.Since w.heap.size W0) := Lib.hid (by rw [← hW]; exact (World.Since.refl _ _).alloc (Nat.le_refl _) _)
  refine (emptyStrip_any W0).mono ?_
  rintro e w1 ⟨E, rfl, hs⟩
  have T1 := Lib.hid (since_step T0.out hs)
  have R1 : Hid (XB w1 w.heap.size (.slice none 0 0) (.slice none 0 0)) := Lib.hid ((show XB W0 w.heap.size _ _ by rw [← hW]; exact Go.Deep.blk_alloc_new _ _).of (hs.block _ (by rw [← hW]; simp)))
  have hz : w.heap.size < w1.heap.size := R1.out.lt
  clear hW hs T0
  have R2 := Lib.hid (R1.out.all (.slice none 0 0) (.slice (some ⟨w1.heap.size, 0, none⟩) 1 1))
  have T2 := Lib.hid ((T1.out.setCell (a := ⟨w.heap.size, 0, none⟩) (Nat.le_refl _) (.slice none 0 0)).setCell (a := ⟨w.heap.size, 1, none⟩) (Nat.le_refl _) (.slice (some ⟨w1.heap.size, 0, none⟩) 1 1))
  have Z2 : Hid (((w1.setCell ⟨w.heap.size, 0, none⟩ (.slice none 0 0)).setCell ⟨w.heap.size, 1, none⟩ (.slice (some ⟨w1.heap.size, 0, none⟩) 1 1)).heap.size = w1.heap.size) := Lib.hid (by simp)
  have r0 := R1.out.c0; have r1 := R1.out.c1; have rl := R1.out.lt
  have f0 := fun o => R1.out.free o
  go_wp2_with fail
  generalize World.setCell _ _ _ = V at *
  have z2 := Z2.out
  rw [← z2] at R2 hz ⊢
  have G3 : SB (V.alloc (.cells #[.slice E 0 0, .int .i64 0, .float .f32 1056964608, .bool false, .bool false] 33)) V.heap.size E 0 1056964608 false false := Go.Deep.blk_alloc_new _ _
  have R3 := R2.out.of (blk_keep (.cells #[.slice E 0 0, .int .i64 0, .float .f32 1056964608, .bool false, .bool false] 33) R2.out.lt)
  have T3 := T2.out.alloc T2.out.size (.cells #[.slice E 0 0, .int .i64 0, .float .f32 1056964608, .bool false, .bool false] 33)
  have k0 := R3.c0; have k1 := R3.c1
  clear r0 r1 rl f0 R1 T1 R2 T2 Z2 z2 R3
  have hz2 : w.heap.size ≤ V.heap.size := Nat.le_of_lt hz
  generalize World.alloc V _ = U at *
  exact bodyPost_ret (v := .agg #[.slice none 0 0, .slice (some ⟨V.heap.size, 0, none⟩) 1 1]) (by simp [results, Try.results5, go_sem, k0, k1]) rfl ⟨none, E, V.heap.size, rfl, G3, hz2, T3⟩
set_option maxHeartbeats 4000000 in
set_option maxRecDepth 100000 in
theorem l11New_any (w : World) : Calls Try.prog 9 #[] w (PE w) := by
  go_enter Try.func9, Try.ntmps9
  go_wp2_with fail
  generalize hW : World.alloc _ _ = W0
  have T0 : Hid (w.Since w.heap.size W0) := Lib.hid (by rw [← hW]; exact ((World.Since.refl _ _).alloc (Nat.le_refl _) _).alloc (by simp) _)
  refine (l11Strip_any W0).mono ?_
  rintro e w1 ⟨E, rfl, hs⟩
  have T1 := Lib.hid (since_step T0.out hs)
  have R1 : Hid (XB w1 w.heap.size (.slice none 0 0) (.slice none 0 0)) := Lib.hid ((show XB W0 w.heap.size _ _ by rw [← hW]; exact (show XB (w.alloc _) w.heap.size _ _ from Go.Deep.blk_alloc_new _ _).of (blk_keep _ (by simp))).of (hs.block _ (by rw [← hW]; simp; omega)))
  have hz : w.heap.size < w1.heap.size := R1.out.lt
  clear hW hs T0
  have R2 := Lib.hid (R1.out.all (.slice (some ⟨w.heap.size + 1, 0, none⟩) 0 0) (.slice (some ⟨w1.heap.size, 0, none⟩) 1 1))
  have T2 := Lib.hid ((T1.out.setCell (a := ⟨w.heap.size, 0, none⟩) (Nat.le_refl _) (.slice (some ⟨w.heap.size + 1, 0, none⟩) 0 0)).setCell (a := ⟨w.heap.size, 1, none⟩) (Nat.le_refl _) (.slice (some ⟨w1.heap.size, 0, none⟩) 1 1))
  have Z2 : Hid (((w1.setCell ⟨w.heap.size, 0, none⟩ (.slice (some ⟨w.heap.size + 1, 0, none⟩) 0 0)).setCell ⟨w.heap.size, 1, none⟩ (.slice (some ⟨w1.heap.size, 0, none⟩) 1 1)).heap.size = w1.heap.size) := Lib.hid (by simp)
  have r0 := R1.out.c0; have r1 := R1.out.c1; have rl := R1.out.lt
  have f0 := fun o => R1.out.free o
  go_wp2_with fail
  generalize World.setCell _ _ _ = V at *
  have z2 := Z2.out
  rw [← z2] at R2 hz ⊢
  have G3 : SB (V.alloc (.cells #[.slice E 0 0, .int .i64 0, .float .f32 1056964608, .bool false, .bool false] 33)) V.heap.size E 0 1056964608 false false := Go.Deep.blk_alloc_new _ _
  have R3 := R2.out.of (blk_keep (.cells #[.slice E 0 0, .int .i64 0, .float .f32 1056964608, .bool false, .bool false] 33) R2.out.lt)
  have T3 := T2.out.alloc T2.out.size (.cells #[.slice E 0 0, .int .i64 0, .float .f32 1056964608, .bool false, .bool false] 33)
  have k0 := R3.c0; have k1 := R3.c1
  clear r0 r1 rl f0 R1 T1 R2 T2 Z2 z2 R3
  have hz2 : w.heap.size ≤ V.heap.size := Nat.le_of_lt hz
  generalize World.alloc V _ = U at *
  exact bodyPost_ret (v := .agg #[.slice (some ⟨w.heap.size + 1, 0, none⟩) 0 0, .slice (some ⟨V.heap.size, 0, none⟩) 1 1]) (by simp [results, Try.results9, go_sem, k0, k1]) rfl ⟨some ⟨w.heap.size + 1, 0, none⟩, E, V.heap.size, rfl, G3, hz2, T3⟩
set_option maxHeartbeats 4000000 in
set_option maxRecDepth 100000 in
theorem specEmpty_any (w : World) : Calls Try.prog 4 #[] w (PE w) := by
  go_enter Try.func4, Try.ntmps4
  go_wp2_with fail
  generalize hW : World.alloc w _ = W0
  have T0 : Hid (w.Since w.heap.size W0) := Lib.hid (by rw [← hW]; exact (World.Since.refl _ _).alloc (Nat.le_refl _) _)
  refine (l11New_any W0).mono ?_
  rintro e w1 ⟨A, E, g, rfl, hG, hg, hs⟩
  have T1 := Lib.hid (since_step T0.out hs)
  have R1 : Hid (XB w1 w.heap.size (.slice none 0 0) (.slice none 0 0)) := Lib.hid ((show XB W0 w.heap.size _ _ by rw [← hW]; exact Go.Deep.blk_alloc_new _ _).of (hs.block _ (by rw [← hW]; simp)))
  have hz : w.heap.size < g := by rw [← hW] at hg; simp at hg; omega
  have HG := Lib.hid hG
  clear hW hs T0 hG hg
  have r0 := R1.out.c0; have r1 := R1.out.c1
  have f0 := fun o => R1.out.free o
  have R2 := Lib.hid (R1.out.all (.slice A 0 0) (.slice (some ⟨g, 0, none⟩) 1 1))
  have T2 := Lib.hid ((T1.out.setCell (a := ⟨w.heap.size, 0, none⟩) (Nat.le_refl _) (.slice A 0 0)).setCell (a := ⟨w.heap.size, 1, none⟩) (Nat.le_refl _) (.slice (some ⟨g, 0, none⟩) 1 1))
  have G2 : Hid (SB ((w1.setCell ⟨w.heap.size, 0, none⟩ (.slice A 0 0)).setCell ⟨w.heap.size, 1, none⟩ (.slice (some ⟨g, 0, none⟩) 1 1)) g E 0 1056964608 false false) := Lib.hid ((HG.out.of (Go.Deep.blk_setCell_other _ _ _ _ (show g ≠ w.heap.size by omega))).of (Go.Deep.blk_setCell_other _ _ _ _ (show g ≠ w.heap.size by omega)))
  go_wp2_with fail
  generalize World.setCell _ _ _ = V at *
  have k0 := R2.out.c0; have k1 := R2.out.c1
  exact bodyPost_ret (v := .agg #[.slice A 0 0, .slice (some ⟨g, 0, none⟩) 1 1]) (by simp [results, Try.results4, go_sem, k0, k1]) rfl ⟨A, E, g, rfl, G2.out, by omega, T2.out⟩
set_option maxHeartbeats 4000000 in
set_option maxRecDepth 100000 in
theorem eqClipS_0 (A B : Option Addr) (w : World) : Calls Try.prog 11 #[.slice A 0 0, .slice B 0 0] w fun e w' => e = .returned (.bool true) ∧ w' = w := by
  go_enter Try.func11, Try.ntmps11
  go_wp2_with fail
  go_loopw [5] (fun i wr => i = .int .i64 0 ∧ wr = w) (fun _ _ => 0)
  case atStart => exact ⟨rfl, rfl⟩
  case round =>
    obtain ⟨rfl, rfl⟩ := hrel
    go_wp2
    go_ret
    exact ⟨rfl, rfl⟩
set_option maxHeartbeats 4000000 in
set_option maxRecDepth 100000 in
theorem eqEffectS_0 (A B : Option Addr) (w : World) : Calls Try.prog 25 #[.slice A 0 0, .slice B 0 0] w fun e w' => e = .returned (.bool true) ∧ w' = w := by
  go_enter Try.func25, Try.ntmps25
  go_wp2_with fail
  go_loopw [5] (fun i wr => i = .int .i64 0 ∧ wr = w) (fun _ _ => 0)
  case atStart => exact ⟨rfl, rfl⟩
  case round =>
    obtain ⟨rfl, rfl⟩ := hrel
    go_wp2
    go_ret
    exact ⟨rfl, rfl⟩
set_option maxHeartbeats 4000000 in
set_option maxRecDepth 100000 in
theorem markClipS_0 (A : Option Addr) (k : Int) (w : World) : Calls Try.prog 13 #[.slice A 0 0, .int .i64 k] w fun e w' => e = .returned (.int .i64 k) ∧ w' = w := by
  go_enter Try.func13, Try.ntmps13
  go_wp2_with fail
  go_loopw [1, 5] (fun k' i wr => k' = .int .i64 k ∧ i = .int .i64 0 ∧ wr = w) (fun _ _ _ => 0)
  case atStart => exact ⟨rfl, rfl, rfl⟩
  case round =>
    obtain ⟨rfl, rfl, rfl⟩ := hrel
    go_wp2
    go_ret
    exact ⟨rfl, rfl⟩
set_option maxHeartbeats 4000000 in
set_option maxRecDepth 100000 in
theorem markEffectS_0 (A : Option Addr) (k : Int) (w : World) : Calls Try.prog 21 #[.slice A 0 0, .int .i64 k] w fun e w' => e = .returned (.int .i64 k) ∧ w' = w := by
  go_enter Try.func21, Try.ntmps21
  go_wp2_with fail
  go_loopw [1, 5] (fun k' i wr => k' = .int .i64 k ∧ i = .int .i64 0 ∧ wr = w) (fun _ _ _ => 0)
  case atStart => exact ⟨rfl, rfl, rfl⟩
  case round =>
    obtain ⟨rfl, rfl, rfl⟩ := hrel
    go_wp2
    go_ret
    exact ⟨rfl, rfl⟩
set_option maxHeartbeats 4000000 in
set_option maxRecDepth 100000 in
theorem heldClipS_0 (A : Option Addr) (k : Int) (w : World) : Calls Try.prog 15 #[.slice A 0 0, .int .i64 k] w fun e w' => e = .returned (.int .i64 k) ∧ w' = w := by
  go_enter Try.func15, Try.ntmps15
  go_wp2_with fail
  go_loopw [1, 5] (fun k' i wr => k' = .int .i64 k ∧ i = .int .i64 0 ∧ wr = w) (fun _ _ _ => 0)
  case atStart => exact ⟨rfl, rfl, rfl⟩
  case round =>
    obtain ⟨rfl, rfl, rfl⟩ := hrel
    go_wp2
    go_ret
    exact ⟨rfl, rfl⟩
set_option maxHeartbeats 4000000 in
set_option maxRecDepth 100000 in
theorem heldEffectS_0 (A : Option Addr) (k : Int) (w : World) : Calls Try.prog 23 #[.slice A 0 0, .int .i64 k] w fun e w' => e = .returned (.int .i64 k) ∧ w' = w := by
  go_enter Try.func23, Try.ntmps23
  go_wp2_with fail
  go_loopw [1, 5] (fun k' i wr => k' = .int .i64 k ∧ i = .int .i64 0 ∧ wr = w) (fun _ _ _ => 0)
  case atStart => exact ⟨rfl, rfl, rfl⟩
  case round =>
    obtain ⟨rfl, rfl, rfl⟩ := hrel
    go_wp2
    go_ret
    exact ⟨rfl, rfl⟩
theorem conv_half (W : World) : (convert 31 49 (.float .f32 1056964608)).run Try.prog W = .ok (.float .f64 4602678819172646912) W := by
  have h := run_wide (P := Try.prog) 31 49 1056964608 (by kernel_rfl) (by kernel_rfl) W
  have e : FloatKind.f64.encode (FloatKind.f32.decode 1056964608) = 4602678819172646912 := by decide +kernel
  have hab : ab .f32 1056964608 = some 1056964608 := by decide
  unfold Fl.wv Fl.wn at h
  rw [hab] at h
  rw [← e]
  exact h
set_option maxHeartbeats 4000000 in
set_option maxRecDepth 100000 in
theorem eqStrip_c (E1 E2 : Option Addr) (w : World) : Calls Try.prog 19 #[.agg #[.slice E1 0 0, .int .i64 0, .float .f32 1056964608, .bool false, .bool false], .agg #[.slice E2 0 0, .int .i64 0, .float .f32 1056964608, .bool false, .bool false]] w fun e w' => e = .returned (.bool true) ∧ w.Since w.heap.size w' := by
  have hcv := conv_half
  go_enter Try.func19, Try.ntmps19
  go_wp2_with fail
  generalize hW : World.alloc _ _ = W0
  have T0 : Hid (w.Since w.heap.size W0) := Lib.hid (by rw [← hW]; exact ((World.Since.refl _ _).alloc (Nat.le_refl _) _).alloc (by simp) _)
  have G1 : Hid (SB W0 w.heap.size E1 0 1056964608 false false) := Lib.hid (by rw [← hW]; exact SB.of (show SB (w.alloc _) w.heap.size E1 0 1056964608 false false from Go.Deep.blk_alloc_new _ _) (blk_keep _ (by simp)))
  have G2 : Hid (SB W0 (w.heap.size + 1) E2 0 1056964608 false false) := Lib.hid (by rw [← hW, show w.heap.size + 1 = (w.alloc (.cells #[.slice E1 0 0, .int .i64 0, .float .f32 1056964608, .bool false, .bool false] 33)).heap.size by simp]; exact Go.Deep.blk_alloc_new _ _)
  clear hW
  refine (eqEffectS_0 E1 E2 W0).mono ?_
  rintro e w1 ⟨rfl, rfl⟩
  have a1 := G1.out.c1; have a2 := G1.out.c2; have a3 := G1.out.c3; have a4 := G1.out.c4
  have b1 := G2.out.c1; have b2 := G2.out.c2; have b3 := G2.out.c3; have b4 := G2.out.c4
  go_wp2_with fail
  refine (sameFloat_some 4602678819172646912 _ (by decide)).mono ?_
  rintro e w2 ⟨rfl, nn, rfl⟩
  go_wp2_with fail
  go_ret
  exact ⟨rfl, since_drewN T0.out nn⟩
set_option maxHeartbeats 4000000 in
set_option maxRecDepth 100000 in
theorem eqStripS_1 (g h : Nat) (E1 E2 : Option Addr) (w : World) (hg : SB w g E1 0 1056964608 false false) (hh : SB w h E2 0 1056964608 false false) : Calls Try.prog 12 #[.slice (some ⟨g, 0, none⟩) 1 1, .slice (some ⟨h, 0, none⟩) 1 1] w fun e w' => e = .returned (.bool true) ∧ w.Since w.heap.size w' := by
  have HG := Lib.hid hg; have HH := Lib.hid hh; clear hg hh
  go_enter Try.func12, Try.ntmps12
  go_wp2_with fail
  go_loopw [5] (fun i wr => (i = .int .i64 0 ∧ wr = w) ∨ (i = .int .i64 1 ∧ w.Since w.heap.size wr)) (fun i _ => 1 - (intOf i).toNat)
  case atStart => exact .inl ⟨rfl, rfl⟩
  case round =>
    rcases hrel with ⟨rfl, rfl⟩ | ⟨rfl, hs⟩
    · have a0 := HG.out.c0; have a1 := HG.out.c1; have a2 := HG.out.c2; have a3 := HG.out.c3; have a4 := HG.out.c4
      have b0 := HH.out.c0; have b1 := HH.out.c1; have b2 := HH.out.c2; have b3 := HH.out.c3; have b4 := HH.out.c4
      go_wp2_with fail
      go_region_with (go_at_call 19; refine (eqStrip_c E1 E2 _).mono ?_; rintro e w' ⟨rfl, hs⟩)
      all_goals
        have HS := Lib.hid hs; clear hs
        go_wp2_with fail
        exact ⟨.inr ⟨rfl, ⟨HS.out.os, HS.out.tape, HS.out.output, HS.out.size, HS.out.block⟩⟩, by simp [intOf]⟩
    · have HS := Lib.hid hs; clear hs
      go_wp2
      go_ret
      exact ⟨rfl, HS.out⟩
set_option maxHeartbeats 4000000 in
set_option maxRecDepth 100000 in
theorem markStripS_1 (g : Nat) (E : Option Addr) (w : World) (hg : SB w g E 0 1056964608 false false) : Calls Try.prog 14 #[.slice (some ⟨g, 0, none⟩) 1 1, .int .i64 1] w fun e w' => e = .returned (.int .i64 5) ∧ SB w' g E 1 1073741824 true false ∧ On g w w' := by
  have HG := Lib.hid hg; clear hg
  have hfi : floatOfInt .f32 2 = 1073741824 := by decide +kernel
  go_enter Try.func14, Try.ntmps14
  go_wp2_with fail
  go_loopw [1, 5] (fun k i wr => (k = .int .i64 1 ∧ i = .int .i64 0 ∧ wr = w) ∨ (k = .int .i64 5 ∧ i = .int .i64 1 ∧ SB wr g E 1 1073741824 true false ∧ On g w wr)) (fun _ i _ => 1 - (intOf i).toNat)
  case atStart => exact .inl ⟨rfl, rfl, rfl⟩
  case round =>
    rcases hrel with ⟨rfl, rfl, rfl⟩ | ⟨rfl, rfl, hs, ho⟩
    · have a0 := HG.out.c0; have a1 := HG.out.c1; have a2 := HG.out.c2; have a3 := HG.out.c3; have a4 := HG.out.c4
      have f0 := fun o => HG.out.free o
      have NB := Lib.hid (HG.out.all 1 1073741824 true false)
      have NO := Lib.hid ((((On.refl g wr).set 1 (.int .i64 1)).set 2 (.float .f32 1073741824)).set 3 (.bool true) |>.set 4 (.bool false))
      go_wp2_with fail
      refine (markEffectS_0 E 1 _).mono ?_
      rintro e w1 ⟨rfl, rfl⟩
      go_wp2_with fail
      exact ⟨.inr ⟨rfl, rfl, NB.out, NO.out⟩, by simp [intOf]⟩
    · have HS := Lib.hid hs; have HO := Lib.hid ho; clear hs ho
      go_wp2
      go_ret
      exact ⟨rfl, HS.out, HO.out⟩
set_option maxHeartbeats 4000000 in
set_option maxRecDepth 100000 in
theorem heldStripS_1 (g : Nat) (E : Option Addr) (w : World) (hg : SB w g E 1 1073741824 true false) : Calls Try.prog 16 #[.slice (some ⟨g, 0, none⟩) 1 1, .int .i64 1] w fun e w' => e = .returned (.int .i64 5) ∧ w.Since w.heap.size w' := by
  have HG := Lib.hid hg; clear hg
  have hfi : floatOfInt .f32 2 = 1073741824 := by decide +kernel
  have hor : FloatKind.f32.format.order 1073741824 1073741824 = some .eq := by decide +kernel
  go_enter Try.func16, Try.ntmps16
  go_wp2_with fail
  go_loopw [1, 5] (fun k i wr => (k = .int .i64 1 ∧ i = .int .i64 0 ∧ wr = w) ∨ (k = .int .i64 5 ∧ i = .int .i64 1 ∧ w.Since w.heap.size wr)) (fun _ i _ => 1 - (intOf i).toNat)
  case atStart => exact .inl ⟨rfl, rfl, rfl⟩
  case round =>
    rcases hrel with ⟨rfl, rfl, rfl⟩ | ⟨rfl, rfl, hs⟩
    · have a0 := HG.out.c0; have a1 := HG.out.c1; have a2 := HG.out.c2; have a3 := HG.out.c3; have a4 := HG.out.c4
      go_wp2_with fail
      refine (heldEffectS_0 E 1 _).mono ?_
      rintro e w1 ⟨rfl, rfl⟩
      go_wp2_with fail
      exact ⟨.inr ⟨rfl, rfl, by first | exact World.Since.refl _ _ | exact since_drewN (World.Since.refl _ _) _⟩, by simp [intOf]⟩
    · have HS := Lib.hid hs; clear hs
      go_wp2
      go_ret
      exact ⟨rfl, HS.out⟩
theorem SB.since {w w' : World} {g : Nat} {E : Option Addr} {t : Int} {p : Nat} {m s : Bool} (h : SB w g E t p m s) (hs : w.Since w.heap.size w') : SB w' g E t p m s := h.of (hs.block _ h.lt)
set_option maxHeartbeats 4000000 in
set_option maxRecDepth 100000 in
theorem eqSession_c (A B E1 E2 : Option Addr) (g h : Nat) (w : World) (hg : SB w g E1 0 1056964608 false false) (hh : SB w h E2 0 1056964608 false false) : Calls Try.prog 6 #[.agg #[.slice A 0 0, .slice (some ⟨g, 0, none⟩) 1 1], .agg #[.slice B 0 0, .slice (some ⟨h, 0, none⟩) 1 1]] w fun e w' => e = .returned (.bool true) ∧ w.Since w.heap.size w' := by
  have HG := Lib.hid hg; have HH := Lib.hid hh; clear hg hh
  go_enter Try.func6, Try.ntmps6
  go_wp2_with fail
  generalize hW : World.alloc _ _ = W0
  have T0 : Hid (w.Since w.heap.size W0) := Lib.hid (by rw [← hW]; exact ((World.Since.refl _ _).alloc (Nat.le_refl _) _).alloc (by simp) _)
  have X1 : Hid (XB W0 w.heap.size (.slice A 0 0) (.slice (some ⟨g, 0, none⟩) 1 1)) := Lib.hid (by rw [← hW]; exact XB.of (show XB (w.alloc _) w.heap.size _ _ from Go.Deep.blk_alloc_new _ _) (blk_keep _ (by simp)))
  have X2 : Hid (XB W0 (w.heap.size + 1) (.slice B 0 0) (.slice (some ⟨h, 0, none⟩) 1 1)) := Lib.hid (by rw [← hW, show w.heap.size + 1 = (w.alloc (.cells #[.slice A 0 0, .slice (some ⟨g, 0, none⟩) 1 1] 25)).heap.size by simp]; exact Go.Deep.blk_alloc_new _ _)
  clear hW
  have G0 := Lib.hid (HG.out.since T0.out); have H0 := Lib.hid (HH.out.since T0.out)
  refine (eqClipS_0 A B W0).mono ?_
  rintro e w1 ⟨rfl, rfl⟩
  have x1 := X1.out.c1; have x2 := X2.out.c1
  go_wp2_with fail
  refine (eqStripS_1 g h E1 E2 w1 G0.out H0.out).mono ?_
  rintro e w2 ⟨rfl, hs⟩
  have T2 := Lib.hid (since_step T0.out hs)
  clear hs x1 x2
  go_wp2_with fail
  go_ret
  exact ⟨rfl, T2.out⟩
set_option maxHeartbeats 4000000 in
set_option maxRecDepth 100000 in
theorem markSession_c (A E : Option Addr) (g : Nat) (w : World) (hg : SB w g E 0 1056964608 false false) : Calls Try.prog 7 #[.agg #[.slice A 0 0, .slice (some ⟨g, 0, none⟩) 1 1], .int .i64 1] w fun e w' => e = .returned (.int .i64 5) ∧ SB w' g E 1 1073741824 true false ∧ On g w w' := by
  have HG := Lib.hid hg; clear hg
  have hlt := HG.out.lt
  go_enter Try.func7, Try.ntmps7
  go_wp2_with fail
  generalize hW : World.alloc _ _ = W0
  have T0 : Hid (w.Since w.heap.size W0) := Lib.hid (by rw [← hW]; exact (World.Since.refl _ _).alloc (Nat.le_refl _) _)
  have O0 : Hid (On g w W0) := Lib.hid (by rw [← hW]; exact (On.refl _ _).alloc (Nat.le_of_lt hlt) _)
  have X1 : Hid (XB W0 w.heap.size (.slice A 0 0) (.slice (some ⟨g, 0, none⟩) 1 1)) := Lib.hid (by rw [← hW]; exact Go.Deep.blk_alloc_new _ _)
  clear hW
  have G0 := Lib.hid (HG.out.since T0.out)
  refine (markClipS_0 A 1 W0).mono ?_
  rintro e w1 ⟨rfl, rfl⟩
  have x1 := X1.out.c1
  go_wp2_with fail
  refine (markStripS_1 g E w1 G0.out).mono ?_
  rintro e w2 ⟨rfl, h1, h2⟩
  have H1 := Lib.hid h1; have H2 := Lib.hid (O0.out.trans h2)
  clear h1 h2 x1
  go_wp2_with fail
  go_ret
  exact ⟨rfl, H1.out, H2.out⟩
set_option maxHeartbeats 4000000 in
set_option maxRecDepth 100000 in
theorem heldSession_c (A E : Option Addr) (g : Nat) (w : World) (hg : SB w g E 1 1073741824 true false) : Calls Try.prog 8 #[.agg #[.slice A 0 0, .slice (some ⟨g, 0, none⟩) 1 1], .int .i64 1] w fun e w' => e = .returned (.int .i64 5) ∧ w.Since w.heap.size w' := by
  have HG := Lib.hid hg; clear hg
  go_enter Try.func8, Try.ntmps8
  go_wp2_with fail
  generalize hW : World.alloc _ _ = W0
  have T0 : Hid (w.Since w.heap.size W0) := Lib.hid (by rw [← hW]; exact (World.Since.refl _ _).alloc (Nat.le_refl _) _)
  have X1 : Hid (XB W0 w.heap.size (.slice A 0 0) (.slice (some ⟨g, 0, none⟩) 1 1)) := Lib.hid (by rw [← hW]; exact Go.Deep.blk_alloc_new _ _)
  clear hW
  have G0 := Lib.hid (HG.out.since T0.out)
  refine (heldClipS_0 A 1 W0).mono ?_
  rintro e w1 ⟨rfl, rfl⟩
  have x1 := X1.out.c1
  go_wp2_with fail
  refine (heldStripS_1 g E w1 G0.out).mono ?_
  rintro e w2 ⟨rfl, hs⟩
  have T2 := Lib.hid (since_step T0.out hs)
  clear hs x1
  go_wp2_with fail
  go_ret
  exact ⟨rfl, T2.out⟩
set_option maxHeartbeats 4000000 in
set_option maxRecDepth 100000 in
theorem lawEmptySession_any (w : World) : Calls Try.prog 3 #[] w fun e w' => e = .returned (.bool true) ∧ w.Since w.heap.size w' := by
  go_enter Try.func3, Try.ntmps3
  go_wp2_with fail
  refine (specEmpty_any w).mono ?_
  rintro e w1 ⟨A1, E1, g1, rfl, hG1, hg1, hs⟩
  have T1 := Lib.hid hs; have G1 := Lib.hid hG1
  clear hs hG1
  go_wp2_with fail
  generalize hW : World.alloc w1 _ = W1
  obtain ⟨b1, hb1⟩ : ∃ q, Hid (q = w1.heap.size) := ⟨_, Lib.hid rfl⟩
  have hs : w1.Since w1.heap.size W1 := by rw [← hW]; exact (World.Since.refl _ _).alloc (Nat.le_refl _) _
  have X2 : Hid (XB W1 b1 (.slice A1 0 0) (.slice (some ⟨g1, 0, none⟩) 1 1)) := Lib.hid (by rw [← hW, hb1.out]; exact Go.Deep.blk_alloc_new _ _)
  have T2 := Lib.hid (since_step T1.out hs); have G2 := Lib.hid (G1.out.since hs)
  have hgb : Hid (g1 < b1) := Lib.hid (by rw [hb1.out]; exact G1.out.lt)
  rw [← hb1.out]
  clear hW hs hb1 T1 G1
  refine (implEmpty_any W1).mono ?_
  rintro e w3 ⟨A3, E3, g3, rfl, hG3, hg3, hs⟩
  have T3 := Lib.hid (since_step T2.out hs); have G3 := Lib.hid (G2.out.since hs); have X3 := Lib.hid (X2.out.of (hs.block _ X2.out.lt)); have I3 := Lib.hid hG3
  have h13 : Hid (b1 < g3) := Lib.hid (Nat.lt_of_lt_of_le X2.out.lt hg3)
  clear hs hG3 hg3 T2 G2 X2
  have x1 := X3.out.c0; have x2 := X3.out.c1; have xl := X3.out.lt
  go_wp2_with fail
  generalize hW : World.alloc w3 _ = W4
  obtain ⟨b3, hb3⟩ : ∃ q, Hid (q = w3.heap.size) := ⟨_, Lib.hid rfl⟩
  have hs : w3.Since w3.heap.size W4 := by rw [← hW]; exact (World.Since.refl _ _).alloc (Nat.le_refl _) _
  have Y4 : Hid (XB W4 b3 (.slice A3 0 0) (.slice (some ⟨g3, 0, none⟩) 1 1)) := Lib.hid (by rw [← hW, hb3.out]; exact Go.Deep.blk_alloc_new _ _)
  have T4 := Lib.hid (since_step T3.out hs); have G4 := Lib.hid (G3.out.since hs); have X4 := Lib.hid (X3.out.of (hs.block _ X3.out.lt)); have I4 := Lib.hid (I3.out.since hs)
  have h33 : Hid (g3 < b3) := Lib.hid (by rw [hb3.out]; exact I3.out.lt)
  rw [← hb3.out]
  clear hW hs hb3 T3 G3 X3 I3 x1 x2 xl
  refine (eqSession_c A3 A1 E3 E1 g3 g1 W4 I4.out G4.out).mono ?_
  rintro e w5 ⟨rfl, hs⟩
  have T5 := Lib.hid (since_step T4.out hs); have G5 := Lib.hid (G4.out.since hs); have X5 := Lib.hid (X4.out.of (hs.block _ X4.out.lt)); have I5 := Lib.hid (I4.out.since hs); have Y5 := Lib.hid (Y4.out.of (hs.block _ Y4.out.lt))
  clear hs T4 G4 X4 I4 Y4
  have y1 := Y5.out.c0; have y2 := Y5.out.c1
  go_wp2_with fail
  refine (markSession_c A3 E3 g3 w5 I5.out).mono ?_
  rintro e w6 ⟨rfl, hI, ho⟩
  have T6 := Lib.hid (T5.out.trans (ho.since (by have := hgb.out; have := h13.out; omega)))
  have G6 := Lib.hid (G5.out.of (ho.2 _ G5.out.lt (by have := hgb.out; have := h13.out; omega))); have X6 := Lib.hid (X5.out.of (ho.2 _ X5.out.lt (by have := h13.out; omega))); have Y6 := Lib.hid (Y5.out.of (ho.2 _ Y5.out.lt (by have := h33.out; omega))); have I6 := Lib.hid hI
  clear hI ho T5 G5 X5 I5 Y5 y1 y2
  have y1 := Y6.out.c0; have y2 := Y6.out.c1
  go_wp2_with fail
  refine (heldSession_c A3 E3 g3 w6 I6.out).mono ?_
  rintro e w7 ⟨rfl, hs⟩
  have T7 := Lib.hid (since_step T6.out hs); have G7 := Lib.hid (G6.out.since hs); have X7 := Lib.hid (X6.out.of (hs.block _ X6.out.lt)); have I7 := Lib.hid (I6.out.since hs); have Y7 := Lib.hid (Y6.out.of (hs.block _ Y6.out.lt))
  clear hs T6 G6 X6 I6 Y6 y1 y2
  go_wp2_with fail
  refine (implEmpty_any w7).mono ?_
  rintro e w8 ⟨A8, E8, g8, rfl, hG8, hg8, hs⟩
  have T8 := Lib.hid (since_step T7.out hs); have G8 := Lib.hid (G7.out.since hs); have X8 := Lib.hid (X7.out.of (hs.block _ X7.out.lt)); have I8 := Lib.hid (I7.out.since hs); have Y8 := Lib.hid (Y7.out.of (hs.block _ Y7.out.lt)); have J8 := Lib.hid hG8
  clear hs hG8 T7 G7 X7 I7 Y7
  have x1 := X8.out.c0; have x2 := X8.out.c1; have xl := X8.out.lt
  go_wp2_with fail
  generalize hW : World.alloc w8 _ = W9
  have hs : w8.Since w8.heap.size W9 := by rw [← hW]; exact (World.Since.refl _ _).alloc (Nat.le_refl _) _
  have T9 := Lib.hid (since_step T8.out hs); have G9 := Lib.hid (G8.out.since hs); have I9 := Lib.hid (I8.out.since hs); have Y9 := Lib.hid (Y8.out.of (hs.block _ Y8.out.lt)); have J9 := Lib.hid (J8.out.since hs)
  clear hW hs T8 G8 X8 I8 Y8 J8 x1 x2 xl
  refine (eqSession_c A8 A1 E8 E1 g8 g1 W9 J9.out G9.out).mono ?_
  rintro e v1 ⟨rfl, hs⟩
  have T10 := Lib.hid (since_step T9.out hs); have I10 := Lib.hid (I9.out.since hs); have Y10 := Lib.hid (Y9.out.of (hs.block _ Y9.out.lt))
  clear hs T9 G9 I9 Y9 J9
  have y1 := Y10.out.c0; have y2 := Y10.out.c1
  go_wp2_with fail
  refine (heldSession_c A3 E3 g3 v1 I10.out).mono ?_
  rintro e v2 ⟨rfl, hs⟩
  have T11 := Lib.hid (since_step T10.out hs)
  clear hs T10 I10 Y10 y1 y2
  go_wp2_with fail
  go_ret
  exact ⟨rfl, T11.out⟩
end Go.Proofs.Ythcmboiccpdmjaa
