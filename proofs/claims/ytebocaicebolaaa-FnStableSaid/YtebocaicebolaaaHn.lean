/- Draws: filters and memories of any numbers. -/
import Derived.Test.YtebocaicebolaaaHh
import Derived.Test.YtebocaicebolaaaGu
import Derived.Deep.MidRow
set_option linter.unusedVariables false
set_option linter.unusedSimpArgs false
namespace Go.Proofs.Ytebocaicebolaaa
open Fl Go.RowKit
set_option maxHeartbeats 4000000 in
set_option maxRecDepth 100000 in
theorem drawNum_any (B b K : Nat) (w : World) (h : Src B b K w) (hK : K ≤ 700000) :
    Calls Try.prog 93 #[.pointer (some ⟨b, 0, none⟩)] w fun e w' => ∃ q Q, e = .returned (.float .f32 q) ∧ Hid (Fv .f32 q Q) ∧ Src B b (K + 14) w' ∧ On b w w' := by
  have HH := Lib.hid h; clear h
  go_enter Try.func93, Try.ntmps93
  go_wp2_with fail
  refine (one_any B b K 8 w HH.out (by omega) (by omega)).mono ?_
  rintro e w1 ⟨v1, rfl, s1, o1⟩
  have S1 := Lib.hid s1; have O1 := Lib.hid o1; clear s1 o1
  cases v1
  · go_wp2_with fail
    refine (one_any B b (K + 2) 3 w1 S1.out (by omega) (by omega)).mono ?_
    rintro e w2 ⟨v2, rfl, s2, o2⟩
    have S2 := Lib.hid s2; have O2 := Lib.hid (O1.out.trans o2); clear s2 o2
    cases v2
    · go_wp2_with fail
      refine (pick_any B b (K + 2 + 2) 33 w2 S2.out (by omega) (by omega)).mono ?_
      rintro e w3 ⟨v3, rfl, a1, a2, s3, o3⟩
      have a3 := a2 (by omega)
      have S3 := Lib.hid s3; have O3 := Lib.hid (O2.out.trans o3); clear s3 o3 a2
      have q1 := fI_fv (v3 - 16)
      have q8 : Hid (Fv .f32 1090519040 (some 1090519040)) := fvc (by decide) (by decide)
      go_wp2_with (with_reducible_and_instances refine Lo.wpList_fo _ rfl _ _ _ _ _ rfl _ _ _ _ _ rfl rfl rfl (by assumption) (by assumption) ?_; intro rr nn hrr)
      go_ret
      exact ⟨_, _, rfl, hrr, (S3.out.up (by omega)).drewN _, O3.out.drewN _⟩
    · go_wp2
      go_ret
      exact ⟨_, _, rfl, fv0, S2.out.up (by omega), O2.out⟩
  · go_wp2_with fail
    refine (float_any B b (K + 2) w1 S1.out (by omega)).mono ?_
    rintro e w2 ⟨q, Q, rfl, hq, s2, o2⟩
    have S2 := Lib.hid s2; have O2 := Lib.hid (O1.out.trans o2); clear s2 o2
    go_wp2
    go_ret
    exact ⟨_, _, rfl, hq, S2.out, O2.out⟩
/-- a filter's block -/
def FilB (T : TypeId) (w : World) (b : Nat) (f : FilN) : Prop := w.heap[b]? = some (.cells #[.float .f32 f.b0, .float .f32 f.b1, .float .f32 f.b2, .float .f32 f.a1, .float .f32 f.a2] T (0, 0))
section
variable {T : TypeId} {w w' : World} {b : Nat} {f : FilN}
theorem FilB.lt (h : FilB T w b f) : b < w.heap.size := (Array.getElem?_eq_some_iff.1 h).1
theorem FilB.c0 (h : FilB T w b f) : w.cell? ⟨b, 0, none⟩ = some (.float .f32 f.b0) := by unfold FilB at h; simp [World.cell?, h]
theorem FilB.c1 (h : FilB T w b f) : w.cell? ⟨b, 1, none⟩ = some (.float .f32 f.b1) := by unfold FilB at h; simp [World.cell?, h]
theorem FilB.c2 (h : FilB T w b f) : w.cell? ⟨b, 2, none⟩ = some (.float .f32 f.b2) := by unfold FilB at h; simp [World.cell?, h]
theorem FilB.c3 (h : FilB T w b f) : w.cell? ⟨b, 3, none⟩ = some (.float .f32 f.a1) := by unfold FilB at h; simp [World.cell?, h]
theorem FilB.c4 (h : FilB T w b f) : w.cell? ⟨b, 4, none⟩ = some (.float .f32 f.a2) := by unfold FilB at h; simp [World.cell?, h]
theorem FilB.free (h : FilB T w b f) (q : Nat) : w.frozen? ⟨b, q, none⟩ = false := by unfold FilB at h; simp [World.frozen?, h]
theorem FilB.of (h : FilB T w b f) (e : w'.heap[b]? = w.heap[b]?) : FilB T w' b f := e.trans h
theorem FilB.since {B : Nat} (h : FilB T w b f) (s : w.Since B w') (hb : b < B) : FilB T w' b f := h.of (s.block b hb)
theorem FilB.on {g : Nat} (h : FilB T w b f) (s : On g w w') (hb : b ≠ g) : FilB T w' b f := h.of (s.2 b h.lt hb)
theorem FilB.s1 (h : FilB T w b f) (x : Nat) : FilB T (w.setCell ⟨b, 1, none⟩ (.float .f32 x)) b ⟨f.b0, x, f.b2, f.a1, f.a2⟩ := by unfold FilB at h ⊢; simp [World.setCell, Array.getElem?_modify, h]
theorem FilB.s2 (h : FilB T w b f) (x : Nat) : FilB T (w.setCell ⟨b, 2, none⟩ (.float .f32 x)) b ⟨f.b0, f.b1, x, f.a1, f.a2⟩ := by unfold FilB at h ⊢; simp [World.setCell, Array.getElem?_modify, h]
theorem FilB.s3 (h : FilB T w b f) (x : Nat) : FilB T (w.setCell ⟨b, 3, none⟩ (.float .f32 x)) b ⟨f.b0, f.b1, f.b2, x, f.a2⟩ := by unfold FilB at h ⊢; simp [World.setCell, Array.getElem?_modify, h]
theorem FilB.s4 (h : FilB T w b f) (x : Nat) : FilB T (w.setCell ⟨b, 4, none⟩ (.float .f32 x)) b ⟨f.b0, f.b1, f.b2, f.a1, x⟩ := by unfold FilB at h ⊢; simp [World.setCell, Array.getElem?_modify, h]
theorem FilB.all (h : FilB T w b f) (x y z u v : Nat) : FilB T (((((w.setCell ⟨b, 0, none⟩ (.float .f32 x)).setCell ⟨b, 1, none⟩ (.float .f32 y)).setCell ⟨b, 2, none⟩ (.float .f32 z)).setCell ⟨b, 3, none⟩ (.float .f32 u)).setCell ⟨b, 4, none⟩ (.float .f32 v)) b ⟨x, y, z, u, v⟩ := by unfold FilB at h ⊢; simp [World.setCell, Array.getElem?_modify, h]
theorem FilB.new (T : TypeId) (w : World) (x y z u v : Nat) : FilB T (w.alloc (.cells #[.float .f32 x, .float .f32 y, .float .f32 z, .float .f32 u, .float .f32 v] T)) w.heap.size ⟨x, y, z, u, v⟩ := Go.Deep.blk_alloc_new _ _
theorem FilB.at_ (h : FilB T w b f) : FilAt w b f := ⟨h.lt, h.c0, h.c1, h.c2, h.c3, h.c4⟩
theorem FilB.row (h : FilB T w b f) : w.rangeAt b 0 [.float .f32 f.b0, .float .f32 f.b1, .float .f32 f.b2, .float .f32 f.a1, .float .f32 f.a2] := by
  intro j x hj
  rw [Nat.zero_add]
  unfold FilB at h
  simp only [World.cell?, h]
  simpa using hj
theorem MemB.row {m : MemN} (h : MemB T w b m) : w.rangeAt b 0 [.float .f32 m.a, .float .f32 m.b, .float .f32 m.c, .float .f32 m.d] := by
  intro j x hj
  rw [Nat.zero_add]
  unfold MemB at h
  simp only [World.cell?, h]
  simpa using hj
theorem MemB.on {g : Nat} {m : MemN} (h : MemB T w b m) (s : On g w w') (hb : b ≠ g) : MemB T w' b m := h.of (s.2 b h.lt hb)
theorem MemB.t1 {m : MemN} (h : MemB T w b m) (x : Nat) : MemB T (w.setCell ⟨b, 1, none⟩ (.float .f32 x)) b ⟨m.a, x, m.c, m.d⟩ := by unfold MemB at h ⊢; simp [World.setCell, Array.getElem?_modify, h]
theorem MemB.t2 {m : MemN} (h : MemB T w b m) (x : Nat) : MemB T (w.setCell ⟨b, 2, none⟩ (.float .f32 x)) b ⟨m.a, m.b, x, m.d⟩ := by unfold MemB at h ⊢; simp [World.setCell, Array.getElem?_modify, h]
theorem MemB.t3 {m : MemN} (h : MemB T w b m) (x : Nat) : MemB T (w.setCell ⟨b, 3, none⟩ (.float .f32 x)) b ⟨m.a, m.b, m.c, x⟩ := by unfold MemB at h ⊢; simp [World.setCell, Array.getElem?_modify, h]
end
/-- what a call that has a block of its own changes -/
theorem Fl.On.own {b g : Nat} {w a : World} (h : On b w a) (hg : w.heap.size ≤ g) (hb : b < w.heap.size) (o : Nat) (v : Value) : On b w (a.setCell ⟨g, o, none⟩ v) :=
  on_post h ((World.Since.refl _ _).setCell (Nat.le_refl _) _) hg hb
theorem Src.own {B b K g : Nat} {w : World} (h : Src B b K w) (hg : b < g) (o : Nat) (v : Value) : Src B b K (w.setCell ⟨g, o, none⟩ v) :=
  h.on ((World.Since.refl _ _).setCell (show b + 1 ≤ g by omega) _)
theorem off_own {g r o : Nat} {v : Value} {w : World} (h : r ≠ g) : (w.setCell ⟨g, o, none⟩ v).heap[r]? = w.heap[r]? := Go.Deep.blk_setCell_other _ _ _ _ h
/-- a filter, a memory that was drawn -/
def PFil (B b K : Nat) (w : World) (e : Ending) (w' : World) : Prop := ∃ (f : FilN) (F : Fil), e = .returned f.val ∧ FvF f F ∧ Src B b K w' ∧ On b w w'
def PMem (B b K : Nat) (w : World) (e : Ending) (w' : World) : Prop := ∃ (f : MemN) (F : Mem), e = .returned f.val ∧ FvM f F ∧ Src B b K w' ∧ On b w w'
def PFilW (w : World) (e : Ending) (w' : World) : Prop := ∃ (f : FilN) (F : Fil), e = .returned f.val ∧ FvF f F ∧ w.Since w.heap.size w'
def PMemW (w : World) (e : Ending) (w' : World) : Prop := ∃ (f : MemN) (F : Mem), e = .returned f.val ∧ FvM f F ∧ w.Since w.heap.size w'
set_option maxHeartbeats 4000000 in
set_option maxRecDepth 100000 in
theorem drawFil_any (B b K : Nat) (w : World) (h : Src B b K w) (hK : K ≤ 500000) :
    Calls Try.prog 78 #[.pointer (some ⟨b, 0, none⟩)] w (PFil B b (K + 80) w) := by
  have HH := Lib.hid h
  have hlt := h.lt
  clear h
  have q8 : Hid (Fv .f32 1090519040 (some 1090519040)) := fvc (by decide) (by decide)
  go_enter Try.func78, Try.ntmps78
  go_wp2_with fail
  generalize hW : World.alloc w _ = W0
  have z0 : W0.heap.size = w.heap.size + 1 := by rw [← hW]; simp
  have R0 : Hid (FilB 31 W0 w.heap.size ⟨0, 0, 0, 0, 0⟩) := Lib.hid (by rw [← hW]; exact FilB.new _ _ _ _ _ _ _)
  have O0 : Hid (On b w W0) := Lib.hid (by rw [← hW]; exact (On.refl _ _).alloc (by omega) _)
  have S0 : Hid (Src B b K W0) := Lib.hid (HH.out.on (by rw [← hW]; exact (World.Since.refl _ _).alloc (by omega) _))
  clear hW
  refine (drawNum_any B b K W0 S0.out (by omega)).mono ?_
  rintro e w1 ⟨b0, Q0, rfl, h0, s1, o1⟩
  have z1 : W0.heap.size ≤ w1.heap.size := o1.1.size
  have R1 := Lib.hid (R0.out.on o1 (by omega)); have O1 := Lib.hid (O0.out.trans o1); have S1 := Lib.hid s1
  clear s1 o1 R0 O0 S0
  go_wp2_with fail
  generalize hW : World.alloc w1 _ = W1
  obtain ⟨q, hq⟩ : ∃ q, q = w1.heap.size := ⟨_, rfl⟩
  rw [← hq]
  have y1 : W1.heap.size = q + 1 := by rw [← hW, hq]; simp
  have F1 : Hid (FilB 31 W1 q ⟨b0, 0, 0, 0, 0⟩) := Lib.hid (by rw [← hW, hq]; exact FilB.new _ _ _ _ _ _ _)
  have hs : w1.Since w1.heap.size W1 := by rw [← hW]; exact (World.Since.refl _ _).alloc (Nat.le_refl _) _
  have R2 := Lib.hid (R1.out.since hs (by omega)); have O2 := Lib.hid (on_post O1.out hs (by omega) hlt); have S2 := Lib.hid (S1.out.on (since_mono hs (by omega)))
  have hqb : b < q := by omega
  have hqr : w.heap.size < q := by omega
  clear hq
  clear hW hs R1 O1 S1
  refine (drawNum_any B b (K + 14) W1 S2.out (by omega)).mono ?_
  rintro e w2 ⟨b1, Qb1, rfl, hb1, s, o⟩
  have zz : W1.heap.size ≤ w2.heap.size := o.1.size
  have F2a := Lib.hid (F1.out.on o (by omega)); have R2a := Lib.hid (R2.out.on o (by omega)); have O2a := Lib.hid (O2.out.trans o); have S2a := Lib.hid s
  clear s o F1 R2 O2 S2
  have cc := F2a.out.c1; have ff := F2a.out.free 1
  go_wp2_with fail
  generalize hW : World.setCell _ _ _ = V2
  have F2 : Hid (FilB 31 V2 q ⟨b0, b1, 0, 0, 0⟩) := Lib.hid (by rw [← hW]; exact F2a.out.s1 _)
  have R2 : Hid (FilB 31 V2 w.heap.size ⟨0, 0, 0, 0, 0⟩) := Lib.hid (by rw [← hW]; exact R2a.out.of (off_own (by omega)))
  have O2 : Hid (On b w V2) := Lib.hid (by rw [← hW]; exact O2a.out.own (by omega) hlt _ _)
  have S2 : Hid (Src B b (K + 14 + 14) V2) := Lib.hid (by rw [← hW]; exact S2a.out.own hqb _ _)
  have zv : V2.heap.size = w2.heap.size := by rw [← hW]; simp
  clear hW cc ff F2a R2a O2a S2a
  refine (drawNum_any B b (K + 14 + 14) V2 S2.out (by omega)).mono ?_
  rintro e w3 ⟨b2, Qb2, rfl, hb2, s, o⟩
  have zz : V2.heap.size ≤ w3.heap.size := o.1.size
  have F3a := Lib.hid (F2.out.on o (by omega)); have R3a := Lib.hid (R2.out.on o (by omega)); have O3a := Lib.hid (O2.out.trans o); have S3a := Lib.hid s
  clear s o F2 R2 O2 S2
  have cc := F3a.out.c2; have ff := F3a.out.free 2
  go_wp2_with fail
  generalize hW : World.setCell _ _ _ = V3
  have F3 : Hid (FilB 31 V3 q ⟨b0, b1, b2, 0, 0⟩) := Lib.hid (by rw [← hW]; exact F3a.out.s2 _)
  have R3 : Hid (FilB 31 V3 w.heap.size ⟨0, 0, 0, 0, 0⟩) := Lib.hid (by rw [← hW]; exact R3a.out.of (off_own (by omega)))
  have O3 : Hid (On b w V3) := Lib.hid (by rw [← hW]; exact O3a.out.own (by omega) hlt _ _)
  have S3 : Hid (Src B b (K + 14 + 14 + 14) V3) := Lib.hid (by rw [← hW]; exact S3a.out.own hqb _ _)
  have zv : V3.heap.size = w3.heap.size := by rw [← hW]; simp
  clear hW cc ff F3a R3a O3a S3a
  refine (pick_any B b (K + 14 + 14 + 14) 15 V3 S3.out (by omega) (by omega)).mono ?_
  rintro e w4 ⟨va1, rfl, u1, u2, s, o⟩
  have u3 := u2 (by omega)
  clear u2
  have zz : V3.heap.size ≤ w4.heap.size := o.1.size
  have F4a := Lib.hid (F3.out.on o (by omega)); have R4a := Lib.hid (R3.out.on o (by omega)); have O4a := Lib.hid (O3.out.trans o); have S4a := Lib.hid s
  clear s o F3 R3 O3 S3
  have cc := F4a.out.c3; have ff := F4a.out.free 3
  have qq := fI_fv (va1 - 7)
  go_wp2_with (with_reducible_and_instances refine Lo.wpList_fo _ rfl _ _ _ _ _ rfl _ _ _ _ _ rfl rfl rfl (by assumption) (by assumption) ?_; intro rr nn hrr)
  obtain ⟨a1, hnm⟩ : ∃ r, r = rr := ⟨_, rfl⟩
  obtain ⟨Qa1, hQ⟩ : ∃ Q, Q = opO .quo .f32 (some (fI (va1 - 7))) (some 1090519040) := ⟨_, rfl⟩
  have ha1 : Hid (Fv .f32 a1 Qa1) := by rw [hnm, hQ]; exact hrr
  rw [← hnm]
  clear hnm hQ hrr qq u1 u3
  generalize hW : World.drewN _ _ = V4
  have F4 : Hid (FilB 31 V4 q ⟨b0, b1, b2, a1, 0⟩) := Lib.hid (by rw [← hW]; exact FilB.of (F4a.out.s3 _) rfl)
  have R4 : Hid (FilB 31 V4 w.heap.size ⟨0, 0, 0, 0, 0⟩) := Lib.hid (by rw [← hW]; exact FilB.of (w := w4.setCell ⟨q, 3, none⟩ (.float .f32 a1)) (R4a.out.of (off_own (by omega))) rfl)
  have O4 : Hid (On b w V4) := Lib.hid (by rw [← hW]; exact (O4a.out.own (by omega) hlt _ _).drewN _)
  have S4 : Hid (Src B b (K + 14 + 14 + 14 + 2) V4) := Lib.hid (by rw [← hW]; exact (S4a.out.own hqb _ _).drewN _)
  have zv : V4.heap.size = w4.heap.size := by rw [← hW]; exact Go.Deep.nblk_setCell _ _ _
  clear hW cc ff F4a R4a O4a S4a
  refine (pick_any B b (K + 14 + 14 + 14 + 2) 7 V4 S4.out (by omega) (by omega)).mono ?_
  rintro e w5 ⟨va2, rfl, u1, u2, s, o⟩
  have u3 := u2 (by omega)
  clear u2
  have zz : V4.heap.size ≤ w5.heap.size := o.1.size
  have F5a := Lib.hid (F4.out.on o (by omega)); have R5a := Lib.hid (R4.out.on o (by omega)); have O5a := Lib.hid (O4.out.trans o); have S5a := Lib.hid s
  clear s o F4 R4 O4 S4
  have cc := F5a.out.c4; have ff := F5a.out.free 4
  have qq := fI_fv (va2 - 3)
  go_wp2_with (with_reducible_and_instances refine Lo.wpList_fo _ rfl _ _ _ _ _ rfl _ _ _ _ _ rfl rfl rfl (by assumption) (by assumption) ?_; intro rr nn hrr)
  obtain ⟨a2, hnm⟩ : ∃ r, r = rr := ⟨_, rfl⟩
  obtain ⟨Qa2, hQ⟩ : ∃ Q, Q = opO .quo .f32 (some (fI (va2 - 3))) (some 1090519040) := ⟨_, rfl⟩
  have ha2 : Hid (Fv .f32 a2 Qa2) := by rw [hnm, hQ]; exact hrr
  rw [← hnm]
  clear hnm hQ hrr qq u1 u3
  generalize hW : World.drewN _ _ = V5
  have F5 : Hid (FilB 31 V5 q ⟨b0, b1, b2, a1, a2⟩) := Lib.hid (by rw [← hW]; exact FilB.of (F5a.out.s4 _) rfl)
  have R5 : Hid (FilB 31 V5 w.heap.size ⟨0, 0, 0, 0, 0⟩) := Lib.hid (by rw [← hW]; exact FilB.of (w := w5.setCell ⟨q, 4, none⟩ (.float .f32 a2)) (R5a.out.of (off_own (by omega))) rfl)
  have O5 : Hid (On b w V5) := Lib.hid (by rw [← hW]; exact (O5a.out.own (by omega) hlt _ _).drewN _)
  have S5 : Hid (Src B b (K + 14 + 14 + 14 + 2 + 2) V5) := Lib.hid (by rw [← hW]; exact (S5a.out.own hqb _ _).drewN _)
  have zv : V5.heap.size = w5.heap.size := by rw [← hW]; exact Go.Deep.nblk_setCell _ _ _
  clear hW cc ff F5a R5a O5a S5a
  refine (one_any B b (K + 14 + 14 + 14 + 2 + 2) 4 V5 S5.out (by omega) (by omega)).mono ?_
  rintro e w6 ⟨c3, rfl, s, o⟩
  have zz : V5.heap.size ≤ w6.heap.size := o.1.size
  have F6 := Lib.hid (F5.out.on o (by omega)); have R6 := Lib.hid (R5.out.on o (by omega)); have O6 := Lib.hid (O5.out.trans o); have S6 := Lib.hid s
  clear s o F5 R5 O5 S5
  cases c3
  case' false =>
    go_wp2_with fail
    have F7 := F6; have R7 := R6; have O7 := O6; have S7 := Lib.hid (S6.out.up (K' := K + 14 + 14 + 14 + 2 + 2 + 2 + 14) (by omega))
    have zw : q < w6.heap.size := by omega
    clear F6 R6 O6 S6 zz
    obtain ⟨V7, hz1⟩ : ∃ v, v = w6 := ⟨_, rfl⟩; subst hz1
    obtain ⟨ya1, Ya1, hya1, F7⟩ : ∃ x X, Hid (Fv .f32 x X) ∧ Hid (FilB 31 V7 q ⟨b0, b1, b2, x, a2⟩) := ⟨_, _, ha1, F7⟩
  case' true =>
    go_wp2_with fail
    refine (drawNum_any B b (K + 14 + 14 + 14 + 2 + 2 + 2) w6 S6.out (by omega)).mono ?_
    rintro e w7 ⟨na1, Qn, rfl, hn, s, o⟩
    have zz2 : w6.heap.size ≤ w7.heap.size := o.1.size
    have Fa := Lib.hid (F6.out.on o (by omega)); have Ra := Lib.hid (R6.out.on o (by omega)); have Oa := Lib.hid (O6.out.trans o); have Sa := Lib.hid s
    clear s o F6 R6 O6 S6
    have cc := Fa.out.c3; have ff := Fa.out.free 3
    go_wp2_with fail
    generalize hW : World.setCell _ _ _ = V7
    have F7 : Hid (FilB 31 V7 q ⟨b0, b1, b2, na1, a2⟩) := Lib.hid (by rw [← hW]; exact Fa.out.s3 _)
    have R7 : Hid (FilB 31 V7 w.heap.size ⟨0, 0, 0, 0, 0⟩) := Lib.hid (by rw [← hW]; exact Ra.out.of (off_own (by omega)))
    have O7 : Hid (On b w V7) := Lib.hid (by rw [← hW]; exact Oa.out.own (by omega) hlt _ _)
    have S7 : Hid (Src B b (K + 14 + 14 + 14 + 2 + 2 + 2 + 14) V7) := Lib.hid (by rw [← hW]; exact Sa.out.own hqb _ _)
    have zv2 : V7.heap.size = w7.heap.size := by rw [← hW]; simp
    have zw : q < V7.heap.size := by omega
    clear hW cc ff Fa Ra Oa Sa zz2 zv2 zz
    obtain ⟨ya1, Ya1, hya1, F7⟩ : ∃ x X, Hid (Fv .f32 x X) ∧ Hid (FilB 31 V7 q ⟨b0, b1, b2, x, a2⟩) := ⟨_, _, hn, F7⟩
    clear hn
  all_goals
    refine (one_any B b (K + 14 + 14 + 14 + 2 + 2 + 2 + 14) 4 V7 S7.out (by omega) (by omega)).mono ?_
    rintro e w8 ⟨c4, rfl, s, o⟩
    have zz : V7.heap.size ≤ w8.heap.size := o.1.size
    have F8 := Lib.hid (F7.out.on o (by omega)); have R8 := Lib.hid (R7.out.on o (by omega)); have O8 := Lib.hid (O7.out.trans o); have S8 := Lib.hid s
    clear s o F7 R7 O7 S7
    cases c4
    case' false =>
      have c0 := F8.out.c0; have c1 := F8.out.c1; have c2 := F8.out.c2; have c3 := F8.out.c3; have c4 := F8.out.c4; have cf := F8.out.free 4
      have r0 := R8.out.c0; have r1 := R8.out.c1; have r2 := R8.out.c2; have r3 := R8.out.c3; have r4 := R8.out.c4
      have l0 := R8.out.free 0; have l1 := R8.out.free 1; have l2 := R8.out.free 2; have l3 := R8.out.free 3; have l4 := R8.out.free 4
      have NB := Lib.hid (R8.out.all b0 b1 b2 ya1 a2)
      have OO := Lib.hid (((((O8.out.own (Nat.le_refl _) hlt 0 (.float .f32 b0)).own (Nat.le_refl _) hlt 1 (.float .f32 b1)).own (Nat.le_refl _) hlt 2 (.float .f32 b2)).own (Nat.le_refl _) hlt 3 (.float .f32 ya1)).own (Nat.le_refl _) hlt 4 (.float .f32 a2))
      have SS := Lib.hid (((((S8.out.own hlt 0 (.float .f32 b0)).own hlt 1 (.float .f32 b1)).own hlt 2 (.float .f32 b2)).own hlt 3 (.float .f32 ya1)).own hlt 4 (.float .f32 a2))
      go_wp2_with fail
      generalize hV : World.setCell _ _ _ = V at *
      have g0 := NB.out.c0; have g1 := NB.out.c1; have g2 := NB.out.c2; have g3 := NB.out.c3; have g4 := NB.out.c4
      exact bodyPost_ret (v := .agg #[.float .f32 b0, .float .f32 b1, .float .f32 b2, .float .f32 ya1, .float .f32 a2]) (by simp [results, Try.results78, go_sem, g0, g1, g2, g3, g4]) rfl ⟨⟨b0, b1, b2, ya1, a2⟩, ⟨Q0, Qb1, Qb2, Ya1, Qa2⟩, rfl, ⟨h0, hb1, hb2, hya1, ha2⟩, SS.out.up (by omega), OO.out⟩
    case' true =>
      go_wp2_with fail
      refine (drawNum_any B b (K + 14 + 14 + 14 + 2 + 2 + 2 + 14 + 2) w8 S8.out (by omega)).mono ?_
      rintro e w9 ⟨na2, Qn, rfl, hn, s, o⟩
      have zz2 : w8.heap.size ≤ w9.heap.size := o.1.size
      have Fa := Lib.hid (F8.out.on o (by omega)); have Ra := Lib.hid (R8.out.on o (by omega)); have Oa := Lib.hid (O8.out.trans o); have Sa := Lib.hid s
      clear s o F8 R8 O8 S8
      have cc := Fa.out.c4; have ff := Fa.out.free 4
      rename (∀ (a : Act) (w : World), Code.wp Try.prog _ _ a w → _) => ak
      have AK := Lib.hid ak; clear ak
      go_wp2_with fail
      generalize hW : World.setCell _ _ _ = V9
      have F9 : Hid (FilB 31 V9 q ⟨b0, b1, b2, ya1, na2⟩) := Lib.hid (by rw [← hW]; exact Fa.out.s4 _)
      have R9 : Hid (FilB 31 V9 w.heap.size ⟨0, 0, 0, 0, 0⟩) := Lib.hid (by rw [← hW]; exact Ra.out.of (off_own (by omega)))
      have O9 : Hid (On b w V9) := Lib.hid (by rw [← hW]; exact Oa.out.own (by omega) hlt _ _)
      have S9 : Hid (Src B b (K + 14 + 14 + 14 + 2 + 2 + 2 + 14 + 2 + 14) V9) := Lib.hid (by rw [← hW]; exact Sa.out.own hqb _ _)
      clear hW cc ff Fa Ra Oa Sa zz2
      refine AK.out _ _ ?_
      have c0 := F9.out.c0; have c1 := F9.out.c1; have c2 := F9.out.c2; have c3 := F9.out.c3; have c4 := F9.out.c4; have cf := F9.out.free 4
      have r0 := R9.out.c0; have r1 := R9.out.c1; have r2 := R9.out.c2; have r3 := R9.out.c3; have r4 := R9.out.c4
      have l0 := R9.out.free 0; have l1 := R9.out.free 1; have l2 := R9.out.free 2; have l3 := R9.out.free 3; have l4 := R9.out.free 4
      have NB := Lib.hid (R9.out.all b0 b1 b2 ya1 na2)
      have OO := Lib.hid (((((O9.out.own (Nat.le_refl _) hlt 0 (.float .f32 b0)).own (Nat.le_refl _) hlt 1 (.float .f32 b1)).own (Nat.le_refl _) hlt 2 (.float .f32 b2)).own (Nat.le_refl _) hlt 3 (.float .f32 ya1)).own (Nat.le_refl _) hlt 4 (.float .f32 na2))
      have SS := Lib.hid (((((S9.out.own hlt 0 (.float .f32 b0)).own hlt 1 (.float .f32 b1)).own hlt 2 (.float .f32 b2)).own hlt 3 (.float .f32 ya1)).own hlt 4 (.float .f32 na2))
      go_wp2_with fail
      generalize hV : World.setCell _ _ _ = V at *
      have g0 := NB.out.c0; have g1 := NB.out.c1; have g2 := NB.out.c2; have g3 := NB.out.c3; have g4 := NB.out.c4
      exact bodyPost_ret (v := .agg #[.float .f32 b0, .float .f32 b1, .float .f32 b2, .float .f32 ya1, .float .f32 na2]) (by simp [results, Try.results78, go_sem, g0, g1, g2, g3, g4]) rfl ⟨⟨b0, b1, b2, ya1, na2⟩, ⟨Q0, Qb1, Qb2, Ya1, Qn⟩, rfl, ⟨h0, hb1, hb2, hya1, hn⟩, SS.out.up (by omega), OO.out⟩
end Go.Proofs.Ytebocaicebolaaa
