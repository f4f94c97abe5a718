/- Dynamics: squeezed samples, the model's. -/
import Derived.Test.YtbgjmmncjmcjfaaEo
import Derived.Test.YtbgjmmncjmcjfaaLf
import Derived.Test.YtbgjmmncjmcjfaaLy
set_option linter.unusedVariables false
set_option linter.unusedSimpArgs false
namespace Go.Proofs.Ytbgjmmncjmcjfaa
open Fl Go.RowKit
structure SquN where
  a : Nat
  r : Nat
  l : Nat
  t : Nat
  q : Nat
structure Squ where
  a : O
  r : O
  l : O
  t : O
  q : O
def SquN.val (d : SquN) : Value := .agg #[.float .f32 d.a, .float .f32 d.r, .float .f32 d.l, .float .f32 d.t, .float .f32 d.q]
structure FvSqu (d : SquN) (D : Squ) : Prop where
  a : Hid (Fv .f32 d.a D.a)
  r : Hid (Fv .f32 d.r D.r)
  l : Hid (Fv .f32 d.l D.l)
  t : Hid (Fv .f32 d.t D.t)
  q : Hid (Fv .f32 d.q D.q)
def PLQB (n0 : Nat) (f0 : Nat → Option Nat) (S : Squ) (b : Bool) (w : World) (e : Ending) (w' : World) : Prop :=
  ∃ (p : Ls) (c : Nat) (s : SquN), e = .returned (.tuple #[.slice p.A p.n c, s.val, .bool b]) ∧ p.n = n0 ∧ Gs 55 w' w.heap.size p.A p.n p.xs ∧ Are p f0 ∧ FvSqu s S ∧ w.Since w.heap.size w'
/-- a squeeze's block -/
def SquB (w : World) (g a r l t q : Nat) : Prop := w.heap[g]? = some (.cells #[.float .f32 a, .float .f32 r, .float .f32 l, .float .f32 t, .float .f32 q] 69 (0, 0))
structure SquAt (w : World) (g a r l t q : Nat) : Prop where
  f : FolAt w g a r l
  t : w.cell? ⟨g, 3, none⟩ = some (.float .f32 t)
  q : w.cell? ⟨g, 4, none⟩ = some (.float .f32 q)
theorem SquB.at_ {w : World} {g a r l t q : Nat} (h : SquB w g a r l t q) : SquAt w g a r l t q := by
  unfold SquB at h
  exact ⟨⟨(Array.getElem?_eq_some_iff.1 h).1, by simp [World.cell?, h], by simp [World.cell?, h], by simp [World.cell?, h]⟩, by simp [World.cell?, h], by simp [World.cell?, h]⟩
theorem SquB.free {w : World} {g a r l t q o : Nat} (h : SquB w g a r l t q) : w.frozen? ⟨g, o, none⟩ = false := by
  unfold SquB at h
  simp [World.frozen?, h]
theorem SquB.of {w w' : World} {g a r l t q : Nat} (h : SquB w g a r l t q) (e : w'.heap[g]? = w.heap[g]?) : SquB w' g a r l t q := e.trans h
theorem SquB.set {w : World} {g a r l t q y : Nat} (h : SquB w g a r l t q) : SquB (w.setCell ⟨g, 2, none⟩ (.float .f32 y)) g a r y t q := by
  unfold SquB at h ⊢
  simp [World.setCell, Array.getElem?_modify, h]
theorem SquB.set5 {w : World} {g a r l t q x0 x1 x2 x3 x4 : Nat} (h : SquB w g x0 x1 x2 x3 x4) : SquB (((((w.setCell ⟨g, 0, none⟩ (.float .f32 a)).setCell ⟨g, 1, none⟩ (.float .f32 r)).setCell ⟨g, 2, none⟩ (.float .f32 l)).setCell ⟨g, 3, none⟩ (.float .f32 t)).setCell ⟨g, 4, none⟩ (.float .f32 q)) g a r l t q := by
  unfold SquB at h ⊢
  simp [World.setCell, Array.getElem?_modify, h]
theorem SquB.new (w : World) (a r l t q : Nat) : SquB (w.alloc (.cells #[.float .f32 a, .float .f32 r, .float .f32 l, .float .f32 t, .float .f32 q] 69)) w.heap.size a r l t q := Go.Deep.blk_alloc_new _ _
def sqL (D : Squ) (Y : Nat → O) (k : Nat) : O := levO ⟨D.a, D.r, D.l⟩ Y k
def sqO (D : Squ) (X Y : Nat → O) (k : Nat) : O := mu (X k) (gainO (sqL D Y (k + 1)) D.t D.q)
theorem gainO_ex {l t r : Nat} {L T R : O} (hl : Hid (Fv .f32 l L)) (ht : Hid (Fv .f32 t T)) (hr : Hid (Fv .f32 r R)) : ∃ q, Fv .f32 q (gainO L T R) := by
  unfold gainO
  cases gtO L T
  · exact ⟨_, fv1.out⟩
  · obtain ⟨d, hd⟩ := Lo.fv_ex (op := .sub) rfl .f32 _ _ _ _ hl.out ht.out
    obtain ⟨p, hp⟩ := Lo.fv_ex (op := .quo) rfl .f32 _ _ _ _ hd hr.out
    obtain ⟨s, hs⟩ := Lo.fv_ex (op := .add) rfl .f32 _ _ _ _ ht.out hp
    exact Lo.fv_ex (op := .quo) rfl .f32 _ _ _ _ hs hl.out
theorem specGain_hc (l t r : Nat) (L T R : O) (w : World) (hl : Hid (Fv .f32 l L)) (ht : Hid (Fv .f32 t T)) (hr : Hid (Fv .f32 r R)) (m : Nat) :
    Calls Try.prog 116 #[.float .f32 l, .float .f32 t, .float .f32 r] (w.drewN m) fun e w' => ∃ q n, e = .returned (.float .f32 q) ∧ Fv .f32 q (gainO L T R) ∧ w' = w.drewN n :=
  (specGain_any l t r L T R _ hl ht hr).mono fun e w' ⟨q, n, h1, h2, h3⟩ => ⟨q, m + n, h1, h2, h3.trans (by simp [World.drewN, Nat.add_assoc])⟩
/-- the list and the squeeze behind it -/
def PLQ (n0 : Nat) (f0 : Nat → Option Nat) (S : Squ) (w : World) (e : Ending) (w' : World) : Prop :=
  ∃ (p : Ls) (c : Nat) (s : SquN), e = .returned (.tuple #[.slice p.A p.n c, s.val]) ∧ p.n = n0 ∧ Gs 55 w' w.heap.size p.A p.n p.xs ∧ Are p f0 ∧ FvSqu s S ∧ w.Since w.heap.size w'
set_option maxHeartbeats 8000000 in
set_option maxRecDepth 100000 in
theorem specSqueeze_ok (d : SquN) (D : Squ) (A C : Option Addr) (n c c2 : Nat) (xs ys : List Nat) (w : World) (hD : FvSqu d D) (hA : Fs w w.heap.size A n xs) (hB : Fs w w.heap.size C n ys) (hn : n ≤ 256) :
    Calls Try.prog 91 #[d.val, .slice A n c, .slice C n c2] w (PLQ n (sqO D (fun k => ab .f32 (wd xs k)) (fun k => ab .f32 (wd ys k))) ⟨D.a, D.r, sqL D (fun k => ab .f32 (wd ys k)) n, D.t, D.q⟩ w) := by
  obtain ⟨a, r, l, t, q0⟩ := d
  obtain ⟨ha, hr, hl, ht, hq0⟩ := hD
  simp only at ha hr hl ht hq0
  have HA := Lib.hid hA; have HB := Lib.hid hB
  clear hA hB
  simp only [SquN.val]
  go_enter Try.func91, Try.ntmps91
  go_wp2
  go_loopw [8, 9] (fun v i wr => ∃ k q : Nat, k ≤ n ∧ i = .int .i64 k ∧ Rw (w.heap.size + 1 + 1) wr v k (sqO D (fun k => ab .f32 (wd xs k)) (fun k => ab .f32 (wd ys k))) ∧ SquB wr w.heap.size a r q t q0 ∧ SquB wr (w.heap.size + 1) 0 0 0 0 0 ∧ Hid (Fv .f32 q (sqL D (fun k => ab .f32 (wd ys k)) k)) ∧ w.Since w.heap.size wr ∧ w.heap.size + 1 + 1 ≤ wr.heap.size) (fun _ i _ => n - (intOf i).toNat)
  case atStart =>
    obtain ⟨W1, hW1⟩ : ∃ W, W = w.alloc (.cells #[.float .f32 a, .float .f32 r, .float .f32 l, .float .f32 t, .float .f32 q0] 69) := ⟨_, rfl⟩
    obtain ⟨W2, hW2⟩ : ∃ W, W = W1.alloc (.cells #[.float .f32 0, .float .f32 0, .float .f32 0, .float .f32 0, .float .f32 0] 69) := ⟨_, rfl⟩
    have z1 : W1.heap.size = w.heap.size + 1 := by rw [hW1]; simp
    have z2 : W2.heap.size = w.heap.size + 1 + 1 := by rw [hW2]; simp [z1]
    have f1 : SquB W1 w.heap.size a r l t q0 := by rw [hW1]; exact SquB.new _ _ _ _ _ _
    have f2 : SquB W2 (w.heap.size + 1) 0 0 0 0 0 := by rw [hW2, ← z1]; exact SquB.new _ _ _ _ _ _
    have f3 : SquB W2 w.heap.size a r l t q0 := f1.of (by rw [hW2]; exact blk_keep _ (by omega))
    have h9 := Rw.start W2 (w.heap.size + 1 + 1) (by omega) (sqO D (fun k => ab .f32 (wd xs k)) (fun k => ab .f32 (wd ys k)))
    rw [z2] at h9
    have s2 : w.Since w.heap.size W2 := by rw [hW2, hW1]; exact ((World.Since.refl _ _).alloc (Nat.le_refl _) _).alloc (by simp) _
    rw [← hW1, ← hW2]
    refine ⟨0, l, Nat.zero_le _, rfl, h9, f3.of (blk_keep _ (by omega)), f2.of (blk_keep _ (by omega)), hl, s2.alloc (by omega) _, by simp; omega⟩
  case round =>
    obtain ⟨k, q, hk, rfl, hr1, hf1, hf2, hq, hs, hz⟩ := hrel
    have HR := Lib.hid hr1; have HS := Lib.hid hs; have HF := Lib.hid hf1; have HF2 := Lib.hid hf2
    clear hr1 hs hf1 hf2
    by_cases hlt : k < n
    · obtain ⟨g, off, rfl, hg, hc⟩ := HA.out.2.2 (by omega)
      obtain ⟨g2, off2, rfl, hg2, hc2⟩ := HB.out.2.2 (by omega)
      have hcx := Lib.hid hc
      have hy1 : wr.cell? ⟨g2, off2 + k, none⟩ = some (.float .f32 (wd ys k)) := (HS.out.cell (a := ⟨g2, off2 + k, none⟩) hg2).trans (hc2 k hlt)
      have hx : Hid (Fv .f32 (wd xs k) (ab .f32 (wd xs k))) := Lib.hid ⟨HA.out.2.1.at_ k, rfl⟩
      have hy : Hid (Fv .f32 (wd ys k) (ab .f32 (wd ys k))) := Lib.hid ⟨HB.out.2.1.at_ k, rfl⟩
      have c3 := HF.out.at_.f.l
      have e3 := HF.out.free (o := 2)
      clear hc hc2
      go_wp2_with fail
      refine Lo.wp_loose_tail [25] 9 (by kernel_rfl) (by kernel_rfl) ?_
      simp only [List.take_succ_cons, List.take_zero, List.drop_succ_cons, List.drop_zero]
      repeat (first
        | (refine Lo.wpL_callF rfl 115 [.tmp 17, .tmp 20, .tmp 24] [.pointer (some ⟨w.heap.size, 0, none⟩), .float .f32 q, .float .f32 (wd ys k)] _ rfl (by decide) (callsEnter 115 Try.f115 _ (by kernel_rfl) (by kernel_rfl) rfl) .f32 (folO D.a D.r (sqL D (fun k => ab .f32 (wd ys k)) k) (ab .f32 (wd ys k))) (Lo.keeps [17, 20, 24] _ rfl (by decide)) (specFollow_hc w.heap.size a r q (wd ys k) D.a D.r _ _ wr HF.out.at_.f ha hr hq hy) (folO_ex ha hr hq hy) ?_; intro rr hrr; simp only [Act.put, List.setIfInBounds_toArray, List.set_cons_succ, List.set_cons_zero])
        | (refine Lo.wpL_move rfl _ (.inl rfl) (by decide) ?_; simp only [Act.put, List.setIfInBounds_toArray, List.set_cons_succ, List.set_cons_zero])
        | (refine Lo.wpL_move rfl _ (.inr rfl) (by decide) ?_; simp only [Act.put, List.setIfInBounds_toArray, List.set_cons_succ, List.set_cons_zero])
        | (refine Lo.wpL_fop rfl _ _ _ _ rfl rfl (by decide) _ _ _ _ _ rfl rfl (by assumption) (by assumption) ?_; intro rr hrr; simp only [Act.put, List.setIfInBounds_toArray, List.set_cons_succ, List.set_cons_zero])
        | (refine Lo.wpL_wide rfl _ _ _ rfl (by decide) _ _ rfl (by kernel_rfl) (by kernel_rfl) (by assumption) ?_; intro rr hrr; simp only [Act.put, List.setIfInBounds_toArray, List.set_cons_succ, List.set_cons_zero])
        | (refine Lo.wpL_quiet rfl (by decide) (fun K hK => ?_); go_big_quiet_op; (refine hK _ ?_; clear hK K)))
      refine Lo.wpL_nil ?_
      refine Lo.after_fl rfl (by assumption) ?_; intro q25 h25; simp only [Act.put, List.setIfInBounds_toArray, List.set_cons_succ, List.set_cons_zero]
      refine Lo.after_nil ?_; intro nq
      go_wp2_with fail
      have hq2 : Hid (Fv .f32 q25 (sqL D (fun k => ab .f32 (wd ys k)) (k + 1))) := h25
      generalize hV : World.drewN _ _ = V
      have V1 : Hid (SquB V w.heap.size a r q25 t q0) := Lib.hid (by rw [← hV]; exact HF.out.set)
      have V2 : Hid (SquB V (w.heap.size + 1) 0 0 0 0 0) := Lib.hid (by rw [← hV]; exact HF2.out.of (Go.Deep.blk_setCell_other _ _ _ _ (show w.heap.size + 1 ≠ w.heap.size by omega)))
      have VR : Hid (Rw (w.heap.size + 1 + 1) V u8 k (sqO D (fun k => ab .f32 (wd xs k)) (fun k => ab .f32 (wd ys k)))) := Lib.hid (by rw [← hV]; exact (HR.out.on ((On.refl _ _).set 2 (.float .f32 q25)) (by omega)).drewN _)
      have VS : Hid (w.Since w.heap.size V) := Lib.hid (by rw [← hV]; exact since_drewN (HS.out.setCell (Nat.le_refl _) _) _)
      have hzV : w.heap.size + 1 + 1 ≤ V.heap.size := by rw [← hV]; show _ ≤ (World.setCell _ _ _).heap.size; rw [Go.Deep.nblk_setCell]; exact hz
      have hx1 : V.cell? ⟨g, off + k, none⟩ = some (.float .f32 (wd xs k)) := (VS.out.cell (a := ⟨g, off + k, none⟩) hg).trans (hcx.out k hlt)
      clear hV h25 hy1 c3 e3 HR HF HF2 HS
      have c2 := V1.out.at_.f.l
      have c3 := V1.out.at_.t
      have c4 := V1.out.at_.q
      go_wp2_with fail
      refine Lo.wp_looseF_tail [40,41] 14 _ rfl rfl (by kernel_rfl) (by kernel_rfl) (fun _ _ _ h => h) ?_
      simp only [Nat.reduceSub, List.take_succ_cons, List.take_zero, List.drop_succ_cons, List.drop_zero, Act.eval, Act.put, List.setIfInBounds_toArray, List.set_cons_succ, List.set_cons_zero, Array.getD_eq_getD_getElem?, List.getElem?_toArray, List.getElem?_cons_succ, List.getElem?_cons_zero, Option.getD_some]
      repeat (first
        | (refine Lo.wpL_callF rfl 116 [.tmp 35, .tmp 37, .tmp 39] [.float .f32 q25, .float .f32 t, .float .f32 q0] _ rfl (by decide) (callsEnter 116 Try.f116 _ (by kernel_rfl) (by kernel_rfl) rfl) .f32 _ (Lo.keeps [35, 37, 39] _ rfl (by decide)) (specGain_hc q25 t q0 _ _ _ V hq2 ht hq0) (gainO_ex hq2 ht hq0) ?_; intro rr hrr; simp only [Act.put, List.setIfInBounds_toArray, List.set_cons_succ, List.set_cons_zero])
        | (refine Lo.wpL_move rfl _ (.inl rfl) (by decide) ?_; simp only [Act.put, List.setIfInBounds_toArray, List.set_cons_succ, List.set_cons_zero])
        | (refine Lo.wpL_move rfl _ (.inr rfl) (by decide) ?_; simp only [Act.put, List.setIfInBounds_toArray, List.set_cons_succ, List.set_cons_zero])
        | (refine Lo.wpL_fop rfl _ _ _ _ rfl rfl (by decide) _ _ _ _ _ rfl rfl (by assumption) (by assumption) ?_; intro rr hrr; simp only [Act.put, List.setIfInBounds_toArray, List.set_cons_succ, List.set_cons_zero])
        | (refine Lo.wpL_wide rfl _ _ _ rfl (by decide) _ _ rfl (by kernel_rfl) (by kernel_rfl) (by assumption) ?_; intro rr hrr; simp only [Act.put, List.setIfInBounds_toArray, List.set_cons_succ, List.set_cons_zero])
        | (refine Lo.wpL_quiet rfl (by decide) (fun K hK => ?_); go_big_quiet_op; (refine hK _ ?_; clear hK K)))
      refine Lo.wpL_nil ?_
      refine Lo.after_fl rfl (by assumption) ?_; intro q40 h40; simp only [Act.put, List.setIfInBounds_toArray, List.set_cons_succ, List.set_cons_zero]
      refine Lo.after_fl rfl (by assumption) ?_; intro q41 h41; simp only [Act.put, List.setIfInBounds_toArray, List.set_cons_succ, List.set_cons_zero]
      refine Lo.after_nil ?_; intro nq
      go_wp2_with (at_builtin; refine wpList_app1 rfl (.tmp 28) (.tmp 42) rfl (w.heap.size + 1 + 1) _ k _ rfl _ _ rfl (by simp [go_sem]) (by omega) (by simp; omega) h41 ((VR.out.drewN _).alloc _) ?_; intro v' w3 hR3 hS3)
      have F1 : SquB w3 w.heap.size a r q25 t q0 := V1.out.of ((hS3.out.block _ (by omega)).trans (blk_keep _ (by show _ < V.heap.size; omega)))
      have F2 : SquB w3 (w.heap.size + 1) 0 0 0 0 0 := V2.out.of ((hS3.out.block _ (by omega)).trans (blk_keep _ (by show _ < V.heap.size; omega)))
      have F3 : w.Since w.heap.size w3 := (since_drewN (VS.out.alloc (by omega) _) _).trans (since_mono hS3.out (by omega))
      have F4 : w.heap.size + 1 + 1 ≤ w3.heap.size := Nat.le_trans (by show _ ≤ (World.alloc _ _).heap.size; simp; omega) hS3.out.size
      have F5 := Lib.hid F1; have F6 := Lib.hid F2; have F7 := Lib.hid F3; clear F1 F2 F3
      go_roundw
      case rel => exact ⟨k + 1, q25, by omega, by go_num, hR3.out, F5.out, F6.out, hq2, F7.out, F4⟩
      case measure => simp [intOf]; omega
    · obtain rfl : k = n := by omega
      obtain ⟨p, cp, rfl, rfl, hg, ha2⟩ := HR.out.done
      have HG := Lib.hid hg; have HAA := Lib.hid ha2; clear hg ha2
      have c1 := HF.out.at_.f.a
      have c2 := HF.out.at_.f.r
      have c3 := HF.out.at_.f.l
      have c4 := HF.out.at_.t
      have c5 := HF.out.at_.q
      have d1 := HF2.out.at_.f.a
      have d2 := HF2.out.at_.f.r
      have d3 := HF2.out.at_.f.l
      have d4 := HF2.out.at_.t
      have d5 := HF2.out.at_.q
      have e0 := fun o => HF2.out.free (o := o)
      go_wp2_with fail
      go_region
      all_goals
        have G9 : SquB _ (w.heap.size + 1) a r q t q0 := HF2.out.set5 (a := a) (r := r) (l := q) (t := t) (q := q0)
        have S9 := ((((HS.out.setCell (a := ⟨w.heap.size + 1, 0, none⟩) (by simp) (.float .f32 a)).setCell (a := ⟨w.heap.size + 1, 1, none⟩) (by simp) (.float .f32 r)).setCell (a := ⟨w.heap.size + 1, 2, none⟩) (by simp) (.float .f32 q)).setCell (a := ⟨w.heap.size + 1, 3, none⟩) (by simp) (.float .f32 t)).setCell (a := ⟨w.heap.size + 1, 4, none⟩) (by simp) (.float .f32 q0)
        have O9 : Gs 55 _ (w.heap.size + 1 + 1) p.A p.n p.xs := HG.out.onLow (((On.refl (w.heap.size + 1) wr).set 0 (.float .f32 a)).set 1 (.float .f32 r) |>.set 2 (.float .f32 q) |>.set 3 (.float .f32 t) |>.set 4 (.float .f32 q0)) (by omega)
        generalize World.setCell _ _ _ = W9 at *
        have g1 := G9.at_.f.a
        have g2 := G9.at_.f.r
        have g3 := G9.at_.f.l
        have g4 := G9.at_.t
        have g5 := G9.at_.q
        have S10 := Lib.hid S9; have O10 := Lib.hid O9; clear S9 O9 d1 d2 d3 d4 d5 c1 c2 c3 c4 c5 e0 G9
        go_wp2
        exact bodyPost_ret (v := .tuple #[.slice p.A p.n cp, .agg #[.float .f32 a, .float .f32 r, .float .f32 q, .float .f32 t, .float .f32 q0]]) (by simp [results, Try.results91, go_sem, g1, g2, g3, g4, g5]) rfl
          ⟨p, cp, ⟨a, r, q, t, q0⟩, rfl, rfl, O10.out.less (by omega), HAA.out, ⟨ha, hr, hq, ht, hq0⟩, (by exact since_drewN S10.out 1)⟩
end Go.Proofs.Ytbgjmmncjmcjfaa
