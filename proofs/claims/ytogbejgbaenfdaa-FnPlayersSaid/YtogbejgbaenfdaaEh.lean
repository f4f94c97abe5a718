/- Dynamics: the gate. -/
import Derived.Test.YtogbejgbaenfdaaEg
set_option linter.unusedVariables false
set_option linter.unusedSimpArgs false
namespace Go.Proofs.Ytogbejgbaenfdaa
open Fl Go.RowKit
theorem isHold_any (hold held : Int) (b : Bool) (w : World) (h : okHold hold held = b) :
    Calls Try.prog 64 #[.int .i64 hold, .int .i64 held] w fun e w' => e = .returned (.bool b) ∧ w.Since w.heap.size w' := by
  subst h
  cases h1 : inB hold 0 10000
  · go_enter Try.func64, Try.ntmps64
    go_wp2_with (go_at_call 73; refine (allow_any _ _ _ _).mono ?_; rintro e w1 ⟨rfl, hs⟩; rw [h1])
    go_ret
    exact ⟨ret_bool (by simp [okHold, h1]), hs⟩
  · go_enter Try.func64, Try.ntmps64
    go_wp2_with fail
    refine (allow_any _ _ _ _).mono ?_
    rintro e w1 ⟨rfl, hs⟩
    rw [h1]
    have HS := Lib.hid hs; clear hs
    go_wp2_with fail
    refine (allow_any _ _ _ _).mono ?_
    rintro e w2 ⟨rfl, hs⟩
    have HS2 := Lib.hid hs; clear hs
    go_wp2
    go_ret
    exact ⟨ret_bool (by simp [okHold, h1]), since_step HS.out HS2.out⟩
theorem specHold_b (n lo hi : Int) (b : Bool) (w : World) (h : inB n lo hi = b) :
    Calls Try.prog 54 #[.int .i64 n, .int .i64 lo, .int .i64 hi] w fun e w' => e = .returned (.bool b) ∧ w = w' := by subst h; exact l00In_any n lo hi w
theorem implGate_no (A : Option Addr) (n c : Nat) (t : Nat) (hold held : Int) (w : World) (h : ¬ (n ≤ 256 ∧ okHold hold held = true)) (f : Nat → O) :
    Calls Try.prog 29 #[.slice A n c, .float .f32 t, .int .i64 hold, .int .i64 held] w (PLIB 0 f 0 false w) := by
  by_cases hn : n ≤ 256
  · have hfew : decide ((n : Int) ≤ 256) = true := decide_eq_true (by omega)
    have h2 : okHold hold held = false := by
      cases h2 : okHold hold held
      · rfl
      · exact absurd ⟨hn, h2⟩ h
    clear h
    go_enter Try.func29, Try.ntmps29
    go_wp2_with (first | (go_at_call 61; refine (implSamples_b _ _ _ _ _ hfew).mono ?_; rintro e w' ⟨rfl, rfl⟩) | (go_at_call 64; refine (isHold_any _ _ _ _ h2).mono ?_; rintro e w1 ⟨rfl, hs1⟩; have HS1 := Lib.hid hs1; clear hs1))
    go_ret3
    exact PLIB.none_ (World.Since.trans (by (repeat (first | (with_reducible refine Fl.sinDrew ?_) | (with_reducible refine World.Since.drew ?_) | (with_reducible refine Fl.sinSet ?_ ?_; rotate_left) | (with_reducible refine Fl.sinAlloc ?_ ?_; rotate_left) | with_reducible exact World.Since.refl _ _ | with_reducible assumption | (with_reducible refine Fl.sinStep (by with_reducible assumption) ?_))); all_goals (first | omega | (simp; done) | (simp; omega) | (simp [go_sem]; done) | (simp [go_sem]; omega))) (since_mono HS1.out (by simp; omega))) _
  · have hfew : decide ((n : Int) ≤ 256) = false := decide_eq_false (by omega)
    clear h
    go_enter Try.func29, Try.ntmps29
    go_wp2_with (first | (go_at_call 61; refine (implSamples_b _ _ _ _ _ hfew).mono ?_; rintro e w' ⟨rfl, rfl⟩))
    go_ret3
    exact PLIB.none_ (by (repeat (first | (with_reducible refine Fl.sinDrew ?_) | (with_reducible refine World.Since.drew ?_) | (with_reducible refine Fl.sinSet ?_ ?_; rotate_left) | (with_reducible refine Fl.sinAlloc ?_ ?_; rotate_left) | with_reducible exact World.Since.refl _ _ | with_reducible assumption | (with_reducible refine Fl.sinStep (by with_reducible assumption) ?_))); all_goals (first | omega | (simp; done) | (simp; omega) | (simp [go_sem]; done) | (simp [go_sem]; omega))) _
/-- what the closure of a gate finds in its boxes -/
structure GateI (b t : Nat) (hold H : Int) (W : World) : Prop where
  lt : b + 1 + 1 < W.heap.size
  t : W.cell? ⟨b, 0, none⟩ = some (.float .f32 t)
  ho : W.cell? ⟨b + 1, 0, none⟩ = some (.int .i64 hold)
  he : W.heap[b + 1 + 1]? = some (.cells #[.int .i64 H] 2 (0, 0))
theorem GateI.of {b t : Nat} {hold H : Int} {W W' : World} (h : GateI b t hold H W) (hs : W.heap.size ≤ W'.heap.size) (e : ∀ i, i ≤ b + 1 + 1 → W'.heap[i]? = W.heap[i]?) : GateI b t hold H W' :=
  ⟨Nat.lt_of_lt_of_le h.lt hs, (cell_of_block (e _ (by omega)) _).trans h.t, (cell_of_block (e _ (by omega)) _).trans h.ho, (e _ (by omega)).trans h.he⟩
theorem GateI.set {b t : Nat} {hold H H' : Int} {W : World} (h : GateI b t hold H W) : GateI b t hold H' (W.setCell ⟨b + 1 + 1, 0, none⟩ (.int .i64 H')) :=
  ⟨by rw [Go.Deep.nblk_setCell]; exact h.lt, (cell_of_block (Go.Deep.blk_setCell_other _ _ _ _ (show b ≠ b + 1 + 1 by omega)) _).trans h.t, (cell_of_block (Go.Deep.blk_setCell_other _ _ _ _ (show b + 1 ≠ b + 1 + 1 by omega)) _).trans h.ho, by
    simp [World.setCell, Array.getElem?_modify, h.he]⟩
theorem implSize2 (b : Nat) (w : World) (hb : b < 4294967296) : Calls Try.prog 63 #[.float .f32 b] w fun e w' => e = .returned (.float .f32 (sizeN b)) ∧ w' = w := (implSize_any b w hb).mono fun _ _ ⟨h1, h2⟩ => ⟨h1, h2.symm⟩
set_option maxHeartbeats 4000000 in
set_option maxRecDepth 100000 in
theorem gateClos_any (b q t : Nat) (Q T : O) (hold H : Int) (W : World) (hq : Hid (Fv .f32 q Q)) (ht : Hid (Fv .f32 t T)) (hI : GateI b t hold H W) (h1 : 0 ≤ H) (h2 : H ≤ 10000) :
    Calls Try.prog 66 #[.float .f32 q, .pointer (some ⟨b, 0, none⟩), .pointer (some ⟨b + 1, 0, none⟩), .pointer (some ⟨b + 1 + 1, 0, none⟩)] W fun e W' =>
      ∃ r, e = .returned (.float .f32 r) ∧ Hid (Fv .f32 r (if geO (sizeO Q) T then Q else if 0 < H then Q else some 0)) ∧ GateI b t hold (if geO (sizeO Q) T then hold else if 0 < H then H - 1 else H) W' ∧ On (b + 1 + 1) W W' := by
  have hql := hq.out.1
  have c1 := hI.t
  have c2 := hI.ho
  have c3 : W.cell? ⟨b + 1 + 1, 0, none⟩ = some (.int .i64 H) := by simp [World.cell?, hI.he]
  have f3 : W.frozen? ⟨b + 1 + 1, 0, none⟩ = false := by simp [World.frozen?, hI.he]
  have HI := Lib.hid hI
  clear hI
  have g1 := gt_fv (sizeN_fv hq) ht
  have g2 := eq_fv (sizeN_fv hq) ht
  unfold geO
  cases e1 : gtO (sizeO Q) T <;> cases e2 : eqO (sizeO Q) T
  case false.false =>
    rw [e1] at g1; rw [e2] at g2
    simp only [Bool.or_self, Bool.false_eq_true, if_false]
    cases e3 : decide ((0 : Int) < H)
    · have e4 : ¬ (0 : Int) < H := of_decide_eq_false e3
      rw [if_neg e4, if_neg e4]
      go_enter Try.func66, Try.ntmps66
      go_wp2_with fail
      refine Lo.wp_loose_all [] (by kernel_rfl) (by kernel_rfl) ?_
      repeat (first
        | (refine Lo.wpL_move rfl _ (.inl rfl) (by decide) ?_; simp only [Act.put, List.setIfInBounds_toArray, List.set_cons_succ, List.set_cons_zero])
        | (refine Lo.wpL_move rfl _ (.inr rfl) (by decide) ?_; simp only [Act.put, List.setIfInBounds_toArray, List.set_cons_succ, List.set_cons_zero])
        | (refine Lo.wpL_fop rfl _ _ _ _ rfl rfl (by decide) _ _ _ _ _ rfl rfl (by assumption) (by assumption) ?_; intro rr hrr; simp only [Act.put, List.setIfInBounds_toArray, List.set_cons_succ, List.set_cons_zero])
        | (refine Lo.wpL_wide rfl _ _ _ rfl (by decide) _ _ rfl (by kernel_rfl) (by kernel_rfl) (by assumption) ?_; intro rr hrr; simp only [Act.put, List.setIfInBounds_toArray, List.set_cons_succ, List.set_cons_zero])
        | (refine Lo.wpL_quiet rfl (by decide) (fun K hK => ?_); go_big_quiet_op; first | (refine hK _ ?_; clear hK K) | (apply Exists.intro; refine ⟨fun _ => ?_, hK _ ?_⟩; (first | (go_at_call 63; exact (implSize2 q _ hql).mono fun _ _ ⟨h1, h2⟩ => ⟨h1, _, h2⟩)); clear hK K)))
      refine Lo.wpL_nil ?_
      refine Lo.after_nil ?_; intro nq
      go_wp2
      go_ret
      exact ⟨_, rfl, fv0, HI.out.of (Nat.le_refl _) (fun _ _ => rfl), (On.refl _ _).drewN _⟩
    · have e4 : (0 : Int) < H := of_decide_eq_true e3
      rw [if_pos e4, if_pos e4]
      go_enter Try.func66, Try.ntmps66
      go_wp2_with fail
      refine Lo.wp_loose_all [] (by kernel_rfl) (by kernel_rfl) ?_
      repeat (first
        | (refine Lo.wpL_move rfl _ (.inl rfl) (by decide) ?_; simp only [Act.put, List.setIfInBounds_toArray, List.set_cons_succ, List.set_cons_zero])
        | (refine Lo.wpL_move rfl _ (.inr rfl) (by decide) ?_; simp only [Act.put, List.setIfInBounds_toArray, List.set_cons_succ, List.set_cons_zero])
        | (refine Lo.wpL_fop rfl _ _ _ _ rfl rfl (by decide) _ _ _ _ _ rfl rfl (by assumption) (by assumption) ?_; intro rr hrr; simp only [Act.put, List.setIfInBounds_toArray, List.set_cons_succ, List.set_cons_zero])
        | (refine Lo.wpL_wide rfl _ _ _ rfl (by decide) _ _ rfl (by kernel_rfl) (by kernel_rfl) (by assumption) ?_; intro rr hrr; simp only [Act.put, List.setIfInBounds_toArray, List.set_cons_succ, List.set_cons_zero])
        | (refine Lo.wpL_quiet rfl (by decide) (fun K hK => ?_); go_big_quiet_op; first | (refine hK _ ?_; clear hK K) | (apply Exists.intro; refine ⟨fun _ => ?_, hK _ ?_⟩; (first | (go_at_call 63; exact (implSize2 q _ hql).mono fun _ _ ⟨h1, h2⟩ => ⟨h1, _, h2⟩)); clear hK K)))
      refine Lo.wpL_nil ?_
      refine Lo.after_nil ?_; intro nq
      go_wp2
      go_ret
      exact ⟨_, rfl, hq, (HI.out.set).of (Nat.le_refl _) (fun _ _ => rfl), ((On.refl _ _).set _ _).drewN _⟩
  all_goals
    rw [e1] at g1; rw [e2] at g2
    simp only [Bool.or_true, Bool.true_or, Bool.or_self, if_true]
    go_enter Try.func66, Try.ntmps66
    go_wp2_with fail
    refine Lo.wp_loose_all [] (by kernel_rfl) (by kernel_rfl) ?_
    repeat (first
      | (refine Lo.wpL_move rfl _ (.inl rfl) (by decide) ?_; simp only [Act.put, List.setIfInBounds_toArray, List.set_cons_succ, List.set_cons_zero])
      | (refine Lo.wpL_move rfl _ (.inr rfl) (by decide) ?_; simp only [Act.put, List.setIfInBounds_toArray, List.set_cons_succ, List.set_cons_zero])
      | (refine Lo.wpL_fop rfl _ _ _ _ rfl rfl (by decide) _ _ _ _ _ rfl rfl (by assumption) (by assumption) ?_; intro rr hrr; simp only [Act.put, List.setIfInBounds_toArray, List.set_cons_succ, List.set_cons_zero])
      | (refine Lo.wpL_wide rfl _ _ _ rfl (by decide) _ _ rfl (by kernel_rfl) (by kernel_rfl) (by assumption) ?_; intro rr hrr; simp only [Act.put, List.setIfInBounds_toArray, List.set_cons_succ, List.set_cons_zero])
      | (refine Lo.wpL_quiet rfl (by decide) (fun K hK => ?_); go_big_quiet_op; first | (refine hK _ ?_; clear hK K) | (apply Exists.intro; refine ⟨fun _ => ?_, hK _ ?_⟩; (first | (go_at_call 63; exact (implSize2 q _ hql).mono fun _ _ ⟨h1, h2⟩ => ⟨h1, _, h2⟩)); clear hK K)))
    refine Lo.wpL_nil ?_
    refine Lo.after_nil ?_; intro nq
    go_wp2
    go_ret
    exact ⟨_, rfl, hq, (HI.out.set).of (Nat.le_refl _) (fun _ _ => rfl), ((On.refl _ _).set _ _).drewN _⟩
end Go.Proofs.Ytogbejgbaenfdaa
