/- Mixed and scaled samples, two channels: of the model. -/
import Derived.Test.YteggicdhgcecpaaAc
import Derived.Test.YteggicdhgcecpaaEd
import Derived.Test.YteggicdhgcecpaaLf
set_option linter.unusedVariables false
set_option linter.unusedSimpArgs false
namespace Go.Proofs.Yteggicdhgcecpaa
open Fl Go.RowKit
theorem fv2 : Hid (Fv .f32 1073741824 (some 1073741824)) := fvc (by decide) (by decide)
def sumF (X Y : Nat → O) (k : Nat) : O := ad (X k) (Y k)
def difF (X Y : Nat → O) (k : Nat) : O := su (X k) (Y k)
def midF (X Y : Nat → O) (k : Nat) : O := qu (ad (X k) (Y k)) (some 1073741824)
def sidF (X Y : Nat → O) (k : Nat) : O := qu (su (X k) (Y k)) (some 1073741824)
set_option maxHeartbeats 8000000 in
set_option maxRecDepth 100000 in
theorem specLR_ok (A : Option Addr) (n c : Nat) (xs : List Nat) (A2 : Option Addr) (c2 : Nat) (ys : List Nat) (w : World) (hA : Fs w w.heap.size A n xs) (hA2 : Fs w w.heap.size A2 n ys) (hn : n ≤ 256) :
    Calls Try.prog 30 #[.slice A n c, .slice A2 n c2] w (PEEB n (sumF (fun k => ab .f32 (wd xs k)) (fun k => ab .f32 (wd ys k))) n (difF (fun k => ab .f32 (wd xs k)) (fun k => ab .f32 (wd ys k))) true w) := by
  have hfew : decide ((n : Int) ≤ 256) = true := decide_eq_true (by omega)
  have HA := Lib.hid hA; have HA2 := Lib.hid hA2
  clear hA hA2
  have k2 := fv2
  go_enter Try.func30, Try.ntmps30
  go_wp2_with (first | (go_at_call 33; refine (specFew_any _ _ _ _ _ hfew).mono ?_; rintro e w' ⟨rfl, rfl⟩))
  go_loopw [7, 8, 24] (fun v u i wr => ∃ k : Nat, k ≤ n ∧ i = .int .i64 (k : Nat) ∧ Rw w.heap.size wr v k (sumF (fun k => ab .f32 (wd xs k)) (fun k => ab .f32 (wd ys k))) ∧ Rw w.heap.size wr u k (difF (fun k => ab .f32 (wd xs k)) (fun k => ab .f32 (wd ys k))) ∧ Apart v u ∧ w.Since w.heap.size wr) (fun _ _ i _ => n - (intOf i).toNat)
  case atStart =>
    refine ⟨0, Nat.zero_le _, rfl, (Rw.start w _ (Nat.le_refl _) _).alloc _, ?_, fun b h1 h2 => ?_, ((World.Since.refl _ _).alloc (Nat.le_refl _) _).alloc (by simp) _⟩
    · have := Rw.start (w.alloc (.cells #[] 22)) w.heap.size (by simp) (difF (fun k => ab .f32 (wd xs k)) (fun k => ab .f32 (wd ys k)))
      simpa using this
    · simp only [Value.ownBlock, Option.some.injEq] at h1 h2
      omega
  case round =>
    obtain ⟨k, hk, rfl, hr, hr2, hap, hs⟩ := hrel
    have HR := Lib.hid hr; have HR2 := Lib.hid hr2; have HP := Lib.hid hap; have HS := Lib.hid hs
    clear hr hr2 hap hs
    by_cases hlt : k < n
    · have hz := HS.out.size
      obtain ⟨g, off, rfl, hg, hcc⟩ := HA.out.2.2 (by omega)
      obtain ⟨g2, off2, rfl, hg2, hcc2⟩ := HA2.out.2.2 (by omega)
      have d1 := (HS.out.cell (a := ⟨g, off + k, none⟩) hg).trans (hcc k (by omega))
      have d2 := (HS.out.cell (a := ⟨g2, off2 + k, none⟩) hg2).trans (hcc2 k (by omega))
      have x1 : Hid (Fv .f32 (wd xs k) (ab .f32 (wd xs k))) := Lib.hid ⟨HA.out.2.1.at_ k, rfl⟩
      have x2 : Hid (Fv .f32 (wd ys k) (ab .f32 (wd ys k))) := Lib.hid ⟨HA2.out.2.1.at_ k, rfl⟩
      go_wp2_with fail
      refine Lo.wp_looseF_tail [36] 10 _ rfl rfl (by kernel_rfl) (by kernel_rfl) (fun _ _ _ h => h) ?_
      simp only [Nat.reduceSub, List.take_succ_cons, List.take_zero, List.drop_succ_cons, List.drop_zero, Act.eval, Act.put, List.setIfInBounds_toArray, List.set_cons_succ, List.set_cons_zero, Array.getD_eq_getD_getElem?, List.getElem?_toArray, List.getElem?_cons_succ, List.getElem?_cons_zero, Option.getD_some]
      repeat (first
        | (refine Lo.wpL_move rfl _ (.inl rfl) (by decide) ?_; simp only [Act.put, List.setIfInBounds_toArray, List.set_cons_succ, List.set_cons_zero])
        | (refine Lo.wpL_move rfl _ (.inr rfl) (by decide) ?_; simp only [Act.put, List.setIfInBounds_toArray, List.set_cons_succ, List.set_cons_zero])
        | (refine Lo.wpL_fop rfl _ _ _ _ rfl rfl (by decide) _ _ _ _ _ rfl rfl (by assumption) (by assumption) ?_; intro rr hrr; simp only [Act.put, List.setIfInBounds_toArray, List.set_cons_succ, List.set_cons_zero])
        | (refine Lo.wpL_wide rfl _ _ _ rfl (by decide) _ _ rfl (by kernel_rfl) (by kernel_rfl) (by assumption) ?_; intro rr hrr; simp only [Act.put, List.setIfInBounds_toArray, List.set_cons_succ, List.set_cons_zero])
        | (refine Lo.wpL_quiet rfl (by decide) (fun K hK => ?_); go_big_quiet_op; (refine hK _ ?_; clear hK K)))
      refine Lo.wpL_nil ?_
      refine Lo.after_fl rfl (by assumption) ?_; intro q36 h36; simp only [Act.put, List.setIfInBounds_toArray, List.set_cons_succ, List.set_cons_zero]
      refine Lo.after_nil ?_; intro nq
      have y1 : Hid (Fv .f32 q36 (sumF (fun k => ab .f32 (wd xs k)) (fun k => ab .f32 (wd ys k)) k)) := h36
      clear h36
      go_wp2_with (first | (at_builtin; refine wpList_app2 rfl (.tmp 27) (.tmp 37) rfl w.heap.size _ k _ rfl _ _ rfl (by simp [go_sem]) (by omega) (by simp; omega) y1 ((HR.out.drewN _).alloc _) ?_; intro v' w3 hR3 hS3 hO3))
      have HS3 := Lib.hid (HS.out.trans ((since_drewN ((World.Since.refl _ _).alloc hz _) _).trans hS3.out))
      have HO := Lib.hid (hO3.out _ _ _ ((HR2.out.drewN _).alloc _) HP.out)
      clear hS3 hO3 d1 d2
      have hz3 := HS3.out.size
      have d1 := (HS3.out.cell (a := ⟨g, off + k, none⟩) hg).trans (hcc k (by omega))
      have d2 := (HS3.out.cell (a := ⟨g2, off2 + k, none⟩) hg2).trans (hcc2 k (by omega))
      clear hcc hcc2
      go_wp2_with fail
      refine Lo.wp_looseF_tail [48] 10 _ rfl rfl (by kernel_rfl) (by kernel_rfl) (fun _ _ _ h => h) ?_
      simp only [Nat.reduceSub, List.take_succ_cons, List.take_zero, List.drop_succ_cons, List.drop_zero, Act.eval, Act.put, List.setIfInBounds_toArray, List.set_cons_succ, List.set_cons_zero, Array.getD_eq_getD_getElem?, List.getElem?_toArray, List.getElem?_cons_succ, List.getElem?_cons_zero, Option.getD_some]
      repeat (first
        | (refine Lo.wpL_move rfl _ (.inl rfl) (by decide) ?_; simp only [Act.put, List.setIfInBounds_toArray, List.set_cons_succ, List.set_cons_zero])
        | (refine Lo.wpL_move rfl _ (.inr rfl) (by decide) ?_; simp only [Act.put, List.setIfInBounds_toArray, List.set_cons_succ, List.set_cons_zero])
        | (refine Lo.wpL_fop rfl _ _ _ _ rfl rfl (by decide) _ _ _ _ _ rfl rfl (by assumption) (by assumption) ?_; intro rr hrr; simp only [Act.put, List.setIfInBounds_toArray, List.set_cons_succ, List.set_cons_zero])
        | (refine Lo.wpL_wide rfl _ _ _ rfl (by decide) _ _ rfl (by kernel_rfl) (by kernel_rfl) (by assumption) ?_; intro rr hrr; simp only [Act.put, List.setIfInBounds_toArray, List.set_cons_succ, List.set_cons_zero])
        | (refine Lo.wpL_quiet rfl (by decide) (fun K hK => ?_); go_big_quiet_op; (refine hK _ ?_; clear hK K)))
      refine Lo.wpL_nil ?_
      refine Lo.after_fl rfl (by assumption) ?_; intro q48 h48; simp only [Act.put, List.setIfInBounds_toArray, List.set_cons_succ, List.set_cons_zero]
      refine Lo.after_nil ?_; intro nq
      have y2 : Hid (Fv .f32 q48 (difF (fun k => ab .f32 (wd xs k)) (fun k => ab .f32 (wd ys k)) k)) := h48
      clear h48
      go_wp2_with (first | (at_builtin; refine wpList_app2 rfl (.tmp 39) (.tmp 49) rfl w.heap.size _ k _ rfl _ _ rfl (by simp [go_sem]) (by omega) (by simp; omega) y2 ((HO.out.1.drewN _).alloc _) ?_; intro u' w4 hR4 hS4 hO4))
      have HO4 := Lib.hid (hO4.out _ _ _ ((hR3.out.drewN _).alloc _) HO.out.2.symm)
      go_roundw
      case rel => exact ⟨k + 1, by omega, by go_num, HO4.out.1, hR4.out, HO4.out.2.symm, HS3.out.trans ((since_drewN ((World.Since.refl _ _).alloc hz3 _) _).trans hS4.out)⟩
      case measure => simp [intOf]; omega
    · obtain rfl : k = n := by omega
      obtain ⟨p, cp, rfl, rfl, hg, ha⟩ := HR.out.done
      obtain ⟨q, cq, rfl, hqn, hg2, ha2⟩ := HR2.out.done
      have HG := Lib.hid hg; have HAA := Lib.hid ha; have HG2 := Lib.hid hg2; have HAA2 := Lib.hid ha2; have HQN := Lib.hid hqn; clear hg ha hg2 ha2 hqn
      go_wp2
      go_ret3
      exact ⟨p, q, cp, cq, rfl, rfl, HQN.out, HG.out.toE, HG2.out.toE, HAA.out, HAA2.out, De.of_apart HP.out, HS.out⟩
theorem specLR_no (A : Option Addr) (n c : Nat) (A2 : Option Addr) (n2 c2 : Nat) (w : World) (hn : ¬ (n ≤ 256 ∧ n = n2)) (hb : n ≤ 1048576) (hb2 : n2 ≤ 1048576) (F G : Nat → O) :
    Calls Try.prog 30 #[.slice A n c, .slice A2 n2 c2] w (PEEB 0 F 0 G false w) := by
  by_cases h1 : n ≤ 256
  · have hfew : decide ((n : Int) ≤ 256) = true := decide_eq_true (by omega)
    have hne : ¬ (n : Int) = (n2 : Int) := by omega
    have hne2 : ¬ n = n2 := by omega
    go_enter Try.func30, Try.ntmps30
    go_wp2_with (first | (go_at_call 33; refine (specFew_any _ _ _ _ _ hfew).mono ?_; rintro e w' ⟨rfl, rfl⟩))
    go_ret3
    exact PEEB.none_ (by (repeat (first | (with_reducible refine Fl.sinDrew ?_) | (with_reducible refine World.Since.drew ?_) | (with_reducible refine Fl.sinSet ?_ ?_; rotate_left) | (with_reducible refine Fl.sinAlloc ?_ ?_; rotate_left) | with_reducible exact World.Since.refl _ _ | with_reducible assumption | (with_reducible refine Fl.sinStep (by with_reducible assumption) ?_))); all_goals (first | omega | (simp; done) | (simp; omega) | (simp [go_sem]; done) | (simp [go_sem]; omega))) _ _
  · have hfew : decide ((n : Int) ≤ 256) = false := decide_eq_false (by omega)
    go_enter Try.func30, Try.ntmps30
    go_wp2_with (first | (go_at_call 33; refine (specFew_any _ _ _ _ _ hfew).mono ?_; rintro e w' ⟨rfl, rfl⟩))
    go_ret3
    exact PEEB.none_ (by (repeat (first | (with_reducible refine Fl.sinDrew ?_) | (with_reducible refine World.Since.drew ?_) | (with_reducible refine Fl.sinSet ?_ ?_; rotate_left) | (with_reducible refine Fl.sinAlloc ?_ ?_; rotate_left) | with_reducible exact World.Since.refl _ _ | with_reducible assumption | (with_reducible refine Fl.sinStep (by with_reducible assumption) ?_))); all_goals (first | omega | (simp; done) | (simp; omega) | (simp [go_sem]; done) | (simp [go_sem]; omega))) _ _
set_option maxHeartbeats 8000000 in
set_option maxRecDepth 100000 in
theorem specMS_ok (A : Option Addr) (n c : Nat) (xs : List Nat) (A2 : Option Addr) (c2 : Nat) (ys : List Nat) (w : World) (hA : Fs w w.heap.size A n xs) (hA2 : Fs w w.heap.size A2 n ys) (hn : n ≤ 256) :
    Calls Try.prog 28 #[.slice A n c, .slice A2 n c2] w (PEEB n (midF (fun k => ab .f32 (wd xs k)) (fun k => ab .f32 (wd ys k))) n (sidF (fun k => ab .f32 (wd xs k)) (fun k => ab .f32 (wd ys k))) true w) := by
  have hfew : decide ((n : Int) ≤ 256) = true := decide_eq_true (by omega)
  have HA := Lib.hid hA; have HA2 := Lib.hid hA2
  clear hA hA2
  have k2 := fv2
  go_enter Try.func28, Try.ntmps28
  go_wp2_with (first | (go_at_call 33; refine (specFew_any _ _ _ _ _ hfew).mono ?_; rintro e w' ⟨rfl, rfl⟩))
  go_loopw [7, 8, 24] (fun v u i wr => ∃ k : Nat, k ≤ n ∧ i = .int .i64 (k : Nat) ∧ Rw w.heap.size wr v k (midF (fun k => ab .f32 (wd xs k)) (fun k => ab .f32 (wd ys k))) ∧ Rw w.heap.size wr u k (sidF (fun k => ab .f32 (wd xs k)) (fun k => ab .f32 (wd ys k))) ∧ Apart v u ∧ w.Since w.heap.size wr) (fun _ _ i _ => n - (intOf i).toNat)
  case atStart =>
    refine ⟨0, Nat.zero_le _, rfl, (Rw.start w _ (Nat.le_refl _) _).alloc _, ?_, fun b h1 h2 => ?_, ((World.Since.refl _ _).alloc (Nat.le_refl _) _).alloc (by simp) _⟩
    · have := Rw.start (w.alloc (.cells #[] 22)) w.heap.size (by simp) (sidF (fun k => ab .f32 (wd xs k)) (fun k => ab .f32 (wd ys k)))
      simpa using this
    · simp only [Value.ownBlock, Option.some.injEq] at h1 h2
      omega
  case round =>
    obtain ⟨k, hk, rfl, hr, hr2, hap, hs⟩ := hrel
    have HR := Lib.hid hr; have HR2 := Lib.hid hr2; have HP := Lib.hid hap; have HS := Lib.hid hs
    clear hr hr2 hap hs
    by_cases hlt : k < n
    · have hz := HS.out.size
      obtain ⟨g, off, rfl, hg, hcc⟩ := HA.out.2.2 (by omega)
      obtain ⟨g2, off2, rfl, hg2, hcc2⟩ := HA2.out.2.2 (by omega)
      have d1 := (HS.out.cell (a := ⟨g, off + k, none⟩) hg).trans (hcc k (by omega))
      have d2 := (HS.out.cell (a := ⟨g2, off2 + k, none⟩) hg2).trans (hcc2 k (by omega))
      have x1 : Hid (Fv .f32 (wd xs k) (ab .f32 (wd xs k))) := Lib.hid ⟨HA.out.2.1.at_ k, rfl⟩
      have x2 : Hid (Fv .f32 (wd ys k) (ab .f32 (wd ys k))) := Lib.hid ⟨HA2.out.2.1.at_ k, rfl⟩
      go_wp2_with fail
      refine Lo.wp_looseF_tail [36,37] 11 _ rfl rfl (by kernel_rfl) (by kernel_rfl) (fun _ _ _ h => h) ?_
      simp only [Nat.reduceSub, List.take_succ_cons, List.take_zero, List.drop_succ_cons, List.drop_zero, Act.eval, Act.put, List.setIfInBounds_toArray, List.set_cons_succ, List.set_cons_zero, Array.getD_eq_getD_getElem?, List.getElem?_toArray, List.getElem?_cons_succ, List.getElem?_cons_zero, Option.getD_some]
      repeat (first
        | (refine Lo.wpL_move rfl _ (.inl rfl) (by decide) ?_; simp only [Act.put, List.setIfInBounds_toArray, List.set_cons_succ, List.set_cons_zero])
        | (refine Lo.wpL_move rfl _ (.inr rfl) (by decide) ?_; simp only [Act.put, List.setIfInBounds_toArray, List.set_cons_succ, List.set_cons_zero])
        | (refine Lo.wpL_fop rfl _ _ _ _ rfl rfl (by decide) _ _ _ _ _ rfl rfl (by assumption) (by assumption) ?_; intro rr hrr; simp only [Act.put, List.setIfInBounds_toArray, List.set_cons_succ, List.set_cons_zero])
        | (refine Lo.wpL_wide rfl _ _ _ rfl (by decide) _ _ rfl (by kernel_rfl) (by kernel_rfl) (by assumption) ?_; intro rr hrr; simp only [Act.put, List.setIfInBounds_toArray, List.set_cons_succ, List.set_cons_zero])
        | (refine Lo.wpL_quiet rfl (by decide) (fun K hK => ?_); go_big_quiet_op; (refine hK _ ?_; clear hK K)))
      refine Lo.wpL_nil ?_
      refine Lo.after_fl rfl (by assumption) ?_; intro q36 h36; simp only [Act.put, List.setIfInBounds_toArray, List.set_cons_succ, List.set_cons_zero]
      refine Lo.after_fl rfl (by assumption) ?_; intro q37 h37; simp only [Act.put, List.setIfInBounds_toArray, List.set_cons_succ, List.set_cons_zero]
      refine Lo.after_nil ?_; intro nq
      have y1 : Hid (Fv .f32 q37 (midF (fun k => ab .f32 (wd xs k)) (fun k => ab .f32 (wd ys k)) k)) := h37
      clear h37 h36
      go_wp2_with (first | (at_builtin; refine wpList_app2 rfl (.tmp 27) (.tmp 38) rfl w.heap.size _ k _ rfl _ _ rfl (by simp [go_sem]) (by omega) (by simp; omega) y1 ((HR.out.drewN _).alloc _) ?_; intro v' w3 hR3 hS3 hO3))
      have HS3 := Lib.hid (HS.out.trans ((since_drewN ((World.Since.refl _ _).alloc hz _) _).trans hS3.out))
      have HO := Lib.hid (hO3.out _ _ _ ((HR2.out.drewN _).alloc _) HP.out)
      clear hS3 hO3 d1 d2
      have hz3 := HS3.out.size
      have d1 := (HS3.out.cell (a := ⟨g, off + k, none⟩) hg).trans (hcc k (by omega))
      have d2 := (HS3.out.cell (a := ⟨g2, off2 + k, none⟩) hg2).trans (hcc2 k (by omega))
      clear hcc hcc2
      go_wp2_with fail
      refine Lo.wp_looseF_tail [49,50] 11 _ rfl rfl (by kernel_rfl) (by kernel_rfl) (fun _ _ _ h => h) ?_
      simp only [Nat.reduceSub, List.take_succ_cons, List.take_zero, List.drop_succ_cons, List.drop_zero, Act.eval, Act.put, List.setIfInBounds_toArray, List.set_cons_succ, List.set_cons_zero, Array.getD_eq_getD_getElem?, List.getElem?_toArray, List.getElem?_cons_succ, List.getElem?_cons_zero, Option.getD_some]
      repeat (first
        | (refine Lo.wpL_move rfl _ (.inl rfl) (by decide) ?_; simp only [Act.put, List.setIfInBounds_toArray, List.set_cons_succ, List.set_cons_zero])
        | (refine Lo.wpL_move rfl _ (.inr rfl) (by decide) ?_; simp only [Act.put, List.setIfInBounds_toArray, List.set_cons_succ, List.set_cons_zero])
        | (refine Lo.wpL_fop rfl _ _ _ _ rfl rfl (by decide) _ _ _ _ _ rfl rfl (by assumption) (by assumption) ?_; intro rr hrr; simp only [Act.put, List.setIfInBounds_toArray, List.set_cons_succ, List.set_cons_zero])
        | (refine Lo.wpL_wide rfl _ _ _ rfl (by decide) _ _ rfl (by kernel_rfl) (by kernel_rfl) (by assumption) ?_; intro rr hrr; simp only [Act.put, List.setIfInBounds_toArray, List.set_cons_succ, List.set_cons_zero])
        | (refine Lo.wpL_quiet rfl (by decide) (fun K hK => ?_); go_big_quiet_op; (refine hK _ ?_; clear hK K)))
      refine Lo.wpL_nil ?_
      refine Lo.after_fl rfl (by assumption) ?_; intro q49 h49; simp only [Act.put, List.setIfInBounds_toArray, List.set_cons_succ, List.set_cons_zero]
      refine Lo.after_fl rfl (by assumption) ?_; intro q50 h50; simp only [Act.put, List.setIfInBounds_toArray, List.set_cons_succ, List.set_cons_zero]
      refine Lo.after_nil ?_; intro nq
      have y2 : Hid (Fv .f32 q50 (sidF (fun k => ab .f32 (wd xs k)) (fun k => ab .f32 (wd ys k)) k)) := h50
      clear h50 h49
      go_wp2_with (first | (at_builtin; refine wpList_app2 rfl (.tmp 40) (.tmp 51) rfl w.heap.size _ k _ rfl _ _ rfl (by simp [go_sem]) (by omega) (by simp; omega) y2 ((HO.out.1.drewN _).alloc _) ?_; intro u' w4 hR4 hS4 hO4))
      have HO4 := Lib.hid (hO4.out _ _ _ ((hR3.out.drewN _).alloc _) HO.out.2.symm)
      go_roundw
      case rel => exact ⟨k + 1, by omega, by go_num, HO4.out.1, hR4.out, HO4.out.2.symm, HS3.out.trans ((since_drewN ((World.Since.refl _ _).alloc hz3 _) _).trans hS4.out)⟩
      case measure => simp [intOf]; omega
    · obtain rfl : k = n := by omega
      obtain ⟨p, cp, rfl, rfl, hg, ha⟩ := HR.out.done
      obtain ⟨q, cq, rfl, hqn, hg2, ha2⟩ := HR2.out.done
      have HG := Lib.hid hg; have HAA := Lib.hid ha; have HG2 := Lib.hid hg2; have HAA2 := Lib.hid ha2; have HQN := Lib.hid hqn; clear hg ha hg2 ha2 hqn
      go_wp2
      go_ret3
      exact ⟨p, q, cp, cq, rfl, rfl, HQN.out, HG.out.toE, HG2.out.toE, HAA.out, HAA2.out, De.of_apart HP.out, HS.out⟩
theorem specMS_no (A : Option Addr) (n c : Nat) (A2 : Option Addr) (n2 c2 : Nat) (w : World) (hn : ¬ (n ≤ 256 ∧ n = n2)) (hb : n ≤ 1048576) (hb2 : n2 ≤ 1048576) (F G : Nat → O) :
    Calls Try.prog 28 #[.slice A n c, .slice A2 n2 c2] w (PEEB 0 F 0 G false w) := by
  by_cases h1 : n ≤ 256
  · have hfew : decide ((n : Int) ≤ 256) = true := decide_eq_true (by omega)
    have hne : ¬ (n : Int) = (n2 : Int) := by omega
    have hne2 : ¬ n = n2 := by omega
    go_enter Try.func28, Try.ntmps28
    go_wp2_with (first | (go_at_call 33; refine (specFew_any _ _ _ _ _ hfew).mono ?_; rintro e w' ⟨rfl, rfl⟩))
    go_ret3
    exact PEEB.none_ (by (repeat (first | (with_reducible refine Fl.sinDrew ?_) | (with_reducible refine World.Since.drew ?_) | (with_reducible refine Fl.sinSet ?_ ?_; rotate_left) | (with_reducible refine Fl.sinAlloc ?_ ?_; rotate_left) | with_reducible exact World.Since.refl _ _ | with_reducible assumption | (with_reducible refine Fl.sinStep (by with_reducible assumption) ?_))); all_goals (first | omega | (simp; done) | (simp; omega) | (simp [go_sem]; done) | (simp [go_sem]; omega))) _ _
  · have hfew : decide ((n : Int) ≤ 256) = false := decide_eq_false (by omega)
    go_enter Try.func28, Try.ntmps28
    go_wp2_with (first | (go_at_call 33; refine (specFew_any _ _ _ _ _ hfew).mono ?_; rintro e w' ⟨rfl, rfl⟩))
    go_ret3
    exact PEEB.none_ (by (repeat (first | (with_reducible refine Fl.sinDrew ?_) | (with_reducible refine World.Since.drew ?_) | (with_reducible refine Fl.sinSet ?_ ?_; rotate_left) | (with_reducible refine Fl.sinAlloc ?_ ?_; rotate_left) | with_reducible exact World.Since.refl _ _ | with_reducible assumption | (with_reducible refine Fl.sinStep (by with_reducible assumption) ?_))); all_goals (first | omega | (simp; done) | (simp; omega) | (simp [go_sem]; done) | (simp [go_sem]; omega))) _ _
end Go.Proofs.Yteggicdhgcecpaa
