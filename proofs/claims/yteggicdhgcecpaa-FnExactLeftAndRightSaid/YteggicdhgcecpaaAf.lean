/- Two channels: of the program. -/
import Derived.Test.YteggicdhgcecpaaAb
import Derived.Test.YteggicdhgcecpaaAd
set_option linter.unusedVariables false
set_option linter.unusedSimpArgs false
namespace Go.Proofs.Yteggicdhgcecpaa
open Fl Go.RowKit
set_option maxHeartbeats 2000000 in
set_option maxRecDepth 100000 in
theorem results_since (A : Option Addr) (n c : Nat) (xs : List Nat) (F : FuncId) (caps : Array Value) (Y : Nat → Option Nat) (w : World) (h : Fs w w.heap.size A n xs) (hn : n ≤ 256)
    (hent : ∀ args w, (callFunc F args).run Try.prog w = .ok (.enter F args) w)
    (hstep : ∀ k q W, k < n → q = wd xs k → w.Since w.heap.size W → Calls Try.prog F (#[.float .f32 q] ++ caps) W fun e W' => ∃ r, e = .returned (.float .f32 r) ∧ Hid (Fv .f32 r (Y k)) ∧ W.Since W.heap.size W') :
    Calls Try.prog 44 #[.slice A n c, .func (.func F) #[] caps] w fun e w' => ∃ ys, e = .returned (.slice (some ⟨w.heap.size, 0, none⟩) n n) ∧ Gs 22 w' w.heap.size (some ⟨w.heap.size, 0, none⟩) n ys ∧ Are' n ys Y ∧ w.Since w.heap.size w' := by
  have H := Lib.hid h
  have hmk := fun W => run_make_row' (P := Try.prog) 25 22 (.float .f32 0) 4 Try.underlying25 Try.infoF rfl .i64 .i64 n (by omega) (by omega) W
  have HST := Lib.hid hstep
  clear h hstep
  go_enter Try.func44, Try.ntmps44
  go_wp2
  go_loopw [13] (fun i wr => ∃ (k : Nat) (r : Nat → Nat), k ≤ n ∧ i = .int .i64 k ∧ GCells wr w.heap.size n (partial_ k r) ∧ (∀ j, j < k → Hid (Fv .f32 (r j) (Y j))) ∧ w.Since w.heap.size wr) (fun i _ => n - (intOf i).toNat)
  case atStart =>
    have hr := (World.rowIs_made w (.float .f32 0) n 22)
    obtain ⟨cs, hb, _, hc⟩ := hr
    exact ⟨0, fun _ => 0, Nat.zero_le _, rfl, ⟨cs, hb, fun j hj => hc j hj⟩, fun j hj => by omega, (World.Since.refl _ _).alloc (Nat.le_refl _) _⟩
  case round =>
    obtain ⟨k, r, hk, rfl, hcs, hr, hon⟩ := hrel
    have HC := Lib.hid hcs; have HR := Lib.hid hr; have HON := Lib.hid hon
    have hsz : w.heap.size < wr.heap.size := hcs.lt
    clear hcs hr hon
    by_cases hlt : k < n
    · obtain ⟨g, off, rfl, hg, hc⟩ := H.out.2.2 (by omega)
      have hcell : wr.cell? ⟨g, off + k, none⟩ = some (.float .f32 (wd xs k)) := (HON.out.cell (a := ⟨g, off + k, none⟩) hg).trans (hc k hlt)
      clear hc
      go_wp2_with fail
      refine (HST.out k _ wr hlt rfl HON.out).mono ?_
      rintro e w2 ⟨r1, rfl, hr1, ho1⟩
      have HC2 := Lib.hid (show GCells w2 w.heap.size n (partial_ k r) by
        obtain ⟨cs, hb, hc⟩ := HC.out
        exact ⟨cs, (ho1.block _ hsz).trans hb, hc⟩)
      have hc2 : w2.cell? ⟨w.heap.size, k, none⟩ = some (partial_ k r k) := HC2.out.cell hlt
      have hf2 : w2.frozen? ⟨w.heap.size, k, none⟩ = false := HC2.out.free _
      have HR1 := Lib.hid hr1; have HO1 := Lib.hid ho1
      clear hr1 ho1
      go_wp2
      go_roundw
      case rel =>
        refine ⟨k + 1, fun j => if j = k then r1 else r j, by omega, by go_num, (HC2.out.set k _).congr (fun j hj => ?_), fun j hj => ?_, (since_step HON.out HO1.out).setCell (Nat.le_refl _) _⟩
        · unfold partial_
          dsimp only
          by_cases e : j = k
          · rw [if_pos e, if_pos (by omega), if_pos e]
          · rw [if_neg e, if_neg e]
            by_cases e2 : j < k
            · rw [if_pos e2, if_pos (by omega)]
            · rw [if_neg e2, if_neg (by omega)]
        · show Hid (Fv .f32 (if j = k then r1 else r j) (Y j))
          by_cases e : j = k
          · subst e; rw [if_pos rfl]; exact HR1
          · rw [if_neg e]; exact HR.out j (by omega)
      case measure => simp [intOf]; omega
    · obtain rfl : k = n := by omega
      go_wp2
      go_ret
      refine ⟨lst k r, rfl, ⟨lst_len _ _, fun y hy => ?_, fun _ => ?_⟩, fun i hi => by rw [lst_wd hi]; exact (HR.out i hi).out.2, HON.out⟩
      · obtain ⟨i, hi, rfl⟩ := List.mem_map.1 hy
        exact (HR.out i (List.mem_range.1 hi)).out.1
      · obtain ⟨cs, hb, hc⟩ := HC.out
        refine ⟨_, cs, rfl, Nat.le_refl _, hb, fun j hj => ?_⟩
        rw [hc j hj]; unfold partial_ fv; rw [if_pos hj, lst_wd hj]
theorem implMixSamples_no (A : Option Addr) (n c : Nat) (A2 : Option Addr) (n2 c2 : Nat) (w : World) (hn : ¬ (n ≤ 256 ∧ n = n2)) (F : Nat → O) :
    Calls Try.prog 55 #[.slice A n c, .slice A2 n2 c2] w (PLB 0 F false w) := by
  have hfew : decide (n ≤ 256 ∧ n = n2) = false := decide_eq_false hn
  go_enter Try.func55, Try.ntmps55
  go_wp2_with (first | (go_at_call 71; refine (implPair_any _ _ _ _ _ _ false _ hfew).mono ?_; rintro e w' ⟨rfl, rfl⟩))
  go_ret2
  exact PLB.none_ (by (repeat (first | (with_reducible refine Fl.sinDrew ?_) | (with_reducible refine World.Since.drew ?_) | (with_reducible refine Fl.sinSet ?_ ?_; rotate_left) | (with_reducible refine Fl.sinAlloc ?_ ?_; rotate_left) | with_reducible exact World.Since.refl _ _ | with_reducible assumption | (with_reducible refine Fl.sinStep (by with_reducible assumption) ?_))); all_goals (first | omega | (simp; done) | (simp; omega) | (simp [go_sem]; done) | (simp [go_sem]; omega))) _
set_option maxHeartbeats 4000000 in
set_option maxRecDepth 100000 in
theorem implLR_ok (A : Option Addr) (n c : Nat) (xs : List Nat) (A2 : Option Addr) (c2 : Nat) (ys : List Nat) (w : World) (hA : Fs w w.heap.size A n xs) (hnc : n ≤ c) (hA2 : Fs w w.heap.size A2 n ys) (hnc2 : n ≤ c2) (hn : n ≤ 256) :
    Calls Try.prog 31 #[.slice A n c, .slice A2 n c2] w (PEEB n (sumF (fun k => ab .f32 (wd xs k)) (fun k => ab .f32 (wd ys k))) n (difF (fun k => ab .f32 (wd xs k)) (fun k => ab .f32 (wd ys k))) true w) := by
  have HA := Lib.hid hA; have HA2 := Lib.hid hA2
  have HQ := Lib.hid (implMixSamples_ok A n c xs A2 c2 ys w hA hnc hn hA2 hnc2)
  have hmk := fun W => run_make_row' (P := Try.prog) 25 22 (.float .f32 0) 4 Try.underlying25 Try.infoF rfl .i64 .i64 n (by omega) (by omega) W
  clear hA hA2
  go_enter Try.func31, Try.ntmps31
  go_wp2_with fail
  go_at_call 55
  refine HQ.out.mono ?_
  rintro e w2 ⟨p, cp, rfl, hpn, hg, ha, hs⟩
  have HPN := Lib.hid hpn; have HG := Lib.hid hg; have HAA := Lib.hid ha; have HS2 := Lib.hid hs; clear hpn hg ha hs
  have hz2 := HS2.out.size
  go_wp2
  go_loopw [25] (fun i wr => ∃ (k : Nat) (r : Nat → Nat), k ≤ n ∧ i = .int .i64 k ∧ GCells wr w2.heap.size n (partial_ k r) ∧ (∀ j, j < k → Hid (Fv .f32 (r j) (difF (fun k => ab .f32 (wd xs k)) (fun k => ab .f32 (wd ys k)) j))) ∧ w2.Since w2.heap.size wr) (fun i _ => n - (intOf i).toNat)
  case atStart =>
    obtain ⟨cs, hb, _, hc⟩ := (World.rowIs_made w2 (.float .f32 0) n 22)
    exact ⟨0, fun _ => 0, Nat.zero_le _, rfl, ⟨cs, hb, fun j hj => hc j hj⟩, fun j hj => by omega, (World.Since.refl _ _).alloc (Nat.le_refl _) _⟩
  case round =>
    obtain ⟨k, r, hk, rfl, hcs, hr, hs⟩ := hrel
    have HC := Lib.hid hcs; have HR := Lib.hid hr; have HS := Lib.hid hs
    have hsz : w2.heap.size < wr.heap.size := hcs.lt
    clear hcs hr hs
    by_cases hlt : k < n
    · obtain ⟨g, off, rfl, hg, hcc⟩ := HA.out.2.2 (by omega)
      obtain ⟨g2, off2, rfl, hg2, hcc2⟩ := HA2.out.2.2 (by omega)
      have T := HS2.out.trans (since_mono HS.out hz2)
      have d1 := (T.cell (a := ⟨g, off + k, none⟩) hg).trans (hcc k (by omega))
      have d2 := (T.cell (a := ⟨g2, off2 + k, none⟩) hg2).trans (hcc2 k (by omega))
      have x1 : Hid (Fv .f32 (wd xs k) (ab .f32 (wd xs k))) := Lib.hid ⟨HA.out.2.1.at_ k, rfl⟩
      have x2 : Hid (Fv .f32 (wd ys k) (ab .f32 (wd ys k))) := Lib.hid ⟨HA2.out.2.1.at_ k, rfl⟩
      have hc2 : wr.cell? ⟨w2.heap.size, k, none⟩ = some (partial_ k r k) := HC.out.cell hlt
      have hf2 : wr.frozen? ⟨w2.heap.size, k, none⟩ = false := HC.out.free _
      clear hcc hcc2 T
      go_wp2_with (with_reducible_and_instances refine Lo.wpList_fo _ rfl _ _ _ _ _ rfl _ _ _ _ _ rfl rfl rfl (by assumption) (by assumption) ?_; intro rr nn hrr)
      have HRR := Lib.hid hrr
      go_roundw
      case rel =>
        refine ⟨k + 1, fun j => if j = k then rr else r j, by omega, by go_num, (GCells.set (w := wr.drewN nn) HC.out k _).congr (fun j hj => ?_), fun j hj => ?_, (since_drewN HS.out nn).setCell (Nat.le_refl _) _⟩
        · unfold partial_
          dsimp only
          by_cases e : j = k
          · rw [if_pos e, if_pos (by omega), if_pos e]
          · rw [if_neg e, if_neg e]
            by_cases e2 : j < k
            · rw [if_pos e2, if_pos (by omega)]
            · rw [if_neg e2, if_neg (by omega)]
        · show Hid (Fv .f32 (if j = k then rr else r j) _)
          by_cases e : j = k
          · subst e; rw [if_pos rfl]; exact HRR.out
          · rw [if_neg e]; exact HR.out j (by omega)
      case measure => simp [intOf]; omega
    · obtain rfl : k = n := by omega
      go_wp2
      go_ret3
      refine ⟨p, ⟨some ⟨w2.heap.size, 0, none⟩, k, lst k r⟩, cp, k, rfl, HPN.out, rfl, (HG.out.since HS.out).toE, Gs.toE ⟨lst_len _ _, fun y hy => ?_, fun _ => ?_⟩, HAA.out, fun i hi => by rw [lst_wd hi]; exact (HR.out i hi).out.2, fun g h1 h2 => ?_, HS2.out.trans (since_mono HS.out hz2)⟩
      · obtain ⟨i, hi, rfl⟩ := List.mem_map.1 hy
        exact (HR.out i (List.mem_range.1 hi)).out.1
      · obtain ⟨cs, hb, hc⟩ := HC.out
        refine ⟨_, cs, rfl, hz2, hb, fun j hj => ?_⟩
        rw [hc j hj]; unfold partial_ fv; rw [if_pos hj, lst_wd hj]
      · obtain ⟨_, o2, e2⟩ := h2
        injection e2 with e2; injection e2 with e2 _ _
        have := (HG.out.toE.2.2 g h1).2
        omega
theorem half_any (q : Nat) (X : O) (W : World) (hq : Hid (Fv .f32 q X)) : Calls Try.prog 54 #[.float .f32 q] W fun e W' => ∃ r, e = .returned (.float .f32 r) ∧ Hid (Fv .f32 r (qu X (some 1073741824))) ∧ W.Since W.heap.size W' := by
  have k2 := fv2
  go_enter Try.func54, Try.ntmps54
  go_wp2_with (with_reducible_and_instances refine Lo.wpList_fo _ rfl _ _ _ _ _ rfl _ _ _ _ _ rfl rfl rfl (by assumption) (by assumption) ?_; intro rr nn hrr)
  go_ret
  exact ⟨_, rfl, hrr, since_drewN (World.Since.refl _ _) _⟩
theorem implLR_no (A : Option Addr) (n c : Nat) (A2 : Option Addr) (n2 c2 : Nat) (w : World) (hn : ¬ (n ≤ 256 ∧ n = n2)) (F G : Nat → O) :
    Calls Try.prog 31 #[.slice A n c, .slice A2 n2 c2] w (PEEB 0 F 0 G false w) := by
  have HQ := Lib.hid (implMixSamples_no A n c A2 n2 c2 w hn F)
  go_enter Try.func31, Try.ntmps31
  go_wp2_with (first | (go_at_call 55; refine HQ.out.mono ?_; rintro e w2 ⟨p, cp, rfl, hpn, hg, ha, hs⟩; have HS := Lib.hid hs; clear hs hpn hg ha))
  go_ret3
  exact PEEB.none_ HS.out _ _
theorem implMS_no (A : Option Addr) (n c : Nat) (A2 : Option Addr) (n2 c2 : Nat) (w : World) (hn : ¬ (n ≤ 256 ∧ n = n2)) (F G : Nat → O) :
    Calls Try.prog 29 #[.slice A n c, .slice A2 n2 c2] w (PEEB 0 F 0 G false w) := by
  have HQ := Lib.hid (implLR_no A n c A2 n2 c2 w hn F G)
  go_enter Try.func29, Try.ntmps29
  go_wp2_with (first | (go_at_call 31; refine HQ.out.mono ?_; rintro e w2 ⟨p, q, cp, cq, rfl, hpn, hqn, hg, hg2, ha, ha2, hd, hs⟩; have HS := Lib.hid hs; clear hs hpn hqn hg hg2 ha ha2 hd))
  go_ret3
  exact PEEB.none_ HS.out _ _
set_option maxHeartbeats 4000000 in
set_option maxRecDepth 100000 in
theorem implMS_ok (A : Option Addr) (n c : Nat) (xs : List Nat) (A2 : Option Addr) (c2 : Nat) (ys : List Nat) (w : World) (hA : Fs w w.heap.size A n xs) (hnc : n ≤ c) (hA2 : Fs w w.heap.size A2 n ys) (hnc2 : n ≤ c2) (hn : n ≤ 256) :
    Calls Try.prog 29 #[.slice A n c, .slice A2 n c2] w (PEEB n (midF (fun k => ab .f32 (wd xs k)) (fun k => ab .f32 (wd ys k))) n (sidF (fun k => ab .f32 (wd xs k)) (fun k => ab .f32 (wd ys k))) true w) := by
  have HQ := Lib.hid (implLR_ok A n c xs A2 c2 ys w hA hnc hA2 hnc2 hn)
  clear hA hA2
  go_enter Try.func29, Try.ntmps29
  go_wp2_with fail
  go_at_call 31
  refine HQ.out.mono ?_
  rintro e w2 ⟨p, q, cp, cq, rfl, hpn, hqn, hg, hg2, ha, ha2, hd, hs⟩
  have HPN := Lib.hid hpn; have HQN := Lib.hid hqn; have HG := Lib.hid hg; have HG2 := Lib.hid hg2; have HAA := Lib.hid ha; have HAA2 := Lib.hid ha2; have HS2 := Lib.hid hs
  clear hpn hqn hg hg2 ha ha2 hd hs HQ
  have hz2 := HS2.out.size
  go_wp2_with fail
  go_at_call 44
  refine (results_since p.A p.n cp p.xs 54 #[] (midF (fun k => ab .f32 (wd xs k)) (fun k => ab .f32 (wd ys k))) w2 HG.out.readF (by rw [HPN.out]; exact hn) (fun _ _ => rfl) ?h1).mono ?_
  case h1 =>
    rintro k z W hk rfl _
    have h7 : ab .f32 (wd p.xs k) = sumF (fun k => ab .f32 (wd xs k)) (fun k => ab .f32 (wd ys k)) k := HAA.out k hk
    exact half_any _ _ W (Lib.hid ⟨HG.out.readF.2.1.at_ k, h7⟩)
  rintro e w3 ⟨zs, rfl, hg3, ha3, hs3⟩
  have HG3 := Lib.hid hg3; have HA3 := Lib.hid ha3; have HS3 := Lib.hid hs3
  clear hg3 ha3 hs3
  go_wp2_with fail
  go_at_call 44
  refine (results_since q.A q.n cq q.xs 54 #[] (sidF (fun k => ab .f32 (wd xs k)) (fun k => ab .f32 (wd ys k))) w3 (HG2.out.since HS3.out).readF (by rw [HQN.out]; exact hn) (fun _ _ => rfl) ?h2).mono ?_
  case h2 =>
    rintro k z W hk rfl _
    have h7 : ab .f32 (wd q.xs k) = difF (fun k => ab .f32 (wd xs k)) (fun k => ab .f32 (wd ys k)) k := HAA2.out k hk
    exact half_any _ _ W (Lib.hid ⟨HG2.out.readF.2.1.at_ k, h7⟩)
  rintro e w4 ⟨us, rfl, hg4, ha4, hs4⟩
  have HG4 := Lib.hid hg4; have HA4 := Lib.hid ha4; have HS4 := Lib.hid hs4
  clear hg4 ha4 hs4
  have hz3 := HS3.out.size
  have hz3' : w2.heap.size ≤ w3.heap.size := hz3
  go_wp2
  go_ret3
  refine ⟨⟨some ⟨w2.heap.size, 0, none⟩, p.n, zs⟩, ⟨some ⟨w3.heap.size, 0, none⟩, q.n, us⟩, p.n, q.n, rfl, HPN.out, HQN.out, ((HG3.out.since HS4.out).less hz2).toE, (HG4.out.less (Nat.le_trans hz2 hz3')).toE, HA3.out, HA4.out, fun g h1 h2 => ?_, HS2.out.trans ((since_mono HS3.out hz2).trans (since_mono HS4.out (Nat.le_trans hz2 hz3')))⟩
  have k1 := (HG3.out.toE.2.2 g h1).2
  obtain ⟨_, o2, e2⟩ := h2
  injection e2 with e2; injection e2 with e2 _ _
  omega
end Go.Proofs.Yteggicdhgcecpaa
