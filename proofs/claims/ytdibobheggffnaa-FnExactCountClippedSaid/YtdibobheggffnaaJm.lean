/- Bits: the samples of codes, both. -/
import Derived.Test.YtdibobheggffnaaJj
import Derived.Test.YtdibobheggffnaaLf
set_option linter.unusedVariables false
set_option linter.unusedSimpArgs false
namespace Go.Proofs.Ytdibobheggffnaa
open Fl Go.RowKit
def smpF (m : Nat) (xs : List Int) (k : Nat) : O := opO .quo .f32 (some (fI (wi xs k))) (some (fI (m : Int)))
theorem fI_eq (k : Int) : floatOfInt .f32 k = fI k := rfl
set_option maxHeartbeats 4000000 in
set_option maxRecDepth 100000 in
theorem specSmp_ok (b : Nat) (A : Option Addr) (n c : Nat) (xs : List Int) (w : World) (hA : Is w w.heap.size A n xs) (hn : n ≤ 256) (h1 : 2 ≤ b) (h2 : b ≤ 16) (hc : areC (mst b) xs n) :
    Calls Try.prog 33 #[.int .i64 b, .slice A n c] w (PLB n (smpF (mst b) xs) true w) := by
  have HA := Lib.hid hA
  have HC := Lib.hid hc
  have hm := mst_le h1 h2
  have hb : inB (b : Int) 2 16 = true := by simp [inB]; omega
  obtain ⟨m, hmm⟩ : ∃ m, m = mst b := ⟨_, rfl⟩
  rw [← hmm] at hm ⊢
  have HM := Lib.hid hmm
  have hq : ∀ W, Calls Try.prog 64 #[.int .i64 b] W fun e w' => e = .returned (.int .i64 (m : Int)) ∧ w' = W := fun W => by
    rw [HM.out]; exact (specMost_any b W h1 h2).mono fun _ _ ⟨a, b⟩ => ⟨a, b.symm⟩
  have HQ := Lib.hid hq
  clear hA hc hq hmm
  go_enter Try.func33, Try.ntmps33
  go_wp2_with (first | (go_at_call 62; refine (specBits_b b true _ hb).mono ?_; rintro e w' ⟨rfl, rfl⟩) | (go_at_call 63; refine (specCodes_b b A n c xs _ HA.out (by omega) h1 h2 true ⟨fun _ => ⟨hn, HC.out⟩, fun _ => rfl⟩).mono ?_; rintro e w1 ⟨rfl, hs1⟩; have HS1 := Lib.hid hs1; clear hs1))
  have z1 := HS1.out.size
  go_loopw [6, 7] (fun v i wr => ∃ k : Nat, k ≤ n ∧ i = .int .i64 k ∧ Rw w1.heap.size wr v k (smpF m xs) ∧ w1.Since w1.heap.size wr) (fun _ i _ => n - (intOf i).toNat)
  case atStart => exact ⟨0, Nat.zero_le _, rfl, Rw.start w1 _ (Nat.le_refl _) _, (World.Since.refl _ _).alloc (Nat.le_refl _) _⟩
  case round =>
    obtain ⟨k, hk, rfl, hr, hs⟩ := hrel
    have HR := Lib.hid hr; have HS := Lib.hid hs
    clear hr hs
    by_cases hlt : k < n
    · obtain ⟨g, off, rfl, hg, hc⟩ := HA.out.2 (by omega)
      have hcell : wr.cell? ⟨g, off + k, none⟩ = some (.int .i64 (wi xs k)) := ((since_step HS1.out HS.out).cell (a := ⟨g, off + k, none⟩) hg).trans (hc k hlt)
      have f1 := fI_fv (wi xs k)
      have f2 := fI_fv (m : Int)
      have eF : Hid (smpF m xs k = opO .quo .f32 (some (fI (wi xs k))) (some (fI (m : Int)))) := Lib.hid rfl
      have hsz := HS.out.size
      clear hc
      go_wp2_with fail
      refine Lo.wp_looseF_tail [33] 10 _ rfl rfl (by kernel_rfl) (by kernel_rfl) (fun _ _ _ h => h) ?_
      simp only [Nat.reduceSub, List.take_succ_cons, List.take_zero, List.drop_succ_cons, List.drop_zero, Act.eval, Act.put, List.setIfInBounds_toArray, List.set_cons_succ, List.set_cons_zero, Array.getD_eq_getD_getElem?, List.getElem?_toArray, List.getElem?_cons_succ, List.getElem?_cons_zero, Option.getD_some]
      repeat (first
        | (refine Lo.wpL_move rfl _ (.inl rfl) (by decide) ?_; simp only [Act.put, List.setIfInBounds_toArray, List.set_cons_succ, List.set_cons_zero])
        | (refine Lo.wpL_move rfl _ (.inr rfl) (by decide) ?_; simp only [Act.put, List.setIfInBounds_toArray, List.set_cons_succ, List.set_cons_zero])
        | (refine Lo.wpL_fop rfl _ _ _ _ rfl rfl (by decide) _ _ _ _ _ rfl rfl (by assumption) (by assumption) ?_; intro rr hrr; simp only [Act.put, List.setIfInBounds_toArray, List.set_cons_succ, List.set_cons_zero])
        | (refine Lo.wpL_wide rfl _ _ _ rfl (by decide) _ _ rfl (by kernel_rfl) (by kernel_rfl) (by assumption) ?_; intro rr hrr; simp only [Act.put, List.setIfInBounds_toArray, List.set_cons_succ, List.set_cons_zero])
        | (refine Lo.wpL_quiet rfl (by decide) (fun K hK => ?_); go_big_quiet_op; first | (refine hK _ ?_; clear hK K) | (apply Exists.intro; refine ⟨fun _ => ?_, hK _ ?_⟩; (first | (go_at_call 64; exact (HQ.out _).mono fun _ _ ⟨h1, h2⟩ => ⟨h1, _, h2⟩)); clear hK K)))
      refine Lo.wpL_nil ?_
      refine Lo.after_fl rfl (by assumption) ?_; intro q33 h33; simp only [Act.put, List.setIfInBounds_toArray, List.set_cons_succ, List.set_cons_zero]
      refine Lo.after_nil ?_; intro nq
      rw [← eF.out] at h33
      go_wp2_with (first | (at_builtin; refine wpList_app1 rfl (.tmp 24) (.tmp 34) rfl w1.heap.size _ k _ rfl _ _ rfl (by simp [go_sem]) (by omega) (by simp; omega) h33 ((HR.out.drewN _).alloc _) ?_; intro v' w3 hR3 hS3))
      go_roundw
      case rel => exact ⟨k + 1, by omega, by go_num, hR3.out, HS.out.trans ((since_drewN ((World.Since.refl _ _).alloc hsz _) _).trans hS3.out)⟩
      case measure => simp [intOf]; omega
    · obtain rfl : k = n := by omega
      obtain ⟨p', cp, rfl, hpn, hg, ha⟩ := HR.out.done
      have HG := Lib.hid hg; have HAA := Lib.hid ha; have HN := Lib.hid hpn; clear hg ha hpn
      go_wp2
      go_ret2
      exact ⟨p', cp, rfl, HN.out, HG.out.less z1, HAA.out, HS1.out.trans (since_mono HS.out z1)⟩
theorem RowG.done {w : World} {g n lo : Nat} {r : Nat → Nat} {F : Nat → O} (h : GCells w g n (partial_ n r)) (hr : ∀ j, j < n → Hid (Fv .f32 (r j) (F j))) (hl : lo ≤ g) : Gs 46 w lo (some ⟨g, 0, none⟩) n (lst n r) ∧ Are ⟨some ⟨g, 0, none⟩, n, lst n r⟩ F := by
  refine ⟨⟨lst_len _ _, fun y hy => ?_, fun _ => ?_⟩, fun i hi => by show ab .f32 (wd (lst n r) i) = _; rw [lst_wd hi]; exact (hr i hi).out.2⟩
  · obtain ⟨i, hi, rfl⟩ := List.mem_map.1 hy
    exact (hr i (List.mem_range.1 hi)).out.1
  · obtain ⟨cs, hb, hc⟩ := h
    refine ⟨_, cs, rfl, hl, hb, fun j hj => ?_⟩
    rw [hc j hj]; unfold partial_ fv; rw [if_pos hj, lst_wd hj]
theorem RowG.made (w : World) (n : Nat) (r : Nat → Nat) : GCells (w.alloc (.cells (madeCells #[.float .f32 0] n) 46)) w.heap.size n (partial_ 0 r) := by
  obtain ⟨cs, hb, _, hc2⟩ := (World.rowIs_made w (.float .f32 0) n 46)
  exact ⟨cs, hb, fun j hj => by rw [hc2 j hj]; rfl⟩
theorem RowG.put {w : World} {g n k : Nat} {r : Nat → Nat} (q : Nat) (h : GCells w g n (partial_ k r)) : GCells (w.setCell ⟨g, k, none⟩ (.float .f32 q)) g n (partial_ (k + 1) (fun j => if j = k then q else r j)) :=
  (h.set k _).congr (fun j hj => by
    unfold partial_
    dsimp only
    by_cases e : j = k
    · rw [if_pos e, if_pos (by omega), if_pos e]
    · rw [if_neg e, if_neg e]
      by_cases e2 : j < k
      · rw [if_pos e2, if_pos (by omega)]
      · rw [if_neg e2, if_neg (by omega)])
theorem RowG.more {k q : Nat} {r : Nat → Nat} {F : Nat → O} (h : ∀ j, j < k → Hid (Fv .f32 (r j) (F j))) (hq : Hid (Fv .f32 q (F k))) : ∀ j, j < k + 1 → Hid (Fv .f32 (if j = k then q else r j) (F j)) := fun j hj => by
  by_cases e : j = k
  · subst e; rw [if_pos rfl]; exact hq
  · rw [if_neg e]; exact h j (by omega)
set_option maxHeartbeats 4000000 in
set_option maxRecDepth 100000 in
theorem implSmp_ok (b : Nat) (A : Option Addr) (n c : Nat) (xs : List Int) (w : World) (hA : Is w w.heap.size A n xs) (hn : n ≤ 256) (h1 : 2 ≤ b) (h2 : b ≤ 16) (hc : areC (mst b) xs n) :
    Calls Try.prog 34 #[.int .i64 b, .slice A n c] w (PLB n (smpF (mst b) xs) true w) := by
  have HA := Lib.hid hA
  have hm := mst_le h1 h2
  have hq := fun W => coderOf_ok b W h1 h2
  obtain ⟨m, hmm⟩ : ∃ m, m = mst b := ⟨_, rfl⟩
  rw [← hmm] at hq hm hc ⊢
  have HC := Lib.hid hc
  have ha : ∀ W, w.Since w.heap.size W → Calls Try.prog 66 #[codV m, .slice A n c] W fun e w' => e = .returned (.bool true) ∧ W.Since W.heap.size w' := fun W hs =>
    areCodes_b m A n c xs true W W.heap.size (HA.out.now hs) (Nat.le_refl _) (by omega) ⟨fun _ => ⟨hn, HC.out⟩, fun _ => rfl⟩
  unfold codV at hq ha
  have f2 := fI_fv (m : Int)
  have hmk := fun W => run_make_row' (P := Try.prog) 22 46 (.float .f32 0) 4 Try.underlying22 Try.infoF rfl .i64 .i64 n (by omega) (by omega) W
  obtain ⟨f, hf⟩ : ∃ f, f = floatOfInt .f32 (m : Int) := ⟨_, rfl⟩
  rw [← hf] at hq ha f2
  have HQ := Lib.hid hq; have HQ2 := Lib.hid ha
  clear hq ha hf hmm hc hA
  go_enter Try.func34, Try.ntmps34
  go_wp2_with (first | (go_at_call 65; refine (HQ.out _).mono ?_; rintro e w1 ⟨rfl, hs1⟩; have HS1 := Lib.hid hs1; clear hs1) | fail)
  obtain ⟨W, hW⟩ : ∃ W, W = w1.alloc (.cells #[.int .i64 (-(m : Int)), .int .i64 ((m : Int) - 1), .float .f32 f] 72) := ⟨_, rfl⟩
  rw [← hW]
  have S1 : Hid (w.Since w.heap.size W) := Lib.hid (HS1.out.trans (by rw [hW]; exact (World.Since.refl _ _).alloc HS1.out.size _))
  have z1 : w1.heap.size < W.heap.size := by rw [hW]; simp
  have c0 : Hid (W.cell? ⟨w1.heap.size, 0, none⟩ = some (.int .i64 (-(m : Int)))) := Lib.hid (by rw [hW]; simp [go_sem])
  have c1 : Hid (W.cell? ⟨w1.heap.size, 1, none⟩ = some (.int .i64 ((m : Int) - 1))) := Lib.hid (by rw [hW]; simp [go_sem])
  have c2 : Hid (W.cell? ⟨w1.heap.size, 2, none⟩ = some (.float .f32 f)) := Lib.hid (by rw [hW]; simp [go_sem])
  clear hW
  have d0 := c0.out; have d1 := c1.out; have d2 := c2.out
  go_wp2_with (first | (go_at_call 66; refine (HQ2.out _ S1.out).mono ?_; rintro e w2 ⟨rfl, hs2⟩; have HS2 := Lib.hid hs2; clear hs2))
  have S2 : Hid (w.Since w.heap.size w2) := Lib.hid (since_step S1.out HS2.out)
  have zz := HS2.out.size
  have zw := S2.out.size
  clear d0 d1 d2
  go_loopw [29] (fun i wr => ∃ (k : Nat) (r : Nat → Nat), k ≤ n ∧ i = .int .i64 k ∧ GCells wr w2.heap.size n (partial_ k r) ∧ (∀ j, j < k → Hid (Fv .f32 (r j) (smpF m xs j))) ∧ w2.Since w2.heap.size wr) (fun i _ => n - (intOf i).toNat)
  case atStart => exact ⟨0, fun _ => 0, Nat.zero_le _, rfl, RowG.made w2 n _, fun j hj => by omega, (World.Since.refl _ _).alloc (Nat.le_refl _) _⟩
  case round =>
    obtain ⟨k, r, hk, rfl, hcs, hr, hs⟩ := hrel
    have HS := Lib.hid hs; have HG := Lib.hid hcs; have HR := Lib.hid hr
    have hsz : w2.heap.size < wr.heap.size := hcs.lt
    clear hs hcs hr
    by_cases hlt : k < n
    · obtain ⟨g, off, rfl, hg, hc⟩ := HA.out.2 (by omega)
      have hcell : wr.cell? ⟨g, off + k, none⟩ = some (.int .i64 (wi xs k)) := ((since_step S2.out HS.out).cell (a := ⟨g, off + k, none⟩) hg).trans (hc k hlt)
      have d2 : wr.cell? ⟨w1.heap.size, 2, none⟩ = some (.float .f32 f) := ((since_step HS2.out HS.out).cell (a := ⟨w1.heap.size, 2, none⟩) z1).trans c2.out
      have hcq : wr.cell? ⟨w2.heap.size, k, none⟩ = some (partial_ k r k) := HG.out.cell hlt
      have hfq : wr.frozen? ⟨w2.heap.size, k, none⟩ = false := HG.out.free _
      have f1 := fI_fv (wi xs k)
      have eF : Hid (smpF m xs k = opO .quo .f32 (some (fI (wi xs k))) (some (fI (m : Int)))) := Lib.hid rfl
      clear hc
      go_wp2_with (first | (with_reducible_and_instances refine Lo.wpList_fo _ rfl _ _ _ _ _ rfl _ _ _ _ _ rfl rfl rfl (by assumption) (by assumption) ?_; intro rr nn hrr))
      rw [← eF.out] at hrr
      go_roundw
      case rel => exact ⟨k + 1, (fun j => if j = k then rr else r j), by omega, by go_num, (RowG.put (k := k) rr HG.out).drewN _, RowG.more (k := k) HR.out hrr, since_drewN (HS.out.setCell (Nat.le_refl _) _) _⟩
      case measure => simp [intOf]; omega
    · obtain rfl : k = n := by omega
      obtain ⟨hg, ha⟩ := RowG.done HG.out HR.out (Nat.le_refl _)
      have HGG := Lib.hid hg; have HAA := Lib.hid ha; clear hg ha
      go_wp2
      go_ret2
      exact ⟨⟨some ⟨w2.heap.size, 0, none⟩, k, lst k r⟩, k, rfl, rfl, HGG.out.less zw, HAA.out, S2.out.trans (since_mono HS.out zw)⟩
set_option maxHeartbeats 4000000 in
set_option maxRecDepth 100000 in
theorem specSmp_no (b : Int) (A : Option Addr) (n c : Nat) (xs : List Int) (w : World) (hA : Is w w.heap.size A n xs) (hn : n ≤ 1048576) (h : ¬ okCod b n xs) (F : Nat → O) :
    Calls Try.prog 33 #[.int .i64 b, .slice A n c] w (PLB 0 F false w) := by
  have HA := Lib.hid hA
  clear hA
  cases hb : inB b 2 16
  · go_enter Try.func33, Try.ntmps33
    go_wp2_with (go_at_call 62; refine (specBits_b b false _ hb).mono ?_; rintro e w' ⟨rfl, rfl⟩)
    go_ret2
    exact PLB.none_ (by (repeat (first | (with_reducible refine Fl.sinDrew ?_) | (with_reducible refine World.Since.drew ?_) | (with_reducible refine Fl.sinSet ?_ ?_; rotate_left) | (with_reducible refine Fl.sinAlloc ?_ ?_; rotate_left) | with_reducible exact World.Since.refl _ _ | with_reducible assumption | (with_reducible refine Fl.sinStep (by with_reducible assumption) ?_))); all_goals (first | omega | (simp; done) | (simp; omega) | (simp [go_sem]; done) | (simp [go_sem]; omega))) _
  · have hb2 := hb
    simp only [inB, Bool.and_eq_true, decide_eq_true_eq] at hb2
    obtain ⟨b', rfl⟩ : ∃ b' : Nat, b = b' := ⟨b.toNat, by omega⟩
    have hr : false = true ↔ n ≤ 256 ∧ areC (mst b') xs n := ⟨(fun h => by cases h), fun h2 => absurd ⟨hb, h2⟩ h⟩
    have HR := Lib.hid hr
    clear hr h
    go_enter Try.func33, Try.ntmps33
    go_wp2_with (first | (go_at_call 62; refine (specBits_b b' true _ hb).mono ?_; rintro e w' ⟨rfl, rfl⟩) | (go_at_call 63; refine (specCodes_b b' A n c xs _ HA.out (by omega) (by omega) (by omega) false HR.out).mono ?_; rintro e w1 ⟨rfl, hs1⟩; have HS1 := Lib.hid hs1; clear hs1))
    go_ret2
    exact PLB.none_ HS1.out _
set_option maxHeartbeats 4000000 in
set_option maxRecDepth 100000 in
theorem implSmp_no (b : Int) (A : Option Addr) (n c : Nat) (xs : List Int) (w : World) (hA : Is w w.heap.size A n xs) (hn : n ≤ 1048576) (h : ¬ okCod b n xs) (F : Nat → O) :
    Calls Try.prog 34 #[.int .i64 b, .slice A n c] w (PLB 0 F false w) := by
  have HA := Lib.hid hA
  clear hA
  cases hb : inB b 2 16
  · have hq := fun W => coderOf_no b W hb
    unfold codZ at hq
    have HQ := Lib.hid hq
    clear hq
    go_enter Try.func34, Try.ntmps34
    go_wp2_with (first | (go_at_call 65; refine (HQ.out _).mono ?_; rintro e w1 ⟨rfl, hs1⟩; have HS1 := Lib.hid hs1; clear hs1))
    go_ret2
    exact PLB.none_ (HS1.out.trans (since_mono (show World.Since w1.heap.size w1 _ from by (repeat (first | (with_reducible refine Fl.sinDrew ?_) | (with_reducible refine World.Since.drew ?_) | (with_reducible refine Fl.sinSet ?_ ?_; rotate_left) | (with_reducible refine Fl.sinAlloc ?_ ?_; rotate_left) | with_reducible exact World.Since.refl _ _ | with_reducible assumption | (with_reducible refine Fl.sinStep (by with_reducible assumption) ?_))); all_goals (first | omega | (simp; done) | (simp; omega) | (simp [go_sem]; done) | (simp [go_sem]; omega))) HS1.out.size)) _
  · have hb2 := hb
    simp only [inB, Bool.and_eq_true, decide_eq_true_eq] at hb2
    obtain ⟨b', rfl⟩ : ∃ b' : Nat, b = b' := ⟨b.toNat, by omega⟩
    have hr : false = true ↔ n ≤ 256 ∧ areC (mst b') xs n := ⟨(fun h => by cases h), fun h2 => absurd ⟨hb, h2⟩ h⟩
    have HR := Lib.hid hr
    have hq := fun W => coderOf_ok b' W (by omega) (by omega)
    obtain ⟨m, hm⟩ : ∃ m, m = mst b' := ⟨_, rfl⟩
    rw [← hm] at hq HR
    have ha : ∀ W, w.Since w.heap.size W → Calls Try.prog 66 #[codV m, .slice A n c] W fun e w' => e = .returned (.bool false) ∧ W.Since W.heap.size w' := fun W hs =>
      areCodes_b m A n c xs false W W.heap.size (HA.out.now hs) (Nat.le_refl _) hn HR.out
    unfold codV at hq ha
    obtain ⟨f, hf⟩ : ∃ f, f = floatOfInt .f32 (m : Int) := ⟨_, rfl⟩
    rw [← hf] at hq ha
    have HQ := Lib.hid hq; have HC := Lib.hid ha
    clear hq ha hr h hf hm
    go_enter Try.func34, Try.ntmps34
    go_wp2_with (first | (go_at_call 65; refine (HQ.out _).mono ?_; rintro e w1 ⟨rfl, hs1⟩; have HS1 := Lib.hid hs1; clear hs1) | (go_at_call 66; refine (HC.out _ (HS1.out.trans (since_mono (show World.Since w1.heap.size w1 _ from by (repeat (first | (with_reducible refine Fl.sinDrew ?_) | (with_reducible refine World.Since.drew ?_) | (with_reducible refine Fl.sinSet ?_ ?_; rotate_left) | (with_reducible refine Fl.sinAlloc ?_ ?_; rotate_left) | with_reducible exact World.Since.refl _ _ | with_reducible assumption | (with_reducible refine Fl.sinStep (by with_reducible assumption) ?_))); all_goals (first | omega | (simp; done) | (simp; omega) | (simp [go_sem]; done) | (simp [go_sem]; omega))) HS1.out.size))).mono ?_; rintro e w2 ⟨rfl, hs2⟩; have HS2 := Lib.hid hs2; clear hs2))
    go_ret2
    exact PLB.none_ (since_step (HS1.out.trans (since_mono (show World.Since w1.heap.size w1 _ from by (repeat (first | (with_reducible refine Fl.sinDrew ?_) | (with_reducible refine World.Since.drew ?_) | (with_reducible refine Fl.sinSet ?_ ?_; rotate_left) | (with_reducible refine Fl.sinAlloc ?_ ?_; rotate_left) | with_reducible exact World.Since.refl _ _ | with_reducible assumption | (with_reducible refine Fl.sinStep (by with_reducible assumption) ?_))); all_goals (first | omega | (simp; done) | (simp; omega) | (simp [go_sem]; done) | (simp [go_sem]; omega))) HS1.out.size)) HS2.out) _
end Go.Proofs.Ytdibobheggffnaa
