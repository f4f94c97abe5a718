/- Meters: the power of differences, the program. -/
import Derived.Test.YtcpcfgdncinpgaaMn
set_option linter.unusedVariables false
set_option linter.unusedSimpArgs false
namespace Go.Proofs.Ytcpcfgdncinpgaa
open Fl Go.RowKit
theorem implPower_any (A : Option Addr) (n c : Nat) (xs : List Nat) (w : World) (B : Nat) (h : Fs w B A n xs) (hn : n ≤ 256) :
    Calls Try.prog 72 #[.slice A n c] w (RetF .f32 (dotO xs xs n) w) := by
  have HD := Lib.hid (fun v (s : Fs v B A n xs) => implDot_any A n c xs A n c xs v B s s (by omega) (by omega))
  rw [if_pos ⟨hn, rfl⟩, decide_eq_true (show n ≤ 256 ∧ n = n from ⟨hn, rfl⟩)] at HD
  have H := Lib.hid h
  clear h
  go_enter Try.func72, Try.ntmps72
  go_wp2_with fail
  refine (HD.out _ H.out).mono ?_
  rintro e w' ⟨r1, m1, rfl, hv, rfl⟩
  have V1 : Hid (Fv .f32 r1 (dotO xs xs n)) := Lib.hid hv
  clear hv
  go_wp2
  go_ret
  exact ⟨r1, m1, rfl, V1.out, rfl⟩
set_option maxHeartbeats 4000000 in
set_option maxRecDepth 100000 in
theorem implLag_any (A : Option Addr) (n c : Nat) (xs : List Nat) (lag count : Nat) (w : World) (hA : Fs w w.heap.size A n xs) (hn : n ≤ 256) (hl : count + lag ≤ n) :
    Calls Try.prog 68 #[.slice A n c, .int .i64 lag, .int .i64 count] w fun e w' => ∃ r, e = .returned (.float .f32 r) ∧ Hid (Fv .f32 r (lagY (fun k => ab .f32 (wd xs k)) lag count)) ∧ w.Since w.heap.size w' := by
  have HA := Lib.hid hA
  have hmk := fun W => run_make_row' (P := Try.prog) 22 23 (.float .f32 0) 4 Try.underlying22 Try.infoF rfl .i64 .i64 count (by omega) (by omega) W
  clear hA
  go_enter Try.func68, Try.ntmps68
  go_wp2
  go_loopw [13] (fun i wr => ∃ (k : Nat) (r : Nat → Nat), k ≤ count ∧ i = .int .i64 k ∧ GCells wr w.heap.size count (partial_ k r) ∧ (∀ j, j < k → Hid (Fv .f32 (r j) (difY (fun k => ab .f32 (wd xs k)) lag j))) ∧ w.Since w.heap.size wr) (fun i _ => count - (intOf i).toNat)
  case atStart =>
    have hr := (World.rowIs_made w (.float .f32 0) count 23)
    obtain ⟨cs, hb, _, hc⟩ := hr
    exact ⟨0, fun _ => 0, Nat.zero_le _, rfl, ⟨cs, hb, fun j hj => hc j hj⟩, fun j hj => by omega, (World.Since.refl _ _).alloc (Nat.le_refl _) _⟩
  case round =>
    obtain ⟨k, r, hk, rfl, hcs, hr, hs⟩ := hrel
    have HC := Lib.hid hcs; have HR := Lib.hid hr; have HS := Lib.hid hs
    clear hcs hr hs
    by_cases hlt : k < count
    · obtain ⟨g, off, rfl, hg, hc⟩ := HA.out.2.2 (by omega)
      have d1 : wr.cell? ⟨g, off + k, none⟩ = some (.float .f32 (wd xs k)) := (HS.out.cell (a := ⟨g, off + k, none⟩) hg).trans (hc k (by omega))
      have d2 : wr.cell? ⟨g, off + (k + lag), none⟩ = some (.float .f32 (wd xs (k + lag))) := (HS.out.cell (a := ⟨g, off + (k + lag), none⟩) hg).trans (hc (k + lag) (by omega))
      have x1 : Hid (Fv .f32 (wd xs k) (ab .f32 (wd xs k))) := Lib.hid ⟨HA.out.2.1.at_ k, rfl⟩
      have x2 : Hid (Fv .f32 (wd xs (k + lag)) (ab .f32 (wd xs (k + lag)))) := Lib.hid ⟨HA.out.2.1.at_ (k + lag), rfl⟩
      have hc2 : wr.cell? ⟨w.heap.size, k, none⟩ = some (partial_ k r k) := HC.out.cell hlt
      have hf2 : wr.frozen? ⟨w.heap.size, k, none⟩ = false := HC.out.free _
      clear hc
      go_wp2_with fail
      refine Lo.wp_loose_tail [28] 14 (by kernel_rfl) (by kernel_rfl) ?_
      simp only [List.take_succ_cons, List.take_zero, List.drop_succ_cons, List.drop_zero]
      repeat (first
        | (refine Lo.wpL_move rfl _ (.inl rfl) (by decide) ?_; simp only [Act.put, List.setIfInBounds_toArray, List.set_cons_succ, List.set_cons_zero])
        | (refine Lo.wpL_move rfl _ (.inr rfl) (by decide) ?_; simp only [Act.put, List.setIfInBounds_toArray, List.set_cons_succ, List.set_cons_zero])
        | (refine Lo.wpL_fop rfl _ _ _ _ rfl rfl (by decide) _ _ _ _ _ rfl rfl (by assumption) (by assumption) ?_; intro rr hrr; simp only [Act.put, List.setIfInBounds_toArray, List.set_cons_succ, List.set_cons_zero])
        | (refine Lo.wpL_wide rfl _ _ _ rfl (by decide) _ _ rfl (by kernel_rfl) (by kernel_rfl) (by assumption) ?_; intro rr hrr; simp only [Act.put, List.setIfInBounds_toArray, List.set_cons_succ, List.set_cons_zero])
        | (refine Lo.wpL_quiet rfl (by decide) (fun K hK => ?_); go_big_quiet_op; (refine hK _ ?_; clear hK K)))
      refine Lo.wpL_nil ?_
      refine Lo.after_fl rfl (by assumption) ?_; intro q28 h28; simp only [Act.put, List.setIfInBounds_toArray, List.set_cons_succ, List.set_cons_zero]
      refine Lo.after_nil ?_; intro nq
      have hy : Hid (Fv .f32 q28 (difY (fun k => ab .f32 (wd xs k)) lag k)) := h28
      go_wp2
      go_roundw
      case rel =>
        refine ⟨k + 1, fun j => if j = k then q28 else r j, by omega, by go_num, ((HC.out.drewN _).set k _).congr (fun j hj => ?_), fun j hj => ?_, (since_drewN HS.out _).setCell (Nat.le_refl _) _⟩
        · unfold partial_
          dsimp only
          by_cases e : j = k
          · rw [if_pos e, if_pos (by omega), if_pos e]
          · rw [if_neg e, if_neg e]
            by_cases e2 : j < k
            · rw [if_pos e2, if_pos (by omega)]
            · rw [if_neg e2, if_neg (by omega)]
        · show Hid (Fv .f32 (if j = k then q28 else r j) _)
          by_cases e : j = k
          · subst e; rw [if_pos rfl]; exact hy
          · rw [if_neg e]; exact HR.out j (by omega)
      case measure => simp [intOf]; omega
    · obtain rfl : k = count := by omega
      have hG : Fs wr wr.heap.size (some ⟨w.heap.size, 0, none⟩) k (lst k r) := by
        refine ⟨lst_len _ _, fun y hy => ?_, fun _ => ?_⟩
        · obtain ⟨i, hi, rfl⟩ := List.mem_map.1 hy
          exact (HR.out i (List.mem_range.1 hi)).out.1
        · refine ⟨_, 0, rfl, HC.out.lt, fun j hj => ?_⟩
          rw [Nat.zero_add, HC.out.cell hj]; unfold partial_ fv; rw [if_pos hj, lst_wd hj]
      have HG := Lib.hid hG; clear hG
      go_wp2_with fail
      refine (implPower_any _ k _ (lst k r) _ _ HG.out (by omega)).mono ?_
      rintro e w' ⟨r1, m, rfl, hv, rfl⟩
      rw [dotO_dotY (X := difY (fun k => ab .f32 (wd xs k)) lag) (fun j hj => by rw [lst_wd hj]; exact (HR.out j hj).out.2)] at hv
      have HV := Lib.hid hv; clear hv
      go_wp2
      go_ret
      exact ⟨r1, rfl, HV, since_drewN HS.out m⟩
theorem implPart_b (x : Int) (b : Bool) (w : World) (h : inB x 1 256 = b) :
    Calls Try.prog 60 #[.int .i64 x] w fun e w' => e = .returned (.bool b) ∧ w.Since w.heap.size w' := by
  go_enter Try.func60, Try.ntmps60
  go_wp2_with (go_at_call 67; refine (allow_any _ _ _ _).mono ?_; rintro e w1 ⟨rfl, hs⟩; rw [h])
  go_ret
  exact ⟨rfl, hs⟩
theorem okLag_impl (n : Nat) (lag count : Int) : okLag n lag count = (decide (n ≤ 256) && inB count 1 256 && inB lag 0 (n - count)) := by
  unfold okLag inB
  rw [Bool.eq_iff_iff]
  simp only [Bool.and_eq_true, decide_eq_true_eq]
  omega
set_option maxHeartbeats 4000000 in
set_option maxRecDepth 100000 in
theorem implLagP_any (A : Option Addr) (n c : Nat) (xs : List Nat) (lag count : Int) (w : World) (hA : Fs w w.heap.size A n xs) (hn : n ≤ 1048576) (Z : O)
    (hZ : Hid (Z = if okLag n lag count then lagY (fun k => ab .f32 (wd xs k)) lag.toNat count.toNat else some 0)) :
    Calls Try.prog 29 #[.slice A n c, .int .i64 lag, .int .i64 count] w (PVB Z (okLag n lag count) w) := by
  have HA := Lib.hid hA
  clear hA
  rw [okLag_impl] at hZ ⊢
  cases h0 : decide (n ≤ 256)
  · have hfew : decide ((n : Int) ≤ 256) = false := decide_eq_false (by have := of_decide_eq_false h0; omega)
    simp only [h0, Bool.false_and, Bool.false_eq_true, if_false] at hZ ⊢
    obtain rfl := hZ.out
    clear hZ
    go_enter Try.func29, Try.ntmps29
    go_wp2_with (first | (go_at_call 53; refine (implSamples_b _ _ _ _ _ hfew).mono ?_; rintro e w' ⟨rfl, rfl⟩))
    go_ret2
    exact ⟨0, rfl, fv0, World.Since.refl _ _⟩
  · have hfew : decide ((n : Int) ≤ 256) = true := decide_eq_true (by have := of_decide_eq_true h0; omega)
    have hn2 := of_decide_eq_true h0
    cases h1 : inB count 1 256
    · simp only [h0, h1, Bool.false_and, Bool.and_false, Bool.false_eq_true, if_false] at hZ ⊢
      obtain rfl := hZ.out
      clear hZ
      go_enter Try.func29, Try.ntmps29
      go_wp2_with (first | (go_at_call 53; refine (implSamples_b _ _ _ _ _ hfew).mono ?_; rintro e w' ⟨rfl, rfl⟩) | (go_at_call 60; refine (implPart_b _ _ _ h1).mono ?_; rintro e w1 ⟨rfl, hs⟩))
      go_ret2
      exact ⟨0, rfl, fv0, hs⟩
    · have hb : 1 ≤ count ∧ count ≤ 256 := by simpa [inB] using h1
      have hb1 := hb.1; have hb2 := hb.2
      cases h2 : inB lag 0 (n - count)
      · simp only [h0, h1, h2, Bool.and_false, Bool.false_eq_true, if_false] at hZ ⊢
        obtain rfl := hZ.out
        clear hZ
        go_enter Try.func29, Try.ntmps29
        go_wp2_with (first | (go_at_call 53; refine (implSamples_b _ _ _ _ _ hfew).mono ?_; rintro e w' ⟨rfl, rfl⟩) | fail)
        refine (implPart_b _ _ _ h1).mono ?_
        rintro e w1 ⟨rfl, hs⟩
        have HS := Lib.hid hs; clear hs
        go_wp2_with fail
        refine (allow_any _ _ _ _).mono ?_
        rintro e w2 ⟨rfl, hs⟩
        rw [h2]
        have HS2 := Lib.hid (since_step HS.out hs); clear hs
        go_wp2
        go_ret2
        exact ⟨0, rfl, fv0, HS2.out⟩
      · simp only [h0, h1, h2, Bool.and_self, if_true] at hZ ⊢
        obtain rfl := hZ.out
        clear hZ
        obtain ⟨cN, rfl⟩ : ∃ m : Nat, count = m := ⟨count.toNat, by omega⟩
        have hb' : 0 ≤ lag ∧ lag ≤ n - cN := by simpa [inB] using h2
        obtain ⟨lN, rfl⟩ : ∃ m : Nat, lag = m := ⟨lag.toNat, by omega⟩
        simp only [Int.toNat_natCast]
        have HL := Lib.hid fun v s => implLag_any A n c xs lN cN v s hn2 (by omega)
        go_enter Try.func29, Try.ntmps29
        go_wp2_with (first | (go_at_call 53; refine (implSamples_b _ _ _ _ _ hfew).mono ?_; rintro e w' ⟨rfl, rfl⟩) | fail)
        refine (implPart_b _ _ _ h1).mono ?_
        rintro e w1 ⟨rfl, hs⟩
        have HS := Lib.hid hs; clear hs
        go_wp2_with fail
        refine (allow_any _ _ _ _).mono ?_
        rintro e w2 ⟨rfl, hs⟩
        rw [h2]
        have HS2 := Lib.hid (since_step HS.out hs); clear hs
        go_wp2_with fail
        refine (HL.out _ (HA.out.now HS2.out)).mono ?_
        rintro e w' ⟨r, rfl, hv, hs⟩
        have HS3 := Lib.hid (since_step HS2.out hs); clear hs
        go_wp2
        go_ret2
        exact ⟨r, rfl, hv, HS3.out⟩
end Go.Proofs.Ytcpcfgdncinpgaa
