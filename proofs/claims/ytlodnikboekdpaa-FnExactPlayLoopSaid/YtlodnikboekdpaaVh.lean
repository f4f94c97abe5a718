/- Voices: recordings, the program's. -/
import Derived.Test.YtlodnikboekdpaaVg
import Derived.Test.YtlodnikboekdpaaDr
import Derived.Test.YtlodnikboekdpaaDs
set_option linter.unusedVariables false
set_option linter.unusedSimpArgs false
namespace Go.Proofs.Ytlodnikboekdpaa
open Fl Go.RowKit
set_option maxHeartbeats 2000000 in
theorem implBetween_any (a b r : Nat) (A B : O) (w : World) (ha : Hid (Fv .f32 a A)) (hb : Hid (Fv .f32 b B)) (hr : r < 65536) :
    Calls Try.prog 115 #[.float .f32 a, .float .f32 b, .int .i64 (r : Int)] w fun e' w' => ∃ q m, e' = .returned (.float .f32 q) ∧ Hid (Fv .f32 q (btO A B r)) ∧ w.drewN m = w' := by
  unfold btO
  by_cases h : r = 0
  · rw [if_pos h]
    subst h
    go_enter Try.func115, Try.ntmps115
    go_wp2
    go_ret
    first | exact ⟨_, 0, rfl, ha, rfl⟩ | exact ⟨_, rfl, ha, 0, rfl⟩
  · rw [if_neg h]
    go_enter Try.func115, Try.ntmps115
    go_wp2_with (first | (with_reducible_and_instances refine Lo.wpList_fo _ rfl _ _ _ _ _ rfl _ _ _ _ _ rfl rfl rfl (by assumption) (by assumption) ?_; intro rr nn hrr) | (go_at_call 108; refine (share_any _ _ _).mono ?_; rintro e w1 ⟨x1, m1, rfl, hx1, rfl⟩))
    go_ret
    exact ⟨_, _, rfl, hrr, rfl⟩
set_option maxHeartbeats 4000000 in
set_option maxRecDepth 100000 in
theorem play_any (Fw Fs : FuncId) (capsw capss : Array Value) (T : Nat → Nat) (S : Nat → O) (f s c : Nat) (w : World) (hc : c ≤ 256) (hf : f ≤ 20000000) (hs2 : s ≤ 655360)
    (hentw : ∀ args w, (callFunc Fw args).run Try.prog w = .ok (.enter Fw args) w) (hents : ∀ args w, (callFunc Fs args).run Try.prog w = .ok (.enter Fs args) w)
    (hbd : ∀ k, k ≤ c → plc T f s k ≤ 190000000)
    (hw : ∀ (i : Int) (p : Nat) (W : World), p ≤ 200000000 → i = (p : Int) → w.Since w.heap.size W → Calls Try.prog Fw (#[.int .i64 i] ++ capsw) W fun e W' => e = .returned (.int .i64 ((T p : Nat) : Int)) ∧ ∃ m, W.drewN m = W')
    (hs : ∀ k i q W, k < c → (q = plc T f s k / 65536 ∨ q = plc T f s k / 65536 + 1) → i = (q : Int) → w.Since w.heap.size W → Calls Try.prog Fs (#[.int .i64 i] ++ capss) W fun e W' => ∃ r, e = .returned (.float .f32 r) ∧ Hid (Fv .f32 r (S q)) ∧ W = W') :
    Calls Try.prog 94 #[.int .i64 (f : Int), .int .i64 (s : Int), .int .i64 (c : Int), .func (.func Fw) #[] capsw, .func (.func Fs) #[] capss] w fun e w' => ∃ ys, e = .returned (.tuple #[.slice (some ⟨w.heap.size, 0, none⟩) c c, .int .i64 ((plc T f s c : Nat) : Int)]) ∧ Gs 22 w' w.heap.size (some ⟨w.heap.size, 0, none⟩) c ys ∧ Are' c ys (plY S (plc T f s)) ∧ w.Since w.heap.size w' := by
  have hmk := fun W => run_make_row' (P := Try.prog) 34 22 (.float .f32 0) 4 Try.underlying34 Try.infoF rfl .i64 .i64 c (by omega) (by omega) W
  have HW := Lib.hid hw; have HS := Lib.hid hs; have HB := Lib.hid hbd
  clear hw hs hbd
  go_enter Try.func94, Try.ntmps94
  go_wp2_with fail
  refine (HW.out _ f _ (by omega) rfl ((World.Since.refl _ _).alloc (Nat.le_refl _) _)).mono ?_
  rintro e w1 ⟨rfl, m0, rfl⟩
  have e0 : Hid (plc T f s 0 = T f) := Lib.hid rfl
  go_wp2
  go_loopw [0, 13, 14, 22] (fun pv _ _ i wr => ∃ (k : Nat) (r : Nat → Nat), k ≤ c ∧ i = .int .i64 k ∧ pv = .int .i64 ((plc T f s k : Nat) : Int) ∧ GCells wr w.heap.size c (partial_ k r) ∧ (∀ j, j < k → Hid (Fv .f32 (r j) (plY S (plc T f s) j))) ∧ w.Since w.heap.size wr) (fun _ _ _ i _ => c - (intOf i).toNat)
  case atStart =>
    have hr := (World.rowIs_made w (.float .f32 0) c 22)
    obtain ⟨cs, hb, _, hc2⟩ := hr
    exact ⟨0, fun _ => 0, Nat.zero_le _, rfl, rfl, ⟨cs, hb, fun j hj => hc2 j hj⟩, fun j hj => by omega, since_drewN ((World.Since.refl _ _).alloc (Nat.le_refl _) _) _⟩
  case round =>
    obtain ⟨k, r, hk, rfl, rfl, hcs, hr, hon⟩ := hrel
    have HC := Lib.hid hcs; have HR := Lib.hid hr; have HON := Lib.hid hon
    have hsz : w.heap.size < wr.heap.size := hcs.lt
    have hp := HB.out k hk
    have eY : Hid (plY S (plc T f s) k = btO (S (plc T f s k / 65536)) (S (plc T f s k / 65536 + 1)) (plc T f s k % 65536)) := Lib.hid rfl
    have eP : Hid (plc T f s (k + 1) = T (plc T f s k + s)) := Lib.hid rfl
    have HK := Lib.hid (HS.out k)
    clear hcs hr hon e0
    generalize hP : plc T f s k = p at *
    by_cases hlt : k < c
    · have e2 : ((p : Int).tdiv 65536) = ((p / 65536 : Nat) : Int) := by rw [Int.tdiv_eq_ediv_of_nonneg (by omega)]; omega
      have e3 : ((p : Int).tmod 65536) = ((p % 65536 : Nat) : Int) := by rw [Int.tmod_eq_emod_of_nonneg (by omega)]; omega
      obtain ⟨q, hq⟩ : ∃ q, p / 65536 = q := ⟨_, rfl⟩
      obtain ⟨t, ht⟩ : ∃ t, p % 65536 = t := ⟨_, rfl⟩
      rw [hq] at e2 eY HK
      rw [ht] at e3 eY
      have hq2 : q ≤ 1000000 := by omega
      have ht2 : t < 65536 := by omega
      clear hq ht hP
      go_wp2_with fail
      refine (HK.out (q : Int) q _ hlt (.inl rfl) rfl HON.out).mono ?_
      rintro e w2 ⟨r1, rfl, hr1, rfl⟩
      go_wp2_with fail
      refine (HK.out ((q : Int) + 1) (q + 1) _ hlt (.inr rfl) (by omega) HON.out).mono ?_
      rintro e w2 ⟨r2, rfl, hr2, rfl⟩
      go_wp2_with fail
      go_at_call 115
      refine (implBetween_any _ _ t _ _ _ hr1 hr2 ht2).mono ?_
      rintro e w2 ⟨r3, m3, rfl, hr3, rfl⟩
      rw [← eY.out] at hr3
      have hc2 : wr.cell? ⟨w.heap.size, k, none⟩ = some (partial_ k r k) := HC.out.cell hlt
      have hf2 : wr.frozen? ⟨w.heap.size, k, none⟩ = false := HC.out.free _
      go_wp2_with fail
      refine (HW.out _ (p + s) _ (by omega) (by omega) (since_drewN (HON.out.setCell (Nat.le_refl _) _) _)).mono ?_
      rintro e w2 ⟨rfl, m4, rfl⟩
      go_wp2
      go_roundw
      case rel =>
        refine ⟨k + 1, fun j => if j = k then r3 else r j, by omega, by go_num, by rw [eP.out], (HC.out.set k _).congr (fun j hj => ?_), fun j hj => ?_, since_drewN (HON.out.setCell (Nat.le_refl _) _) _⟩
        · unfold partial_
          dsimp only
          by_cases e : j = k
          · rw [if_pos e, if_pos (by omega), if_pos e]
          · rw [if_neg e, if_neg e]
            by_cases e2 : j < k
            · rw [if_pos e2, if_pos (by omega)]
            · rw [if_neg e2, if_neg (by omega)]
        · show Hid (Fv .f32 (if j = k then r3 else r j) (plY S (plc T f s) j))
          by_cases e : j = k
          · subst e; rw [if_pos rfl]; exact hr3
          · rw [if_neg e]; exact HR.out j (by omega)
      case measure => simp [intOf]; omega
    · obtain rfl : k = c := by omega
      subst hP
      clear eY eP HK
      go_wp2
      go_ret2
      refine ⟨lst k r, rfl, ⟨lst_len _ _, fun y hy => ?_, fun _ => ?_⟩, fun i hi => by rw [lst_wd hi]; exact (HR.out i hi).out.2, HON.out⟩
      · obtain ⟨i, hi, rfl⟩ := List.mem_map.1 hy
        exact (HR.out i (List.mem_range.1 hi)).out.1
      · obtain ⟨cs, hb, hc⟩ := HC.out
        refine ⟨_, cs, rfl, Nat.le_refl _, hb, fun j hj => ?_⟩
        rw [hc j hj]; unfold partial_ fv; rw [if_pos hj, lst_wd hj]
set_option maxHeartbeats 4000000 in
theorem isPlay_b (A : Option Addr) (n cc : Nat) (f s c : Int) (b : Bool) (w : World) (h : okPlay n f s c = b) :
    Calls Try.prog 92 #[.slice A n cc, .int .i64 f, .int .i64 s, .int .i64 c] w fun e w' => e = .returned (.bool b) ∧ w.Since w.heap.size w' := by
  subst h
  unfold okPlay
  have h0 : (decide ((0 : Int) < (n : Int))) = decide (1 ≤ n) := by simp; omega
  cases h1 : decide (1 ≤ n) <;> cases h2 : decide (n ≤ 256) <;> cases h3 : inB f 0 16777216 <;> cases h4 : inB s 0 655360 <;> cases h5 : inB c 0 256
  all_goals
    rw [h1] at h0
    have h2' : decide ((n : Int) ≤ 256) = decide (n ≤ 256) := by simp; omega
    rw [h2] at h2'
    first | (have hp : 0 < n := of_decide_eq_true h1) | (obtain rfl : n = 0 := by have := of_decide_eq_false h1; omega)
    clear h1 h2
    go_enter Try.func92, Try.ntmps92
    go_wp2_with (first | (go_at_call 114; refine (implSamples_b _ _ _ _ _ h2').mono ?_; rintro e w' ⟨rfl, rfl⟩) | (go_at_call 72; with_reducible refine (allowB 0 16777216 f _ _ h3).mono ?_; rintro e w' ⟨rfl, rfl⟩) | (go_at_call 72; with_reducible refine (allowB 0 655360 s _ _ h4).mono ?_; rintro e w' ⟨rfl, rfl⟩) | (go_at_call 63; refine (isCount_b c _ _ h5).mono ?_; rintro e w' ⟨rfl, rfl⟩))
    go_ret
    exact ⟨rfl, by (try unfold lim); (repeat (first | (with_reducible refine Fl.sinDrew ?_) | (with_reducible refine World.Since.drew ?_) | (with_reducible refine Fl.sinSet ?_ ?_; rotate_left) | (with_reducible refine Fl.sinAlloc ?_ ?_; rotate_left) | with_reducible exact World.Since.refl _ _ | with_reducible assumption | (with_reducible refine Fl.sinStep (by with_reducible assumption) ?_))); all_goals (first | omega | (simp; done) | (simp; omega) | (simp [go_sem]; done) | (simp [go_sem]; omega))⟩
end Go.Proofs.Ytlodnikboekdpaa
