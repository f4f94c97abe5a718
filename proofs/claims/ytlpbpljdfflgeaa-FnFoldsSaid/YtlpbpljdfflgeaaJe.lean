/- Rates: samples with zeros between them, both. -/
import Derived.Test.YtlpbpljdfflgeaaJb
set_option linter.unusedVariables false
set_option linter.unusedSimpArgs false
namespace Go.Proofs.Ytlpbpljdfflgeaa
open Fl Go.RowKit
def sprF (xs : List Nat) (f j : Nat) : O := if j % f = 0 then ab .f32 (wd xs (j / f)) else some 0
theorem spr_hd (xs : List Nat) {f : Nat} (k : Nat) (hf : 1 ≤ f) : sprF xs f (k * f) = ab .f32 (wd xs k) := by
  unfold sprF
  rw [if_pos (Nat.mul_mod_left k f), Nat.mul_div_cancel _ hf]
theorem spr_tl (xs : List Nat) {f r : Nat} (k : Nat) (hr : 0 < r) (hr2 : r < f) : sprF xs f (k * f + r) = some 0 := by
  unfold sprF
  rw [Nat.mul_comm, Nat.mul_add_mod, Nat.mod_eq_of_lt hr2, if_neg (by omega)]
def okSpr (f : Int) (n : Nat) : Bool := inB f 1 8 && decide (f * (n : Int) ≤ 256)
theorem okSpr_nat {f : Int} {n : Nat} (h : okSpr f n = true) : ∃ f' : Nat, f = f' ∧ 1 ≤ f' ∧ f' ≤ 8 ∧ f' * n ≤ 256 ∧ n ≤ 256 := by
  simp only [okSpr, inB, Bool.and_eq_true, decide_eq_true_eq] at h
  obtain ⟨⟨h1, h2⟩, h3⟩ := h
  obtain ⟨f', rfl⟩ : ∃ f' : Nat, f = f' := ⟨f.toNat, by omega⟩
  have h4 : f' * n ≤ 256 := Int.ofNat_le.1 (by rw [Int.natCast_mul]; exact h3)
  have h5 : 1 * n ≤ f' * n := Nat.mul_le_mul_right n (by omega)
  exact ⟨f', rfl, by omega, by omega, h4, by omega⟩
theorem implCount_b (x : Int) (b : Bool) (w : World) (h : inB x 0 256 = b) : Calls Try.prog 96 #[.int .i64 x] w fun e w' => e = .returned (.bool b) ∧ w.Since w.heap.size w' := by
  go_enter Try.func96, Try.ntmps96
  go_wp2_with (go_at_call 97; refine (allowR 0 256 x b _ h).mono ?_; rintro e w' ⟨rfl, rfl⟩)
  go_ret
  exact ⟨rfl, by (repeat (first | (with_reducible refine Fl.sinDrew ?_) | (with_reducible refine World.Since.drew ?_) | (with_reducible refine Fl.sinSet ?_ ?_; rotate_left) | (with_reducible refine Fl.sinAlloc ?_ ?_; rotate_left) | with_reducible exact World.Since.refl _ _ | with_reducible assumption | (with_reducible refine Fl.sinStep (by with_reducible assumption) ?_))); all_goals (first | omega | (simp; done) | (simp; omega) | (simp [go_sem]; done) | (simp [go_sem]; omega))⟩
theorem inB_tt {x a b : Int} (h1 : a ≤ x) (h2 : x ≤ b) : inB x a b = true := by simp [inB]; omega
set_option maxHeartbeats 4000000 in
theorem implSpread_no (A : Option Addr) (n c : Nat) (f : Int) (w : World) (hn : n ≤ 1048576) (h : okSpr f n = false) (F : Nat → O) : Calls Try.prog 23 #[.int .i64 f, .slice A n c] w (PLB 0 F false w) := by
  unfold okSpr at h
  cases h1 : inB f 1 8
  · go_enter Try.func23, Try.ntmps23
    go_wp2_with (go_at_call 95; refine (implFactor_b f false _ h1).mono ?_; rintro e w1 ⟨rfl, hs1⟩; have HS1 := Lib.hid hs1; clear hs1)
    go_ret2
    exact PLB.none_ HS1.out _
  · have hb := h1
    simp only [inB, Bool.and_eq_true, decide_eq_true_eq] at hb
    rw [h1, Bool.true_and] at h
    have h2 := of_decide_eq_false h
    obtain ⟨m, hm⟩ : ∃ m : Int, m = f * (n : Int) := ⟨_, rfl⟩
    have hm1 : 256 < m := by rw [hm]; omega
    have hm2 : m ≤ 8388608 := by
      have : f * (n : Int) ≤ 8 * 1048576 := Int.mul_le_mul hb.2 (by omega) (by omega) (by omega)
      omega
    have hm3 : inB m 0 256 = false := by simp [inB]; omega
    have HM := hm.symm
    clear hm h h2
    go_enter Try.func23, Try.ntmps23
    go_wp2_with (first | (go_at_call 95; refine (implFactor_b f true _ h1).mono ?_; rintro e w1 ⟨rfl, hs1⟩; have HS1 := Lib.hid hs1; clear hs1) | (go_at_call 96; refine (implCount_b m false _ hm3).mono ?_; rintro e w2 ⟨rfl, hs2⟩; have HS2 := Lib.hid hs2; clear hs2))
    go_ret2
    exact PLB.none_ (since_step HS1.out HS2.out) _
def sprV (xs : List Nat) (f k j : Nat) : Value := .float .f32 (if j % f = 0 ∧ j / f < k then wd xs (j / f) else 0)
def sprW (xs : List Nat) (f j : Nat) : Nat := if j % f = 0 then wd xs (j / f) else 0
theorem ab0 : ab .f32 0 = some 0 := by decide
set_option maxHeartbeats 4000000 in
set_option maxRecDepth 100000 in
theorem implSpread_ok (A : Option Addr) (n c f : Nat) (xs : List Nat) (w : World) (hA : Fs w w.heap.size A n xs) (hn : n ≤ 256) (hf : 1 ≤ f) (hf2 : f ≤ 8) (hfn : f * n ≤ 256) :
    Calls Try.prog 23 #[.int .i64 f, .slice A n c] w (PLB (n * f) (sprF xs f) true w) := by
  have HA := Lib.hid hA
  have h1 : inB (f : Int) 1 8 = true := inB_tt (by omega) (by omega)
  have hfn' : n * f ≤ 256 := by rw [Nat.mul_comm]; exact hfn
  obtain ⟨m, hm⟩ : ∃ m : Nat, m = n * f := ⟨_, rfl⟩
  have HM : (f : Int) * (n : Int) = (m : Int) := by rw [hm, Int.mul_comm]; exact (Int.natCast_mul n f).symm
  have hm3 : inB (m : Int) 0 256 = true := inB_tt (by omega) (by omega)
  have HMM := Lib.hid hm
  have hm2 : m ≤ 256 := by omega
  have hmk := fun W => run_make_row' (P := Try.prog) 24 30 (.float .f32 0) 4 Try.underlying24 Try.infoF rfl .i64 .i64 m (by omega) (by omega) W
  clear hA hm
  go_enter Try.func23, Try.ntmps23
  go_wp2_with (first | (go_at_call 95; refine (implFactor_b f true _ h1).mono ?_; rintro e w1 ⟨rfl, hs1⟩; have HS1 := Lib.hid hs1; clear hs1) | (go_at_call 96; refine (implCount_b m true _ hm3).mono ?_; rintro e w2 ⟨rfl, hs2⟩; have HS2 := Lib.hid hs2; clear hs2))
  have S2 : Hid (w.Since w.heap.size w2) := Lib.hid (since_step HS1.out HS2.out)
  have z2 := S2.out.size
  clear HS1 HS2
  go_loopw [27] (fun i wr => ∃ k : Nat, k ≤ n ∧ i = .int .i64 k ∧ GCells wr w2.heap.size m (sprV xs f k) ∧ w2.Since w2.heap.size wr) (fun i _ => n - (intOf i).toNat)
  case atStart =>
    obtain ⟨cs, hb, _, hc2⟩ := (World.rowIs_made w2 (.float .f32 0) m 30)
    exact ⟨0, Nat.zero_le _, rfl, ⟨cs, hb, fun j hj => by rw [hc2 j hj]; unfold sprV; rw [if_neg (fun h => Nat.not_lt_zero _ h.2)]⟩, (World.Since.refl _ _).alloc (Nat.le_refl _) _⟩
  case round =>
    obtain ⟨k, hk, rfl, hcs, hon⟩ := hrel
    have HC := Lib.hid hcs; have HON := Lib.hid hon
    have hsz : w2.heap.size < wr.heap.size := hcs.lt
    clear hcs hon
    by_cases hlt : k < n
    · obtain ⟨g, off, rfl, hg, hc⟩ := HA.out.2.2 (by omega)
      have hcell : wr.cell? ⟨g, off + k, none⟩ = some (.float .f32 (wd xs k)) := ((HON.out.cell (a := ⟨g, off + k, none⟩) (by show g < _; omega)).trans (S2.out.cell (a := ⟨g, off + k, none⟩) hg)).trans (hc k hlt)
      obtain ⟨q, hq⟩ : ∃ q : Nat, q = k * f := ⟨_, rfl⟩
      have HQ : (f : Int) * (k : Int) = (q : Int) := by rw [hq, Int.mul_comm]; exact (Int.natCast_mul k f).symm
      have hql : q < m := by
        have : (k + 1) * f ≤ n * f := Nat.mul_le_mul_right f hlt
        rw [Nat.succ_mul] at this
        have := HMM.out
        omega
      have hcq : wr.cell? ⟨w2.heap.size, q, none⟩ = some (sprV xs f k q) := HC.out.cell hql
      have hfq : wr.frozen? ⟨w2.heap.size, q, none⟩ = false := HC.out.free _
      have HQQ := Lib.hid hq
      clear hc hq
      go_wp2
      go_roundw
      case rel =>
        refine ⟨k + 1, by omega, by go_num, (HC.out.set q _).congr (fun j hj => ?_), HON.out.setCell (Nat.le_refl _) _⟩
        unfold sprV
        by_cases e : j = q
        · subst e
          rw [if_pos rfl, HQQ.out, Nat.mul_mod_left, Nat.mul_div_cancel _ hf, if_pos ⟨rfl, by omega⟩]
        · rw [if_neg e]
          by_cases e2 : j % f = 0 ∧ j / f < k
          · rw [if_pos e2, if_pos ⟨e2.1, by omega⟩]
          · rw [if_neg e2, if_neg (fun h3 => ?_)]
            refine e2 ⟨h3.1, ?_⟩
            have h4 : j / f ≠ k := fun h5 => e (by
              have := Nat.div_add_mod j f
              rw [h3.1, h5] at this
              rw [HQQ.out, Nat.mul_comm]; omega)
            omega
      case measure => simp [intOf]; omega
    · obtain rfl : k = n := by omega
      go_wp2
      go_ret2
      obtain ⟨cs, hb, hc⟩ := HC.out
      have hw : ∀ j, j < m → (if j % f = 0 ∧ j / f < k then wd xs (j / f) else 0) = sprW xs f j := fun j hj => by
        unfold sprW
        by_cases e : j % f = 0
        · rw [if_pos e, if_pos ⟨e, (Nat.div_lt_iff_lt_mul hf).2 (by have := HMM.out; omega)⟩]
        · rw [if_neg e, if_neg (fun h => e h.1)]
      refine ⟨⟨some ⟨w2.heap.size, 0, none⟩, m, lst m (sprW xs f)⟩, m, rfl, HMM.out, ⟨lst_len _ _, fun y hy => ?_, fun _ => ⟨_, cs, rfl, z2, hb, fun j hj => ?_⟩⟩, fun j hj => ?_, S2.out.trans (since_mono HON.out z2)⟩
      · obtain ⟨i, hi, rfl⟩ := List.mem_map.1 hy
        unfold sprW
        split
        · exact HA.out.2.1.at_ _
        · decide
      · rw [hc j hj]; unfold sprV fv; rw [hw j hj, lst_wd hj]
      · show ab .f32 (wd (lst m (sprW xs f)) j) = _
        rw [lst_wd hj]
        unfold sprW sprF
        split
        · rfl
        · exact ab0
end Go.Proofs.Ytlpbpljdfflgeaa
