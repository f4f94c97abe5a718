/- Mixed and scaled samples: of the program. -/
import Derived.Test.YteggicdhgcecpaaAa
import Derived.Test.YteggicdhgcecpaaHb
import Derived.Test.YteggicdhgcecpaaDr
set_option linter.unusedVariables false
set_option linter.unusedSimpArgs false
namespace Go.Proofs.Yteggicdhgcecpaa
open Fl Go.RowKit
theorem eights_src {W : World} {g : Nat} {s : Nat → Nat} (h : GF W g 90 8 (wv s)) (m : Nat) (hm : m ≤ 8) (nq : Nat) : ∀ j v, ((List.range m).map fun j => Value.float .f32 (s j))[j]? = some v → (W.drewN nq).cell? (({ block := g, off := 0 } : Addr).add j) = some v := fun j v hj => by
  have hjm : j < m := by
    have := (List.getElem?_eq_some_iff.1 hj).1
    simpa using this
  simp [hjm] at hj
  subst hj
  have e : (({ block := g, off := 0 } : Addr).add j) = ⟨g, j, none⟩ := by rw [Go.WideShapes.add_plain, Nat.zero_add]
  rw [e]
  exact h.cell (by omega)
theorem eights_put {cs : Array Value} {n p m : Nat} {r s : Nat → Nat} (h : ∀ j, j < n → cs[j]? = some (partial_ p r j)) (hm : p + m ≤ n) (hm2 : m ≤ 8) (hm3 : m = 8 ∨ p + m = n) : ∀ j, j < n → (splice cs.toList p ((List.range m).map fun j => Value.float .f32 (s j))).toArray[j]? = some (partial_ (p + 8) (fun j => if p ≤ j then s (j - p) else r j) j) := by
  intro j hj
  have hsz : n ≤ cs.size := by
    rcases Nat.eq_zero_or_pos n with h0 | h0
    · omega
    · have := (Array.getElem?_eq_some_iff.1 (h (n - 1) (by omega))).1; omega
  unfold splice
  rw [List.getElem?_toArray]
  have hl : (cs.toList.take p).length = p := by rw [List.length_take, Array.length_toList]; omega
  by_cases h1 : j < p
  · rw [List.getElem?_append_left (by rw [hl]; exact h1), List.getElem?_take_of_lt h1, Array.getElem?_toList, h j hj]
    unfold partial_
    dsimp only
    rw [if_pos h1, if_pos (by omega), if_neg (by omega)]
  · by_cases h2 : j < p + m
    · rw [List.getElem?_append_right (by rw [hl]; omega), hl, List.getElem?_append_left (by simp; omega)]
      unfold partial_
      dsimp only
      rw [if_pos (by omega), if_pos (by omega)]
      simp [show j - p < m by omega]
    · rw [← List.append_assoc, List.getElem?_append_right (by simp [hl]; omega)]
      have hl2 : (cs.toList.take p ++ (List.range m).map fun j => Value.float .f32 (s j)).length = p + m := by simp [hl]
      rw [hl2]
      rcases hm3 with rfl | h3
      · rw [List.getElem?_drop]
        have e : p + ((List.range 8).map fun j => Value.float .f32 (s j)).length + (j - (p + 8)) = j := by simp; omega
        rw [e, Array.getElem?_toList, h j hj]
        unfold partial_
        rw [if_neg (by omega), if_neg (by omega)]
      · omega
set_option maxHeartbeats 8000000 in
set_option maxRecDepth 100000 in
theorem implMixSamples_ok (A : Option Addr) (n c : Nat) (xs : List Nat) (A2 : Option Addr) (c2 : Nat) (ys : List Nat) (w : World) (hA : Fs w w.heap.size A n xs) (hnc : n ≤ c) (hn : n ≤ 256) (hA2 : Fs w w.heap.size A2 n ys) (hnc2 : n ≤ c2) :
    Calls Try.prog 55 #[.slice A n c, .slice A2 n c2] w (PLB n (fun k => ad (ab .f32 (wd xs k)) (ab .f32 (wd ys k))) true w) := by
  have hfew : decide (n ≤ 256 ∧ n = n) = true := decide_eq_true ⟨hn, rfl⟩
  have HA := Lib.hid hA
  have HA2 := Lib.hid hA2; clear hA2
  have hmk := fun W => run_make_row' (P := Try.prog) 25 22 (.float .f32 0) 4 Try.underlying25 Try.infoF rfl .i64 .i64 n (by omega) (by omega) W
  clear hA
  go_enter Try.func55, Try.ntmps55
  go_wp2_with (first | (go_at_call 71; refine (implPair_any _ _ _ _ _ _ true _ hfew).mono ?_; rintro e w' ⟨rfl, rfl⟩))
  go_loopw [7] (fun iv wr => ∃ (p : Nat) (r : Nat → Nat), p ≤ n + 8 ∧ iv = .int .i64 (p : Nat) ∧ GCells wr w.heap.size n (partial_ p r) ∧ (∀ j, j < p → j < n → Hid (Fv .f32 (r j) ((fun k => ad (ab .f32 (wd xs k)) (ab .f32 (wd ys k))) j))) ∧ w.Since w.heap.size wr) (fun iv _ => n - (intOf iv).toNat)
  case atStart =>
    obtain ⟨cs, hb, _, hc⟩ := World.rowIs_made w (.float .f32 0) n 22
    exact ⟨0, fun _ => 0, by omega, rfl, ⟨cs, hb, fun j hj => hc j hj⟩, fun j hj => by omega, (World.Since.refl _ _).alloc (Nat.le_refl _) _⟩
  case round =>
    obtain ⟨p, r, hp, rfl, hcs, hr, hs⟩ := hrel
    have HC := Lib.hid hcs; have HR := Lib.hid hr; have HS := Lib.hid hs
    have hgw : w.heap.size < wr.heap.size := hcs.lt
    clear hcs hr hs
    by_cases hlt : p < n
    · go_wp2_with fail
      go_at_call 73
      refine (eightFrom_any A n c p xs wr (HA.out.now HS.out) hnc hlt hn).mono ?_
      rintro e w2 ⟨rfl, hs2⟩
      have T2 := Lib.hid hs2; clear hs2
      go_wp2_with fail
      go_at_call 73
      refine (eightFrom_any A2 n c2 p ys w2 (HA2.out.now (since_step HS.out T2.out)) hnc2 hlt hn).mono ?_
      rintro e w3 ⟨rfl, hs3⟩
      have T3 : Hid (wr.Since wr.heap.size w3) := Lib.hid (since_step T2.out hs3); clear hs3
      go_wp2_with fail
      go_at_call 72
      refine (mixEights_any _ _ _ _ w3 (fun j hj => (Lib.hid ⟨HA.out.2.1.at_ (p + j), rfl⟩ : Hid (Fv .f32 (wd xs (p + j)) (ab .f32 (wd xs (p + j)))))) (fun j hj => (Lib.hid ⟨HA2.out.2.1.at_ (p + j), rfl⟩ : Hid (Fv .f32 (wd ys (p + j)) (ab .f32 (wd ys (p + j))))))).mono ?_
      rintro e w4 ⟨s, rfl, hsv, hs4⟩
      have HV := Lib.hid hsv
      have T4 : Hid (wr.Since wr.heap.size w4) := Lib.hid (since_step T3.out hs4)
      clear hsv hs4
      have C4 := Lib.hid (show GCells w4 w.heap.size n (partial_ p r) by
        obtain ⟨cs, hb, hc⟩ := HC.out
        exact ⟨cs, (T4.out.block _ hgw).trans hb, hc⟩)
      have HS4 := Lib.hid (since_step HS.out T4.out)
      have hz4 : w.heap.size < w4.heap.size := Nat.lt_of_lt_of_le hgw T4.out.size
      obtain ⟨m, hm⟩ : ∃ m, m = min 8 (n - p) := ⟨_, rfl⟩
      have hm1 : p + m ≤ n := by omega
      have hm2 : m ≤ 8 := by omega
      have hm3 : m = 8 ∨ p + m = n := by omega
      have hm4 : 0 < m := by omega
      have HM := Lib.hid hm
      clear hm
      simp only [ag8]
      go_wp2_with fail
      generalize hW : World.alloc _ _ = W
      have hW' : W = w4.alloc (.cells (ag8 s) 90) := by rw [← hW]; rfl
      have G8 : Hid (GF W w4.heap.size 90 8 (wv s)) := Lib.hid (by rw [hW']; exact ag8_gf w4 s)
      have TW : Hid (w4.Since w4.heap.size W) := Lib.hid (by rw [hW']; exact (World.Since.refl _ _).alloc (Nat.le_refl _) _)
      clear hW hW'
      obtain ⟨cs, hb, hcc⟩ := C4.out
      have HB : Hid (W.heap[w.heap.size]? = some (.cells cs.toList.toArray 22 (0, 0))) := Lib.hid (by rw [Array.toArray_toList]; exact (TW.out.block _ hz4).trans hb)
      have HCC := Lib.hid hcc
      have HSZ : Hid (n ≤ cs.size) := Lib.hid (by have := (Array.getElem?_eq_some_iff.1 (hcc (n - 1) (by omega))).1; omega)
      have HSW := Lib.hid (since_step HS4.out TW.out)
      clear hb hcc
      have hpn : ¬ n = p := by omega
      have hpI : (p : Int) ≤ (n : Int) := by omega
      have hl8 : ((List.range m).map fun j => Value.float .f32 (s j)).length = m := by simp
      have HL8 := Lib.hid hl8
      clear hl8
      refine Lo.wp_loose_tail [] 4 (by kernel_rfl) (by kernel_rfl) ?_
      simp only [List.take_succ_cons, List.take_zero, List.drop_succ_cons, List.drop_zero]
      repeat (first
        | (refine Lo.wpL_move rfl _ (.inl rfl) (by decide) ?_; simp only [Act.put, List.setIfInBounds_toArray, List.set_cons_succ, List.set_cons_zero])
        | (refine Lo.wpL_move rfl _ (.inr rfl) (by decide) ?_; simp only [Act.put, List.setIfInBounds_toArray, List.set_cons_succ, List.set_cons_zero])
        | (refine Lo.wpL_fop rfl _ _ _ _ rfl rfl (by decide) _ _ _ _ _ rfl rfl (by assumption) (by assumption) ?_; intro rr hrr; simp only [Act.put, List.setIfInBounds_toArray, List.set_cons_succ, List.set_cons_zero])
        | (refine Lo.wpL_wide rfl _ _ _ rfl (by decide) _ _ rfl (by kernel_rfl) (by kernel_rfl) (by assumption) ?_; intro rr hrr; simp only [Act.put, List.setIfInBounds_toArray, List.set_cons_succ, List.set_cons_zero])
        | (refine Lo.wpL_quiet rfl (by decide) (fun K hK => ?_); go_big_quiet_op; (refine hK _ ?_; clear hK K)))
      refine Lo.wpL_nil ?_
      refine Lo.after_nil ?_; intro nq
      with_reducible refine wpList_copy_splice (o := ⟨some 33, _, _, _, _, _⟩) rfl (.tmp 31) (.tmp 32) _ _ rfl 22 Try.underlying25 (by kernel_rfl) _ _ _ _ _ _ rfl rfl w.heap.size p cs.toList 22 (heap_drewN HB.out _) ((List.range m).map fun j => Value.float .f32 (s j)) (by rw [HL8.out]; exact HM.out) (fun _ => ⟨by simp, _, rfl, eights_src G8.out m hm2 _⟩) (by rw [HL8.out, Array.length_toList]; have := HSZ.out; omega) floats_one w.heap.size w (below_drewN ⟨HSW.out.os, HSW.out.tape, HSW.out.output, HSW.out.size, HSW.out.block⟩ _) (Nat.le_refl _) ?_
      intro w5 hb5 hw5
      rw [HL8.out]
      have HB5 := Lib.hid hb5.out; have HW5 := Lib.hid (since_below hw5); clear hb5 hw5
      go_wp2
      go_roundw
      case rel =>
        refine ⟨p + 8, fun j => if p ≤ j then s (j - p) else r j, by omega, by go_num, ⟨_, HB5.out, eights_put HCC.out hm1 hm2 hm3⟩, fun j hj hjn => ?_, HW5.out⟩
        show Hid (Fv .f32 (if p ≤ j then s (j - p) else r j) _)
        by_cases e : p ≤ j
        · rw [if_pos e]
          have h9 := HV.out (j - p) (by omega)
          simp only [show p + (j - p) = j by omega] at h9
          exact h9
        · rw [if_neg e]; exact HR.out j (by omega) hjn
      case measure => simp [intOf]; omega
    · go_wp2
      go_ret2
      refine ⟨⟨some ⟨w.heap.size, 0, none⟩, n, lst n r⟩, n, rfl, rfl, ⟨lst_len _ _, fun y hy => ?_, fun _ => ?_⟩, fun i hi => ?_, HS.out⟩
      · obtain ⟨i, hi, rfl⟩ := List.mem_map.1 hy
        exact (HR.out i (by have := List.mem_range.1 hi; omega) (List.mem_range.1 hi)).out.1
      · obtain ⟨cs, hb, hc⟩ := HC.out
        refine ⟨_, cs, rfl, Nat.le_refl _, hb, fun j hj => ?_⟩
        have hj' : j < n := hj
        rw [hc j hj']; unfold partial_ fv; rw [if_pos (by omega), lst_wd hj']
      · have hi' : i < n := hi
        show ab .f32 (wd (lst n r) i) = _
        rw [lst_wd hi']; exact (HR.out i (by omega) hi').out.2
end Go.Proofs.Yteggicdhgcecpaa
