/- Folds: rooms made for rows, lists joined, one sum of the program's fold. -/
import Derived.Test.YtdibobheggffnaaTa
import Derived.Lib.AppendZeros
import Derived.Lib.AppendZerosOnto
set_option linter.unusedVariables false
set_option linter.unusedSimpArgs false
namespace Go.Proofs.Ytdibobheggffnaa
open Fl Go.RowKit
theorem grow0_any (w : World) : Calls Try.prog 84 #[.slice none 0 0, .int .i64 0] w fun e w' => e = .returned (.slice none 0 0) ∧ w = w' := by
  go_enter Try.func84, Try.ntmps84
  go_wp2
  go_ret
  exact ⟨rfl, rfl⟩
set_option maxHeartbeats 4000000 in
set_option maxRecDepth 100000 in
theorem grow_any (n : Nat) (w : World) (F : Nat → O) (h0 : 0 < n) (hn : n ≤ 1048576) :
    Calls Try.prog 84 #[.slice none 0 0, .int .i64 n] w fun e w' => ∃ v, e = .returned v ∧ Hid (Rw w.heap.size w' v 0 F) ∧ Hid (w.Since w.heap.size w') := by
  obtain ⟨i0, hi, hz0, hz1, hz2⟩ := info_parts Try.infoF
  have hrz := fun ty => Lib.run_append_nil_zeros (P := Try.prog) w 22 3 ty 46 i0 (.float .f32 0) .i64 .i64 Try.underlying22 Try.underlying3 hi hz0 n h0 (by omega) (by omega) (by rw [hz2]; omega)
  have hG1 := grownCap_ge w n 0 46
  have hG2 := grownCap_le_maxLen w n 0 46 (by unfold maxLen; omega)
  obtain ⟨G, hG⟩ : ∃ G, G = grownCap w n 0 46 := ⟨_, rfl⟩
  rw [← hG] at hrz hG1 hG2
  obtain ⟨cs, hcs⟩ : ∃ cs, cs = Builtin.zeroCells (Value.float .f32 0).cells n ++ Builtin.zeroCells (Value.float .f32 0).cells (G - n) := ⟨_, rfl⟩
  have hsz : cs.size = G := by rw [hcs]; simp [Builtin.zeroCells, Value.cells]; omega
  rw [← hcs] at hrz
  have hG63 : G ≤ 9223372036854775807 := by unfold maxLen at hG2; omega
  have HM := Lib.hid hG2; have HSZ := Lib.hid hsz
  clear hG hcs hG2 hsz hi hz0 hz1 hz2
  go_enter Try.func84, Try.ntmps84
  go_wp2_with (at_builtin; refine Lib.wpList_append_run _ rfl _ _ _ _ rfl _ _ rfl rfl _ _ (hrz _) ?_)
  all_goals
    go_ret
    exact ⟨_, rfl, Lib.hid ⟨[], ⟨rfl, .inr ⟨w.heap.size, G, cs, rfl, Nat.le_refl _, Go.Deep.blk_alloc_new _ _, Nat.zero_le _, HM.out, by rw [HSZ.out]; omega, rfl⟩⟩, (fun x hx => by cases hx), fun j hj => by omega⟩, Lib.hid (by (repeat (first | (with_reducible refine Fl.sinDrew ?_) | (with_reducible refine World.Since.drew ?_) | (with_reducible refine Fl.sinSet ?_ ?_; rotate_left) | (with_reducible refine Fl.sinAlloc ?_ ?_; rotate_left) | with_reducible exact World.Since.refl _ _ | with_reducible assumption | (with_reducible refine Fl.sinStep (by with_reducible assumption) ?_))); all_goals (first | omega | (simp; done) | (simp; omega) | (simp [go_sem]; done) | (simp [go_sem]; omega)))⟩
set_option maxHeartbeats 8000000 in
set_option maxRecDepth 100000 in
theorem concat_any (b : Nat) (A A2 : Option Addr) (l c n c2 : Nat) (ls xs : List Nat) (w : World) (h1 : w.cell? ⟨b, 0, none⟩ = some (.slice A l c)) (h2 : w.cell? ⟨b, 1, none⟩ = some (.slice A2 n c2)) (hb : b < w.heap.size) (hA : Fs w w.heap.size A l ls) (hA2 : Fs w w.heap.size A2 n xs) (hl : l ≤ 31) (hn : n ≤ 256)
    (e1 : A = none → l = 0 ∧ c = 0) (e2 : A2 = none → n = 0 ∧ c2 = 0) :
    Calls Try.prog 60 #[.slice (some ⟨b, 0, none⟩) 2 2] w fun e w' => ∃ v, e = .returned v ∧ Hid (Rw w.heap.size w' v (l + n) (apO ls xs l)) ∧ Hid (w.Since w.heap.size w') := by
  have HA := Lib.hid hA; have HA2 := Lib.hid hA2
  clear hA hA2
  go_enter Try.func60, Try.ntmps60
  go_wp2
  go_loop [3, 11] (fun s i => ∃ k : Nat, k ≤ 2 ∧ i = .int .i64 (k : Nat) ∧ s = .int .i64 ((if k = 0 then 0 else if k = 1 then l else l + n : Nat) : Int)) (fun _ i => 2 - (intOf i).toNat)
  case atStart => exact ⟨0, by omega, rfl, rfl⟩
  case round =>
    obtain ⟨k, hk, rfl, rfl⟩ := hrel
    obtain rfl | rfl | rfl : k = 0 ∨ k = 1 ∨ k = 2 := by omega
    · simp only [if_true]
      go_wp2
      exact ⟨⟨1, by omega, rfl, rfl⟩, by simp [intOf]⟩
    · simp only [show ¬ (1 = 0) from by decide, if_true, if_false]
      go_wp2
      exact ⟨⟨2, by omega, rfl, by simp⟩, by simp [intOf]⟩
    · simp only [show ¬ (2 = 0) from by decide, show ¬ (2 = 1) from by decide, if_false]
      have hsum : (l : Int) + (n : Int) = ((l + n : Nat) : Int) := by omega
      have hfin : ∀ (v0 : Value) (w1 : World), Hid (Rw w.heap.size w1 v0 0 (apO ls xs l)) → Hid (w.Since w.heap.size w1) → True := fun _ _ _ _ => trivial
      obtain ⟨m, hm⟩ : ∃ m, m = l + n := ⟨_, rfl⟩
      rw [← hm]
      have hG : ∀ W : World, Calls Try.prog 84 #[.slice none 0 0, .int .i64 m] W fun e w' => ∃ v, e = .returned v ∧ Hid (Rw W.heap.size w' v 0 (apO ls xs l)) ∧ Hid (W.Since W.heap.size w') := fun W => by
        by_cases h0 : 0 < m
        · exact grow_any m W _ h0 (by omega)
        · obtain rfl : m = 0 := by omega
          refine (grow0_any W).mono ?_
          rintro e w' ⟨rfl, rfl⟩
          exact ⟨_, rfl, Lib.hid ⟨[], ⟨rfl, .inl ⟨rfl, rfl⟩⟩, (fun x hx => by cases hx), fun j hj => by omega⟩, Lib.hid (World.Since.refl _ _)⟩
      have HG := Lib.hid hG
      clear hG hm hfin
      go_wp2_with (go_at_call 84; refine (HG.out _).mono ?_; rintro e w1 ⟨v0, rfl, hR1, hS1⟩)
      have z1 := hS1.out.size
      go_loopw [6, 27] (fun v i wr => ∃ k : Nat, k ≤ 2 ∧ i = .int .i64 (k : Nat) ∧ Rw w.heap.size wr v (if k = 0 then 0 else if k = 1 then l else l + n) (apO ls xs l) ∧ w.Since w.heap.size wr) (fun _ i _ => 2 - (intOf i).toNat)
      case atStart => exact ⟨0, by omega, rfl, hR1.out, hS1.out⟩
      case round =>
        obtain ⟨k, hk, rfl, hr, hs⟩ := hrel
        have HR := Lib.hid hr; have HS := Lib.hid hs
        have hsz := hs.size
        have c1 := (HS.out.cell (a := ⟨b, 0, none⟩) hb).trans h1
        have c2' := (HS.out.cell (a := ⟨b, 1, none⟩) hb).trans h2
        clear hr hs
        obtain rfl | rfl | rfl : k = 0 ∨ k = 1 ∨ k = 2 := by omega
        · simp only [if_true] at HR
          go_wp2_with (first | (at_builtin; go_loud (refine wpList_appN rfl (.tmp 31) (.tmp 32) rfl w.heap.size _ 0 (apO ls xs l) rfl A l c ls w.heap.size rfl e1 (Lib.hid (HA.out.since HS.out)) (fun j hj => by unfold apO; rw [if_pos (by omega)]; congr 2; omega) (by omega) hsz HR.out ?_); intro v4 w4 hR4 hS4))
          go_roundw
          case rel => exact ⟨1, by omega, rfl, by simpa using hR4.out, HS.out.trans hS4.out⟩
          case measure => simp [intOf]
        · simp only [show ¬ (1 = 0) from by decide, if_true, if_false] at HR
          go_wp2_with (first | (at_builtin; go_loud (refine wpList_appN rfl (.tmp 31) (.tmp 32) rfl w.heap.size _ l (apO ls xs l) rfl A2 n c2 xs w.heap.size rfl e2 (Lib.hid (HA2.out.since HS.out)) (fun j hj => by unfold apO; rw [if_neg (by omega)]; congr 2; omega) (by omega) hsz HR.out ?_); intro v4 w4 hR4 hS4))
          go_roundw
          case rel => exact ⟨2, by omega, rfl, by simpa using hR4.out, HS.out.trans hS4.out⟩
          case measure => simp [intOf]
        · simp only [show ¬ (2 = 0) from by decide, show ¬ (2 = 1) from by decide, if_false] at HR
          go_wp2
          go_ret
          exact ⟨_, rfl, HR, HS⟩
/-- a made row of n floats, of which the first k stand for F -/
def Mr (w : World) (g n k : Nat) (F : Nat → O) : Prop := ∃ xs : List Nat, xs.length = n ∧ Small xs ∧ GCells w g n (fv xs) ∧ ∀ j, j < k → ab .f32 (wd xs j) = F j
theorem Mr.made (w : World) (n : Nat) (F : Nat → O) : Mr (w.alloc (.cells (madeCells #[.float .f32 0] n) 46)) w.heap.size n 0 F := by
  obtain ⟨cs, hb, _, hc⟩ := World.rowIs_made w (.float .f32 0) n 46
  refine ⟨List.replicate n 0, by simp, fun x hx => ?_, ⟨cs, hb, fun j hj => ?_⟩, fun j hj => by omega⟩
  · rw [(List.mem_replicate.1 hx).2]; decide
  · rw [hc j hj]; unfold fv wd; simp [List.getD_eq_getElem?_getD, hj]
theorem Mr.put {w : World} {g n k : Nat} {F : Nat → O} (h : Mr w g n k F) (hk : k < n) {r : Nat} (hr : Hid (Fv .f32 r (F k))) : Mr (w.setCell ⟨g, k, none⟩ (.float .f32 r)) g n (k + 1) F := by
  obtain ⟨xs, h1, h2, h3, h4⟩ := h
  refine ⟨xs.set k r, by rw [List.length_set, h1], fun x hx => ?_, (h3.set k _).congr (fun j hj => ?_), fun j hj => ?_⟩
  · rcases List.mem_or_eq_of_mem_set hx with h | rfl
    · exact h2 x h
    · exact hr.out.1
  · unfold fv wd
    by_cases e : j = k
    · subst e; rw [if_pos rfl]; simp [List.getD_eq_getElem?_getD, List.getElem?_set, h1, hj]
    · rw [if_neg e]; simp [List.getD_eq_getElem?_getD, List.getElem?_set, show ¬ (k = j) from fun h => e h.symm]
  · unfold wd
    by_cases e : j = k
    · subst e
      simp [List.getD_eq_getElem?_getD, List.getElem?_set, h1, hk]
      exact hr.out.2
    · have := h4 j (by omega)
      unfold wd at this
      simpa [List.getD_eq_getElem?_getD, List.getElem?_set, show ¬ (k = j) from fun h => e h.symm] using this
theorem Mr.keep {w w' : World} {g n k : Nat} {F : Nat → O} (h : Mr w g n k F) (e : w'.heap[g]? = w.heap[g]?) : Mr w' g n k F := by
  obtain ⟨xs, h1, h2, ⟨cs, hb, hc⟩, h4⟩ := h
  exact ⟨xs, h1, h2, ⟨cs, e.trans hb, hc⟩, h4⟩
theorem Mr.drewN {w : World} {g n k : Nat} {F : Nat → O} (h : Mr w g n k F) (m : Nat) : Mr (w.drewN m) g n k F := h
theorem Mr.lt {w : World} {g n k : Nat} {F : Nat → O} (h : Mr w g n k F) : g < w.heap.size := by
  obtain ⟨xs, h1, h2, h3, h4⟩ := h
  exact h3.lt
theorem Mr.cell {w : World} {g n k : Nat} {F : Nat → O} (h : Mr w g n k F) {j : Nat} (hj : j < n) : ∃ x, w.cell? ⟨g, j, none⟩ = some (.float .f32 x) := by
  obtain ⟨xs, h1, h2, h3, h4⟩ := h
  exact ⟨_, h3.cell hj⟩
theorem Mr.free {w : World} {g n k : Nat} {F : Nat → O} (h : Mr w g n k F) (j : Nat) : w.frozen? ⟨g, j, none⟩ = false := by
  obtain ⟨xs, h1, h2, h3, h4⟩ := h
  exact h3.free j
theorem Mr.done {w : World} {g n lo : Nat} {F : Nat → O} (h : Mr w g n n F) (hl : lo ≤ g) : ∃ xs, Gs 46 w lo (some ⟨g, 0, none⟩) n xs ∧ Are ⟨some ⟨g, 0, none⟩, n, xs⟩ F := by
  obtain ⟨xs, h1, h2, ⟨cs, hb, hc⟩, h4⟩ := h
  exact ⟨xs, ⟨h1, h2, fun _ => ⟨g, cs, rfl, hl, hb, hc⟩⟩, h4⟩
set_option maxHeartbeats 4000000 in
set_option maxRecDepth 100000 in
theorem sumOfFold_any (A A2 : Option Addr) (t c c2 : Nat) (ts zs : List Nat) (T Z : Nat → O) (p : Nat) (w : World) (B : Nat) (hA : Fs w B A t ts) (hA2 : Fs w B A2 t zs) (ht : t ≤ 32) (hT : ∀ k, k < t → ab .f32 (wd ts k) = T k) (hZ : ∀ k, k < t → ab .f32 (wd zs (t - 1 - k)) = Z (p - k)) :
    Calls Try.prog 61 #[.slice A t c, .slice A2 t c2] w fun e w' => ∃ r m, e = .returned (.float .f32 r) ∧ Hid (Fv .f32 r (fsum T Z p t)) ∧ w.drewN m = w' := by
  have HA := Lib.hid hA; have HA2 := Lib.hid hA2; have HT := Lib.hid hT; have HZ := Lib.hid hZ
  clear hA hA2 hT hZ
  go_enter Try.func61, Try.ntmps61
  go_wp2
  go_loopw [5, 10] (fun s i wr => ∃ j q m : Nat, j ≤ t ∧ i = .int .i64 (j : Nat) ∧ s = .float .f32 q ∧ Hid (Fv .f32 q (fsum T Z p j)) ∧ wr = w.drewN m) (fun _ i _ => t - (intOf i).toNat)
  case atStart => exact ⟨0, 0, 0, Nat.zero_le _, rfl, rfl, fv0, rfl⟩
  case round =>
    obtain ⟨j, q, m, hj, rfl, rfl, hq, rfl⟩ := hrel
    by_cases hl2 : j < t
    · obtain ⟨g, off, rfl, hg, hc⟩ := HA.out.2.2 (by omega)
      have hcell : w.cell? ⟨g, off + j, none⟩ = some (.float .f32 (wd ts j)) := hc j hl2
      have hx : Hid (Fv .f32 (wd ts j) (T j)) := Lib.hid ⟨HA.out.2.1.at_ _, HT.out j hl2⟩
      obtain ⟨g2, off2, rfl, hg2, hc2⟩ := HA2.out.2.2 (by omega)
      obtain ⟨i, hi⟩ : ∃ i, i = t - 1 - j := ⟨_, rfl⟩
      have hcell2 : w.cell? ⟨g2, off2 + i, none⟩ = some (.float .f32 (wd zs i)) := hc2 i (by omega)
      have hz : Hid (Fv .f32 (wd zs i) (Z (p - j))) := Lib.hid ⟨HA2.out.2.1.at_ _, by rw [hi]; exact HZ.out j hl2⟩
      have ep : ((t : Int) - 1) - (j : Int) = (i : Nat) := by omega
      have hpl : i < t := by omega
      have eF : Hid (fsum T Z p (j + 1) = opO .add .f32 (fsum T Z p j) (opO .mul .f32 (T j) (Z (p - j)))) := Lib.hid rfl
      clear hc hc2 hi
      go_wp2_with (first | (with_reducible_and_instances refine Lo.wpList_fo _ rfl _ _ _ _ _ rfl _ _ _ _ _ rfl rfl rfl (by assumption) (by assumption) ?_; intro rr nn hrr))
      rw [← eF.out] at hrr
      go_roundw
      case rel => exact ⟨j + 1, _, _, by omega, by go_num, rfl, hrr, rfl⟩
      case measure => simp [intOf]; omega
    · obtain rfl : j = t := by omega
      go_wp2
      go_ret
      exact ⟨q, m, rfl, hq, rfl⟩
end Go.Proofs.Ytdibobheggffnaa
