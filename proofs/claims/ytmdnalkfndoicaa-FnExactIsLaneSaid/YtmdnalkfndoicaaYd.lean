/- Valid lanes of the program; the law of IsLane. -/
import Derived.Test.YtmdnalkfndoicaaYb
import Derived.Test.YtmdnalkfndoicaaYc
set_option linter.unusedVariables false
set_option linter.unusedSimpArgs false
namespace Go.Proofs.Ytmdnalkfndoicaa
open Fl Go.RowKit
theorem isLanePlace_b (x : Int) (b : Bool) (w : World) (h : inB x 0 100000 = b) : Calls Try.prog 61 #[.int .i64 x] w fun e w' => e = .returned (.bool b) ∧ w.alloc (lim 0 100000) = w' := by
  subst h
  unfold lim
  go_enter Try.func61, Try.ntmps61
  go_wp2_with (go_at_call 78; refine (allowX_any _ _ _ _).mono ?_; rintro e w1 ⟨rfl, rfl⟩)
  go_ret
  exact ⟨rfl, rfl⟩
theorem pointClos_b (a : Int) (g : Nat) (bb : Bool) (w : World) (h : inB a 0 100000 = bb) : Calls Try.prog 95 #[.agg #[.int .i64 a, .float .f32 g]] w fun e w' => e = .returned (.bool bb) ∧ w.Since w.heap.size w' := by
  go_enter Try.func95, Try.ntmps95
  go_wp2_with (go_at_call 61; refine (isLanePlace_b _ _ _ h).mono ?_; rintro e w1 ⟨rfl, rfl⟩)
  go_ret
  exact ⟨rfl, by unfold lim; (repeat (first | (with_reducible refine Fl.sinDrew ?_) | (with_reducible refine World.Since.drew ?_) | (with_reducible refine Fl.sinSet ?_ ?_; rotate_left) | (with_reducible refine Fl.sinAlloc ?_ ?_; rotate_left) | with_reducible exact World.Since.refl _ _ | with_reducible assumption | (with_reducible refine Fl.sinStep (by with_reducible assumption) ?_))); all_goals (first | omega | (simp; done) | (simp; omega) | (simp [go_sem]; done) | (simp [go_sem]; omega))⟩
def pointsIn (x : Nat → PointR) (k : Nat) : Prop := ∀ j, j < k → inB (x j).a 0 100000 = true
set_option maxHeartbeats 2000000 in
set_option maxRecDepth 100000 in
theorem allPoints_any (A : Option Addr) (n c : Nat) (x : Nat → PointR) (r : Bool) (w : World) (B : Nat) (h : Rs PointR.cells 2 w B A n x) (hB : B ≤ w.heap.size) (hn : n ≤ 1048576) (hr : r = true ↔ pointsIn x n) :
    Calls Try.prog 96 #[.slice A n c, .func (.func 95) #[] #[]] w fun e w' => e = .returned (.bool r) ∧ w.Since w.heap.size w' := by
  have HA := Lib.hid h; have HR := Lib.hid hr
  clear h hr
  go_enter Try.func96, Try.ntmps96
  go_wp2
  go_loopw [9] (fun i wr => ∃ k : Nat, k ≤ n ∧ i = .int .i64 k ∧ pointsIn x k ∧ w.Since w.heap.size wr) (fun i _ => n - (intOf i).toNat)
  case atStart => exact ⟨0, Nat.zero_le _, rfl, (fun j hj => by omega), World.Since.refl _ _⟩
  case round =>
    obtain ⟨k, hk, rfl, hz, hs⟩ := hrel
    have HZ := Lib.hid hz; have HS := Lib.hid hs
    clear hz hs
    by_cases hlt : k < n
    · obtain ⟨g, off, rfl, hg, hc⟩ := HA.out.at_ hlt
      have hc0 := (HS.out.cell (a := ⟨g, off + k * 2 + 0, none⟩) (by show g < _; omega)).trans (hc 0 (by decide))
      have hc1 := (HS.out.cell (a := ⟨g, off + k * 2 + 1, none⟩) (by show g < _; omega)).trans (hc 1 (by decide))
      simp only [PointR.cells, List.getD_cons_zero, List.getD_cons_succ, Nat.add_zero] at hc0 hc1
      clear hc
      cases ho : inB (x k).a 0 100000
      · have h6 : r = false := by
          cases h6 : r
          · rfl
          · have h7 := HR.out.1 h6 k hlt
            rw [ho] at h7; cases h7
        subst h6
        clear HR
        go_wp2_with fail
        refine (pointClos_b _ _ false _ ho).mono ?_; rintro e w2 ⟨rfl, hs2⟩
        have HS2 := Lib.hid (since_step (HS.out.alloc HS.out.size _) hs2); clear hs2
        go_wp2
        go_ret
        exact ⟨rfl, HS2.out⟩
      · have HO := Lib.hid ho
        go_wp2_with fail
        refine (pointClos_b _ _ true _ HO.out).mono ?_; rintro e w2 ⟨rfl, hs2⟩
        have HS2 := Lib.hid (since_step (HS.out.alloc HS.out.size _) hs2); clear hs2
        go_wp2
        go_roundw
        case rel =>
          refine ⟨k + 1, by omega, by go_num, fun j hj => ?_, HS2.out⟩
          by_cases e : j = k
          · subst e; exact HO.out
          · exact HZ.out j (by omega)
        case measure => simp [intOf]; omega
    · obtain rfl : k = n := by omega
      have h5 := HR.out.2 HZ.out
      subst h5
      clear HR
      go_wp2
      go_ret
      exact ⟨rfl, HS.out⟩
def laneV (b : Bool) (A : Option Addr) (n c : Nat) : Value := if b then .slice A n c else .slice none 0 0
theorem lanesOk_iff (x : Nat → PointR) (n : Nat) : lanesOk x n ↔ pointsIn x n ∧ ∀ j, j + 1 < n → (x j).a < (x (j + 1)).a := by
  constructor
  · intro h
    exact ⟨fun j hj => (h j hj).1, fun j hj => by have := (h (j + 1) hj).2 (by omega); rwa [Nat.add_sub_cancel] at this⟩
  · intro h j hj
    refine ⟨h.1 j hj, fun h1 => ?_⟩
    have := h.2 (j - 1) (by omega)
    rwa [Nat.sub_add_cancel h1] at this
set_option maxHeartbeats 8000000 in
set_option maxRecDepth 100000 in
theorem laneOf_in (A : Option Addr) (n c : Nat) (x : Nat → PointR) (r : Bool) (w : World) (B : Nat) (h : Rs PointR.cells 2 w B A n x) (hB : B ≤ w.heap.size) (hnc : n ≤ c) (h1 : 1 ≤ n) (h2 : n ≤ 12) (hp : pointsIn x n) (hr : r = true ↔ ∀ j, j + 1 < n → (x j).a < (x (j + 1)).a) :
    Calls Try.prog 57 #[.slice A n c] w fun e w' => ∃ v, e = .returned (.tuple #[v, .bool r]) ∧ v = laneV r A n c ∧ w.Since w.heap.size w' := by
  have HA := Lib.hid h; have HR := Lib.hid hr; have HP := Lib.hid hp
  clear h hr hp
  obtain ⟨g, off, rfl, hg, _⟩ := HA.out.at_ (show 0 < n by omega)
  have hB' : Hid (Rs PointR.cells 2 w w.heap.size (some ⟨g, off, none⟩) n x) := Lib.hid (HA.out.more hB)
  have hg2 : g < w.heap.size := by omega
  clear HA
  have hn1 : ((n - 1 : Nat) : Int) = (n : Int) - 1 := by omega
  by_cases he : n = 1
  · subst he
    have hr1 : r = true := HR.out.2 fun j hj => by omega
    subst hr1
    clear HR hn1
    by_cases hc2 : c = 1
    · subst hc2
      go_enter Try.func57, Try.ntmps57
      go_wp2_with (go_at_call 96; refine (allPoints_any _ _ _ x true _ _ hB'.out (Nat.le_refl _) (by omega) ⟨fun _ => HP.out, fun _ => rfl⟩).mono ?_; rintro e w1 ⟨rfl, hs⟩; have HS1 := Lib.hid hs; clear hs)
      go_loopw [24] (fun i wr => i = .int .i64 0 ∧ wr = w1) (fun _ _ => 0)
      case atStart => exact ⟨rfl, rfl⟩
      case round =>
        obtain ⟨rfl, rfl⟩ := hrel
        go_wp2
        go_ret2
        exact ⟨_, rfl, rfl, HS1.out⟩
    · have hc3 : 2 ≤ c := by omega
      go_enter Try.func57, Try.ntmps57
      go_wp2_with (go_at_call 96; refine (allPoints_any _ _ _ x true _ _ hB'.out (Nat.le_refl _) (by omega) ⟨fun _ => HP.out, fun _ => rfl⟩).mono ?_; rintro e w1 ⟨rfl, hs⟩; have HS1 := Lib.hid hs; clear hs)
      go_loopw [24] (fun i wr => i = .int .i64 0 ∧ wr = w1) (fun _ _ => 0)
      case atStart => exact ⟨rfl, rfl⟩
      case round =>
        obtain ⟨rfl, rfl⟩ := hrel
        go_wp2
        go_ret2
        exact ⟨_, rfl, rfl, HS1.out⟩
  · have h3 : 2 ≤ n := by omega
    have h4 : 2 ≤ c := by omega
    go_enter Try.func57, Try.ntmps57
    go_wp2_with (go_at_call 96; refine (allPoints_any _ _ c x true _ _ hB'.out (Nat.le_refl _) (by omega) ⟨fun _ => HP.out, fun _ => rfl⟩).mono ?_; rintro e w1 ⟨rfl, hs⟩; have HS1 := Lib.hid hs; clear hs)
    go_loopw [24] (fun i wr => ∃ k : Nat, k + 1 ≤ n ∧ i = .int .i64 k ∧ (∀ j, j < k → (x j).a < (x (j + 1)).a) ∧ w.Since w.heap.size wr) (fun i _ => n - (intOf i).toNat)
    case atStart => exact ⟨0, by omega, rfl, (fun j hj => by omega), HS1.out⟩
    case round =>
      obtain ⟨k, hk, rfl, hz, hs⟩ := hrel
      have HZ := Lib.hid hz; have HS := Lib.hid hs
      clear hz hs HS1
      by_cases hlt : k + 1 < n
      · obtain ⟨_, _, e1, _, hc⟩ := hB'.out.at_ hlt
        injection e1 with e1; injection e1 with e1 e2 _; subst e1; subst e2
        obtain ⟨_, _, e1, _, hd⟩ := hB'.out.at_ (show k < n by omega)
        injection e1 with e1; injection e1 with e1 e2 _; subst e1; subst e2
        have hc0 := (HS.out.cell (a := ⟨g, off + (k + 1) * 2 + 0, none⟩) hg2).trans (hc 0 (by decide))
        have hc1 := (HS.out.cell (a := ⟨g, off + (k + 1) * 2 + 1, none⟩) hg2).trans (hc 1 (by decide))
        have hd0 := (HS.out.cell (a := ⟨g, off + k * 2 + 0, none⟩) hg2).trans (hd 0 (by decide))
        simp only [PointR.cells, List.getD_cons_zero, List.getD_cons_succ, Nat.add_zero, show off + (k + 1) * 2 = off + 2 + k * 2 by omega] at hc0 hc1 hd0
        clear hc hd
        have hlt2 : (k : Int) < ((n - 1 : Nat) : Int) := by omega
        have hz := HS.out.size
        have hg3 : g < wr.heap.size := by omega
        have hkn : k < n := by omega
        cases hd : decide ((x k).a < (x (k + 1)).a)
        · have h6 : r = false := by
            cases h6 : r
            · rfl
            · exact absurd (HR.out.1 h6 k hlt) (of_decide_eq_false hd)
          subst h6
          clear HR
          have hd2 : decide ((x (k + 1)).a ≤ (x k).a) = true := decide_eq_true (by have := of_decide_eq_false hd; omega)
          go_wp2
          go_region
          go_wp2
          go_ret2
          exact ⟨_, rfl, rfl, by (repeat (first | (with_reducible refine Fl.sinDrew ?_) | (with_reducible refine World.Since.drew ?_) | (with_reducible refine Fl.sinSet ?_ ?_; rotate_left) | (with_reducible refine Fl.sinAlloc ?_ ?_; rotate_left) | with_reducible exact World.Since.refl _ _ | with_reducible assumption | (with_reducible refine Fl.sinStep (by with_reducible assumption) ?_))); all_goals (first | omega | (simp; done) | (simp; omega) | (simp [go_sem]; done) | (simp [go_sem]; omega))⟩
        · have HD := Lib.hid hd
          have hd2 : decide ((x (k + 1)).a ≤ (x k).a) = false := decide_eq_false (by have := of_decide_eq_true hd; omega)
          go_wp2
          go_region
          go_wp2
          go_roundw
          case rel =>
            refine ⟨k + 1, by omega, by go_num, fun j hj => ?_, by (repeat (first | (with_reducible refine Fl.sinDrew ?_) | (with_reducible refine World.Since.drew ?_) | (with_reducible refine Fl.sinSet ?_ ?_; rotate_left) | (with_reducible refine Fl.sinAlloc ?_ ?_; rotate_left) | with_reducible exact World.Since.refl _ _ | with_reducible assumption | (with_reducible refine Fl.sinStep (by with_reducible assumption) ?_))); all_goals (first | omega | (simp; done) | (simp; omega) | (simp [go_sem]; done) | (simp [go_sem]; omega))⟩
            by_cases e : j = k
            · subst e; exact of_decide_eq_true HD.out
            · exact HZ.out j (by omega)
          case measure => simp [intOf]; omega
      · have h5 := HR.out.2 (fun j hj => HZ.out j (by omega))
        subst h5
        clear HR
        have hlt2 : decide ((k : Int) < ((n - 1 : Nat) : Int)) = false := decide_eq_false (by omega)
        go_wp2
        go_ret2
        exact ⟨_, rfl, rfl, HS.out⟩
set_option maxHeartbeats 8000000 in
set_option maxRecDepth 100000 in
theorem laneOf_any (A : Option Addr) (n c : Nat) (x : Nat → PointR) (r : Bool) (w : World) (B : Nat) (h : Rs PointR.cells 2 w B A n x) (hB : B ≤ w.heap.size) (hnc : n ≤ c) (hn : n ≤ 1048576) (hr : r = true ↔ laneOk x n) :
    Calls Try.prog 57 #[.slice A n c] w fun e w' => ∃ v, e = .returned (.tuple #[v, .bool r]) ∧ v = laneV r A n c ∧ w.Since w.heap.size w' := by
  by_cases h1 : 1 ≤ n
  · by_cases h2 : n ≤ 12
    · by_cases hp : pointsIn x n
      · refine laneOf_in A n c x r w B h hB hnc h1 h2 hp (hr.trans ?_)
        unfold laneOk
        rw [lanesOk_iff]
        exact ⟨fun h => h.1.2, fun h => ⟨⟨hp, h⟩, h1, h2⟩⟩
      · have h6 : r = false := by
          cases h6 : r
          · rfl
          · exact absurd ((lanesOk_iff x n).1 (hr.1 h6).1).1 hp
        subst h6
        have HA := Lib.hid h
        clear hr h
        go_enter Try.func57, Try.ntmps57
        go_wp2_with fail
        go_at_call 96
        refine (allPoints_any _ _ c x false _ _ HA.out hB (by omega) ⟨fun h => (by cases h), fun h => absurd h hp⟩).mono ?_
        rintro e w1 ⟨rfl, hs⟩
        have HS1 := Lib.hid hs; clear hs
        go_wp2
        go_ret2
        exact ⟨_, rfl, rfl, HS1.out⟩
    · have h6 : r = false := by
        cases h6 : r
        · rfl
        · exact absurd (hr.1 h6).2.2 h2
      subst h6
      clear hr h
      have h7 : decide ((12 : Int) < n) = true := decide_eq_true (by omega)
      have h8 : decide ((n : Int) < 1) = false := decide_eq_false (by omega)
      go_enter Try.func57, Try.ntmps57
      go_wp2
      go_ret2
      exact ⟨_, rfl, rfl, World.Since.refl _ _⟩
  · have h6 : r = false := by
      cases h6 : r
      · rfl
      · exact absurd (hr.1 h6).2.1 h1
    subst h6
    clear hr h
    obtain rfl : n = 0 := by omega
    go_enter Try.func57, Try.ntmps57
    go_wp2
    go_ret2
    exact ⟨_, rfl, rfl, World.Since.refl _ _⟩
end Go.Proofs.Ytmdnalkfndoicaa
