/- Valid lanes, of the model and of the program. -/
import Derived.Test.YtmdnalkfndoicaaYa
import Derived.Test.YtmdnalkfndoicaaVa
import Derived.StillTailTactics
set_option linter.unusedVariables false
set_option linter.unusedSimpArgs false
namespace Go.Proofs.Ytmdnalkfndoicaa
open Fl Go.RowKit
/-- the first k points are in their limits, and rise -/
def lanesOk (x : Nat → PointR) (k : Nat) : Prop := ∀ j, j < k → inB (x j).a 0 100000 = true ∧ (1 ≤ j → (x (j - 1)).a < (x j).a)
def laneOk (x : Nat → PointR) (n : Nat) : Prop := lanesOk x n ∧ 1 ≤ n ∧ n ≤ 12
set_option maxHeartbeats 8000000 in
set_option maxRecDepth 100000 in
theorem specLane_b (A : Option Addr) (n c : Nat) (x : Nat → PointR) (r : Bool) (w : World) (B : Nat) (h : Rs PointR.cells 2 w B A n x) (hB : B ≤ w.heap.size) (hn : n ≤ 1048576) (hr : r = true ↔ laneOk x n) :
    Calls Try.prog 55 #[.slice A n c] w fun e w' => e = .returned (.bool r) ∧ w.Since w.heap.size w' := by
  have HA := Lib.hid h; have HR := Lib.hid hr
  clear h hr
  go_enter Try.func55, Try.ntmps55
  go_wp2
  go_loopw [6] (fun i wr => ∃ k : Nat, k ≤ n ∧ i = .int .i64 k ∧ lanesOk x k ∧ w.Since w.heap.size wr) (fun i _ => n - (intOf i).toNat)
  case atStart => exact ⟨0, Nat.zero_le _, rfl, (fun j hj => by omega), World.Since.refl _ _⟩
  case round =>
    obtain ⟨k, hk, rfl, hz, hs⟩ := hrel
    have HZ := Lib.hid hz; have HS := Lib.hid hs
    clear hz hs
    by_cases hlt : k < n
    · obtain ⟨g, off, hA, hg, hc⟩ := HA.out.at_ hlt
      have hc0 := (HS.out.cell (a := ⟨g, off + k * 2 + 0, none⟩) (by show g < _; omega)).trans (hc 0 (by decide))
      simp only [PointR.cells, List.getD_cons_zero, List.getD_cons_succ, Nat.add_zero] at hc0
      clear hc
      have HN := Lib.hid (fun b (hb : inB (x k).a 0 100000 = b) (m : Nat) => (specHold_b (x k).a 0 100000 b (wr.drewN m) hb).mono fun _ _ ⟨h1, h2⟩ => (⟨h1, h2.symm⟩ : _ ∧ _))
      cases ho : inB (x k).a 0 100000
      · have h6 : r = false := by
          cases h6 : r
          · rfl
          · have h7 := ((HR.out.1 h6).1 k hlt).1
            rw [ho] at h7; cases h7
        subst h6
        clear HR
        subst hA
        go_wp2_with fail
        go_quiet (first | (go_at_call 59; refine Calls.quiet_of_same (HN.out false ho _)))
        go_wp2
        go_ret
        exact ⟨rfl, since_drewN HS.out _⟩
      · have HO := Lib.hid ho
        match k with
        | 0 =>
          subst hA
          clear HR
          simp only [Nat.zero_mul, Nat.add_zero] at hc0
          go_wp2_with fail
          go_quiet (first | (go_at_call 59; refine Calls.quiet_of_same (HN.out true HO.out _)))
          go_wp2
          go_roundw
          case rel =>
            refine ⟨1, by omega, by go_num, fun j hj => ?_, since_drewN HS.out _⟩
            obtain rfl : j = 0 := by omega
            exact ⟨HO.out, fun h => by omega⟩
          case measure => simp [intOf]; omega
        | m + 1 =>
          obtain ⟨g2, off2, hA2, _, hc⟩ := HA.out.at_ (show m < n by omega)
          rw [hA] at hA2
          injection hA2 with hA2; injection hA2 with hA2 hA3 _; subst hA2 hA3
          have hp0 := (HS.out.cell (a := ⟨g, off + m * 2 + 0, none⟩) (by show g < _; omega)).trans (hc 0 (by decide))
          simp only [PointR.cells, List.getD_cons_zero, Nat.add_zero] at hp0
          clear hc
          have hm : ((m + 1 : Nat) : Int) - 1 = (m : Int) := by omega
          have i1 : decide ((0 : Int) < (m : Int) + 1) = true := decide_eq_true (by omega)
          have i2 : (m : Int) + 1 - 1 = (m : Int) := by omega
          have i3 : (m : Int) < (n : Int) := by omega
          have i4 : (m : Int) + 1 < (n : Int) := by omega
          have i5 : (0 : Int) ≤ (m : Int) + 1 := by omega
          have i6 : ((m : Int) + 1).toNat = m + 1 := by omega
          subst hA
          cases hd : decide ((x m).a < (x (m + 1)).a)
          · have h6 : r = false := by
              cases h6 : r
              · rfl
              · have h7 := ((HR.out.1 h6).1 (m + 1) hlt).2 (by omega)
                rw [Nat.add_sub_cancel, ] at h7
                exact absurd h7 (of_decide_eq_false hd)
            subst h6
            clear HR
            have hd2 : decide ((x (m + 1)).a ≤ (x m).a) = true := decide_eq_true (by have := of_decide_eq_false hd; omega)
            go_wp2_with fail
            go_quiet (first | (go_at_call 59; refine Calls.quiet_of_same (HN.out true HO.out _)))
            go_wp2
            go_ret
            exact ⟨rfl, since_drewN HS.out _⟩
          · clear HR
            have HD := Lib.hid hd
            have hd2 : decide ((x (m + 1)).a ≤ (x m).a) = false := decide_eq_false (by have := of_decide_eq_true hd; omega)
            go_wp2_with fail
            go_quiet (first | (go_at_call 59; refine Calls.quiet_of_same (HN.out true HO.out _)))
            go_wp2
            go_roundw
            case rel =>
              refine ⟨m + 1 + 1, by omega, by go_num, fun j hj => ?_, since_drewN HS.out _⟩
              by_cases e : j = m + 1
              · subst e
                exact ⟨HO.out, fun _ => by rw [Nat.add_sub_cancel]; exact of_decide_eq_true HD.out⟩
              · exact HZ.out j (by omega)
            case measure => simp [intOf]; omega
    · obtain rfl : k = n := by omega
      cases h3 : decide ((1 : Int) ≤ (k : Int)) && decide ((k : Int) ≤ 12)
      · have h5 : r = false := by
          cases h6 : r
          · rfl
          · have h7 := (HR.out.1 h6).2
            rw [decide_eq_true (show (1 : Int) ≤ (k : Int) by omega), decide_eq_true (show (k : Int) ≤ 12 by omega)] at h3; cases h3
        subst h5
        clear HR
        by_cases h8 : (1 : Int) ≤ (k : Int)
        · have h9 : ¬ (k : Int) ≤ 12 := fun h => by rw [decide_eq_true h8, decide_eq_true h] at h3; cases h3
          clear h3
          go_wp2
          go_ret
          exact ⟨rfl, HS.out⟩
        · clear h3
          go_wp2
          go_ret
          exact ⟨rfl, HS.out⟩
      · rw [Bool.and_eq_true] at h3
        have h8 := of_decide_eq_true h3.1
        have h9 := of_decide_eq_true h3.2
        clear h3
        have h5 := HR.out.2 ⟨HZ.out, by omega, by omega⟩
        subst h5
        clear HR
        go_wp2
        go_ret
        exact ⟨rfl, HS.out⟩
end Go.Proofs.Ytmdnalkfndoicaa
