/- AreSends, of the model and of the program. -/
import Derived.Test.YtmdnalkfndoicaaBb
import Derived.Test.YtmdnalkfndoicaaVa
import Derived.StillTailTactics
set_option linter.unusedVariables false
set_option linter.unusedSimpArgs false
namespace Go.Proofs.Ytmdnalkfndoicaa
open Fl Go.RowKit
/-- it leads from a node to a later one -/
def sendB (m : Int) (s : SendR) : Bool := inB s.f 0 (m - 1) && inB s.t (s.f + 1) (m - 1)
def sendsIn (m : Int) (x : Nat → SendR) (k : Nat) : Prop := ∀ j, j < k → sendB m (x j) = true
def sendsOk (m : Int) (x : Nat → SendR) (n : Nat) : Prop := inB m 1 8 = true ∧ sendsIn m x n ∧ n ≤ 20
set_option maxHeartbeats 8000000 in
set_option maxRecDepth 100000 in
theorem specSends_in (m : Int) (A : Option Addr) (n c : Nat) (x : Nat → SendR) (r : Bool) (w : World) (B : Nat) (h : Rs SendR.cells 3 w B A n x) (hB : B ≤ w.heap.size) (hn : n ≤ 1048576) (hm : inB m 1 8 = true) (hr : r = true ↔ sendsIn m x n ∧ n ≤ 20) :
    Calls Try.prog 74 #[.int .i64 m, .slice A n c] w fun e w' => e = .returned (.bool r) ∧ w.Since w.heap.size w' := by
  have HA := Lib.hid h; have HR := Lib.hid hr
  clear h hr
  have hm1 : 1 ≤ m ∧ m ≤ 8 := by simpa [inB] using hm
  obtain ⟨hm1, hm2⟩ := hm1
  go_enter Try.func74, Try.ntmps74
  go_wp2_with (go_at_call 59; refine (specHold_b _ _ _ true _ hm).mono ?_; rintro e w2 ⟨rfl, rfl⟩)
  go_loopw [11] (fun i wr => ∃ k : Nat, k ≤ n ∧ i = .int .i64 k ∧ sendsIn m x k ∧ w.Since w.heap.size wr) (fun i _ => n - (intOf i).toNat)
  case atStart => exact ⟨0, Nat.zero_le _, rfl, (fun j hj => by omega), World.Since.refl _ _⟩
  case round =>
    obtain ⟨k, hk, rfl, hz, hs⟩ := hrel
    have HZ := Lib.hid hz; have HS := Lib.hid hs
    clear hz hs
    by_cases hlt : k < n
    · obtain ⟨g, off, hA, hg, hc⟩ := HA.out.at_ hlt
      have hc0 := (HS.out.cell (a := ⟨g, off + k * 3 + 0, none⟩) (by show g < _; omega)).trans (hc 0 (by decide))
      have hc1 := (HS.out.cell (a := ⟨g, off + k * 3 + 1, none⟩) (by show g < _; omega)).trans (hc 1 (by decide))
      simp only [SendR.cells, List.getD_cons_zero, List.getD_cons_succ, Nat.add_zero] at hc0 hc1
      clear hc
      have HN := Lib.hid (fun b (hb : inB (x k).f 0 (m - 1) = b) (q : Nat) => (specHold_b (x k).f 0 (m - 1) b (wr.drewN q) hb).mono fun _ _ ⟨h1, h2⟩ => (⟨h1, h2.symm⟩ : _ ∧ _))
      have HT := Lib.hid (fun b (hb : inB (x k).t ((x k).f + 1) (m - 1) = b) (q : Nat) => (specHold_b (x k).t ((x k).f + 1) (m - 1) b (wr.drewN q) hb).mono fun _ _ ⟨h1, h2⟩ => (⟨h1, h2.symm⟩ : _ ∧ _))
      subst hA
      cases ho : inB (x k).f 0 (m - 1)
      · have h6 : r = false := by
          cases h6 : r
          · rfl
          · have h7 := (HR.out.1 h6).1 k hlt
            rw [sendB, ho] at h7; cases h7
        subst h6
        clear HR
        go_wp2_with fail
        go_quiet (first | (go_at_call 59; refine Calls.quiet_of_same (HN.out false ho _)))
        go_wp2
        go_ret
        exact ⟨rfl, since_drewN HS.out _⟩
      · have HO := Lib.hid ho
        have hf : 0 ≤ (x k).f ∧ (x k).f ≤ m - 1 := by simpa [inB] using ho
        obtain ⟨hf1, hf2⟩ := hf
        cases hp : inB (x k).t ((x k).f + 1) (m - 1)
        · have h6 : r = false := by
            cases h6 : r
            · rfl
            · have h7 := (HR.out.1 h6).1 k hlt
              rw [sendB, hp, Bool.and_false] at h7; cases h7
          subst h6
          clear HR
          go_wp2_with fail
          go_quiet (first | (go_at_call 59; with_reducible refine Calls.quiet_of_same (HN.out true HO.out _)) | (go_at_call 59; with_reducible refine Calls.quiet_of_same (HT.out false hp _)))
          go_wp2
          go_ret
          exact ⟨rfl, since_drewN HS.out _⟩
        · have HP := Lib.hid hp
          clear HR
          go_wp2_with fail
          go_quiet (first | (go_at_call 59; with_reducible refine Calls.quiet_of_same (HN.out true HO.out _)) | (go_at_call 59; with_reducible refine Calls.quiet_of_same (HT.out true HP.out _)))
          go_wp2
          go_roundw
          case rel =>
            refine ⟨k + 1, by omega, by go_num, fun j hj => ?_, since_drewN HS.out _⟩
            by_cases e : j = k
            · subst e
              unfold sendB
              rw [HO.out, HP.out]; rfl
            · exact HZ.out j (by omega)
          case measure => simp [intOf]; omega
    · obtain rfl : k = n := by omega
      cases h3 : decide ((k : Int) ≤ 20)
      · have h5 : r = false := by
          cases h6 : r
          · rfl
          · exact absurd (HR.out.1 h6).2 (by have := of_decide_eq_false h3; omega)
        subst h5
        clear HR
        go_wp2
        go_ret
        exact ⟨rfl, HS.out⟩
      · have h5 := HR.out.2 ⟨HZ.out, by have := of_decide_eq_true h3; omega⟩
        subst h5
        clear HR
        go_wp2
        go_ret
        exact ⟨rfl, HS.out⟩
theorem specSends_b (m : Int) (A : Option Addr) (n c : Nat) (x : Nat → SendR) (r : Bool) (w : World) (B : Nat) (h : Rs SendR.cells 3 w B A n x) (hB : B ≤ w.heap.size) (hn : n ≤ 1048576) (hr : r = true ↔ sendsOk m x n) :
    Calls Try.prog 74 #[.int .i64 m, .slice A n c] w fun e w' => e = .returned (.bool r) ∧ w.Since w.heap.size w' := by
  cases hm : inB m 1 8
  · have h5 : r = false := by
      cases h6 : r
      · rfl
      · have := (hr.1 h6).1
        rw [hm] at this; cases this
    subst h5
    clear hr h
    go_enter Try.func74, Try.ntmps74
    go_wp2_with (go_at_call 59; refine (specHold_b _ _ _ false _ hm).mono ?_; rintro e w2 ⟨rfl, rfl⟩)
    go_ret
    exact ⟨rfl, World.Since.refl _ _⟩
  · exact specSends_in m A n c x r w B h hB hn hm (hr.trans ⟨fun h => h.2, fun h => ⟨hm, h⟩⟩)
theorem isNode_b (m x : Int) (b : Bool) (w : World) (hm1 : 1 ≤ m) (hm2 : m ≤ 8) (h : inB x 0 (m - 1) = b) : Calls Try.prog 77 #[.int .i64 m, .int .i64 x] w fun e w' => e = .returned (.bool b) ∧ w.alloc (lim 0 (m - 1)) = w' := by
  subst h
  unfold lim
  go_enter Try.func77, Try.ntmps77
  go_wp2_with (go_at_call 78; refine (allowX_any _ _ _ _).mono ?_; rintro e w1 ⟨rfl, rfl⟩)
  go_ret
  exact ⟨rfl, rfl⟩
theorem sendB_eq (m : Int) (s : SendR) : sendB m s = (inB s.f 0 (m - 1) && inB s.t 0 (m - 1) && decide (s.f < s.t)) := by
  unfold sendB inB
  by_cases h1 : 0 ≤ s.f <;> by_cases h2 : s.f ≤ m - 1 <;> by_cases h3 : s.t ≤ m - 1 <;> by_cases h4 : s.f < s.t <;> by_cases h5 : 0 ≤ s.t <;> by_cases h6 : s.f + 1 ≤ s.t <;> simp [h1, h2, h3, h4, h5, h6] <;> omega
set_option maxHeartbeats 2000000 in
set_option maxRecDepth 100000 in
theorem sendClos_b (m : Int) (gb : Nat) (s : SendR) (bb : Bool) (w : World) (hm1 : 1 ≤ m) (hm2 : m ≤ 8) (hgb : gb < w.heap.size) (hc : w.cell? ⟨gb, 0, none⟩ = some (.int .i64 m)) (h : sendB m s = bb) :
    Calls Try.prog 76 #[s.val, .pointer (some ⟨gb, 0, none⟩)] w fun e w' => e = .returned (.bool bb) ∧ w.Since w.heap.size w' := by
  rw [sendB_eq] at h
  subst h
  obtain ⟨f, t, g⟩ := s
  unfold SendR.val
  cases h1 : inB f 0 (m - 1) <;> cases h2 : inB t 0 (m - 1)
  all_goals
    simp only [h1, h2]
    go_enter Try.func76, Try.ntmps76
    go_wp2_with (first | (go_at_call 77; with_reducible refine (isNode_b m f _ _ hm1 hm2 h1).mono ?_; rintro e w1 ⟨rfl, rfl⟩) | (go_at_call 77; with_reducible refine (isNode_b m t _ _ hm1 hm2 h2).mono ?_; rintro e w1 ⟨rfl, rfl⟩))
    go_ret
    exact ⟨rfl, by unfold lim; (repeat (first | (with_reducible refine Fl.sinDrew ?_) | (with_reducible refine World.Since.drew ?_) | (with_reducible refine Fl.sinSet ?_ ?_; rotate_left) | (with_reducible refine Fl.sinAlloc ?_ ?_; rotate_left) | with_reducible exact World.Since.refl _ _ | with_reducible assumption | (with_reducible refine Fl.sinStep (by with_reducible assumption) ?_))); all_goals (first | omega | (simp; done) | (simp; omega) | (simp [go_sem]; done) | (simp [go_sem]; omega))⟩
end Go.Proofs.Ytmdnalkfndoicaa
