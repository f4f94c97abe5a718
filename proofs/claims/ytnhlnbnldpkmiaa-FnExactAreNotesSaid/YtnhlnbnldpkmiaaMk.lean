/- AreNotes of the model. -/
import Derived.Test.YtnhlnbnldpkmiaaMi
set_option linter.unusedVariables false
set_option linter.unusedSimpArgs false
namespace Go.Proofs.Ytnhlnbnldpkmiaa
open Fl Go.RowKit
set_option maxHeartbeats 8000000 in
set_option maxRecDepth 100000 in
theorem specNotes_b (A : Option Addr) (n c : Nat) (x : Nat → NoteR) (r : Bool) (w : World) (B : Nat) (h : Rs NoteR.cells 4 w B A n x) (hB : B ≤ w.heap.size) (hn : n ≤ 1048576) (hr : r = true ↔ notesOk x n ∧ n ≤ 12) :
    Calls Try.prog 84 #[.slice A n c] w fun e w' => e = .returned (.bool r) ∧ w.Since w.heap.size w' := by
  have HA := Lib.hid h; have HR := Lib.hid hr
  clear h hr
  go_enter Try.func84, Try.ntmps84
  go_wp2
  go_loopw [6] (fun i wr => ∃ k : Nat, k ≤ n ∧ i = .int .i64 k ∧ notesOk x k ∧ w.Since w.heap.size wr) (fun i _ => n - (intOf i).toNat)
  case atStart => exact ⟨0, Nat.zero_le _, rfl, (fun j hj => by omega), World.Since.refl _ _⟩
  case round =>
    obtain ⟨k, hk, rfl, hz, hs⟩ := hrel
    have HZ := Lib.hid hz; have HS := Lib.hid hs
    clear hz hs
    by_cases hlt : k < n
    · obtain ⟨g, off, hA, hg, hc⟩ := HA.out.at_ hlt
      have hc0 := (HS.out.cell (a := ⟨g, off + k * 4 + 0, none⟩) (by show g < _; omega)).trans (hc 0 (by decide))
      have hc1 := (HS.out.cell (a := ⟨g, off + k * 4 + 1, none⟩) (by show g < _; omega)).trans (hc 1 (by decide))
      have hc2 := (HS.out.cell (a := ⟨g, off + k * 4 + 2, none⟩) (by show g < _; omega)).trans (hc 2 (by decide))
      simp only [NoteR.cells, List.getD_cons_zero, List.getD_cons_succ, Nat.add_zero] at hc0 hc1 hc2
      clear hc
      have HN := Lib.hid (fun b (hb : noteB (x k) = b) (m : Nat) => (specNoteO_b g (off + k * 4) _ _ _ b (wr.drewN m) hc0 hc1 hc2 hb).mono fun _ _ ⟨h1, h2⟩ => (⟨h1, h2.symm⟩ : _ ∧ _))
      cases ho : noteB (x k)
      · have h6 : r = false := by
          cases h6 : r
          · rfl
          · have h7 := ((HR.out.1 h6).1 k hlt).1
            rw [ho] at h7; cases h7
        subst h6
        clear HR
        subst hA
        clear hc0 hc1 hc2
        go_wp2_with fail
        go_quiet (first | (go_at_call 93; refine Calls.quiet_of_same (HN.out false ho _)))
        go_wp2
        go_ret
        exact ⟨rfl, since_drewN HS.out _⟩
      · have HO := Lib.hid ho
        match k with
        | 0 =>
          subst hA
          clear HR
          go_wp2_with fail
          go_quiet (first | (go_at_call 93; refine Calls.quiet_of_same (HN.out true HO.out _)))
          go_wp2
          go_roundw
          case rel =>
            refine ⟨1, by omega, by go_num, fun j hj => ?_, since_drewN HS.out _⟩
            obtain rfl : j = 0 := by omega
            exact ⟨HO.out, fun h => by omega⟩
          case measure => simp [intOf]; omega
        | m + 1 =>
          obtain ⟨g2, off2, hA2, _, hc⟩ := HA.out.at_ (show m < n by omega)
          rw [hA] at hA2
          injection hA2 with hA2; injection hA2 with hA2 hA3 _; subst hA2 hA3
          have hp0 := (HS.out.cell (a := ⟨g, off + m * 4 + 0, none⟩) (by show g < _; omega)).trans (hc 0 (by decide))
          simp only [NoteR.cells, List.getD_cons_zero, Nat.add_zero] at hp0
          clear hc
          have hm : ((m + 1 : Nat) : Int) - 1 = (m : Int) := by omega
          have i1 : decide ((0 : Int) < (m : Int) + 1) = true := decide_eq_true (by omega)
          have i2 : (m : Int) + 1 - 1 = (m : Int) := by omega
          have i3 : (m : Int) < (n : Int) := by omega
          have i4 : (m : Int) + 1 < (n : Int) := by omega
          have i5 : (0 : Int) ≤ (m : Int) + 1 := by omega
          have i6 : ((m : Int) + 1).toNat = m + 1 := by omega
          subst hA
          clear hc1 hc2
          cases hd : decide ((x m).st ≤ (x (m + 1)).st)
          · have h6 : r = false := by
              cases h6 : r
              · rfl
              · have h7 := ((HR.out.1 h6).1 (m + 1) hlt).2 (by omega)
                rw [Nat.add_sub_cancel, ] at h7
                exact absurd h7 (of_decide_eq_false hd)
            subst h6
            clear HR
            have hd2 : decide ((x (m + 1)).st < (x m).st) = true := decide_eq_true (by have := of_decide_eq_false hd; omega)
            go_wp2_with fail
            go_quiet (first | (go_at_call 93; refine Calls.quiet_of_same (HN.out true HO.out _)))
            go_wp2
            go_ret
            exact ⟨rfl, since_drewN HS.out _⟩
          · clear HR
            have HD := Lib.hid hd
            have hd2 : decide ((x (m + 1)).st < (x m).st) = false := decide_eq_false (by have := of_decide_eq_true hd; omega)
            go_wp2_with fail
            go_quiet (first | (go_at_call 93; refine Calls.quiet_of_same (HN.out true HO.out _)))
            go_wp2
            go_roundw
            case rel =>
              refine ⟨m + 1 + 1, by omega, by go_num, fun j hj => ?_, since_drewN HS.out _⟩
              by_cases e : j = m + 1
              · subst e
                exact ⟨HO.out, fun _ => by rw [Nat.add_sub_cancel]; exact of_decide_eq_true HD.out⟩
              · exact HZ.out j (by omega)
            case measure => simp [intOf]; omega
    · obtain rfl : k = n := by omega
      cases h3 : decide ((k : Int) ≤ 12)
      · have h5 : r = false := by
          cases h6 : r
          · rfl
          · exact absurd (HR.out.1 h6).2 (by have := of_decide_eq_false h3; omega)
        subst h5
        clear HR
        go_wp2
        go_ret
        exact ⟨rfl, HS.out⟩
      · have h5 := HR.out.2 ⟨HZ.out, by have := of_decide_eq_true h3; omega⟩
        subst h5
        clear HR
        go_wp2
        go_ret
        exact ⟨rfl, HS.out⟩
end Go.Proofs.Ytnhlnbnldpkmiaa
