/- Bits: codes that are codes: both. -/
import Derived.Test.YtbncjdeplbafiaaJh
set_option linter.unusedVariables false
set_option linter.unusedSimpArgs false
namespace Go.Proofs.Ytbncjdeplbafiaa
open Fl Go.RowKit
/-- all of the first k numbers are codes -/
def areC (m : Nat) (xs : List Int) (k : Nat) : Prop := ∀ j, j < k → inB (wi xs j) (-(m : Int)) ((m : Int) - 1) = true
theorem areC_snoc {m : Nat} {xs : List Int} {k : Nat} (h : areC m xs k) (h2 : inB (wi xs k) (-(m : Int)) ((m : Int) - 1) = true) : areC m xs (k + 1) := fun j hj => by
  by_cases e : j = k
  · subst e; exact h2
  · exact h j (by omega)
set_option maxHeartbeats 2000000 in
set_option maxRecDepth 100000 in
theorem specCodes_b (b : Nat) (A : Option Addr) (n c : Nat) (xs : List Int) (w : World) (hA : Is w w.heap.size A n xs) (hn : n ≤ 1048576) (h1 : 2 ≤ b) (h2 : b ≤ 16) (r : Bool) (hr : r = true ↔ n ≤ 256 ∧ areC (mst b) xs n) :
    Calls Try.prog 13 #[.int .i64 b, .slice A n c] w fun e w' => e = .returned (.bool r) ∧ w.Since w.heap.size w' := by
  have HA := Lib.hid hA
  have HR := Lib.hid hr
  have hm := mst_le h1 h2
  clear hA hr
  go_enter Try.func13, Try.ntmps13
  go_wp2
  go_loopw [5] (fun i wr => ∃ k : Nat, k ≤ n ∧ i = .int .i64 k ∧ (0 < k → n ≤ 256) ∧ areC (mst b) xs k ∧ w.Since w.heap.size wr) (fun i _ => n - (intOf i).toNat)
  case atStart => exact ⟨0, Nat.zero_le _, rfl, (fun h => by omega), fun j hj => by omega, World.Since.refl _ _⟩
  case round =>
    obtain ⟨k, hk, rfl, hc0, hz, hs⟩ := hrel
    have HZ := Lib.hid hz; have HS := Lib.hid hs; have H0 := Lib.hid hc0
    clear hz hs hc0
    by_cases hlt : k < n
    · cases h3 : decide ((n : Int) ≤ 256)
      · have h4 : ¬ n ≤ 256 := by have := of_decide_eq_false h3; omega
        have h5 : r = false := by
          cases h6 : r
          · rfl
          · exact absurd (HR.out.1 h6).1 h4
        subst h5
        go_wp2
        go_ret
        exact ⟨rfl, HS.out⟩
      · obtain ⟨g, off, rfl, hg, hc⟩ := HA.out.2 (by omega)
        have hcell : wr.cell? ⟨g, off + k, none⟩ = some (.int .i64 (wi xs k)) := (HS.out.cell (a := ⟨g, off + k, none⟩) hg).trans (hc k hlt)
        clear hc
        obtain ⟨m, hmm⟩ : ∃ m, m = mst b := ⟨_, rfl⟩
        rw [← hmm] at hm HZ
        have HM := Lib.hid hmm
        have hq : ∀ W, Calls Try.prog 17 #[.int .i64 b] W fun e w' => e = .returned (.int .i64 (m : Int)) ∧ w' = W := fun W => by
          rw [HM.out]; exact (specMost_any b W h1 h2).mono fun _ _ ⟨a, b⟩ => ⟨a, b.symm⟩
        have HQ := Lib.hid hq
        clear hq hmm
        have h4 := of_decide_eq_true h3
        obtain ⟨v, hv⟩ : ∃ v, v = inB (wi xs k) (-(m : Int)) ((m : Int) - 1) := ⟨_, rfl⟩
        have HV := Lib.hid hv
        clear hv
        go_wp2
        refine Lo.wp_loose_all [] (by kernel_rfl) (by kernel_rfl) ?_
        repeat (first
          | (refine Lo.wpL_move rfl _ (.inl rfl) (by decide) ?_; simp only [Act.put, List.setIfInBounds_toArray, List.set_cons_succ, List.set_cons_zero])
          | (refine Lo.wpL_move rfl _ (.inr rfl) (by decide) ?_; simp only [Act.put, List.setIfInBounds_toArray, List.set_cons_succ, List.set_cons_zero])
          | (refine Lo.wpL_fop rfl _ _ _ _ rfl rfl (by decide) _ _ _ _ _ rfl rfl (by assumption) (by assumption) ?_; intro rr hrr; simp only [Act.put, List.setIfInBounds_toArray, List.set_cons_succ, List.set_cons_zero])
          | (refine Lo.wpL_wide rfl _ _ _ rfl (by decide) _ _ rfl (by kernel_rfl) (by kernel_rfl) (by assumption) ?_; intro rr hrr; simp only [Act.put, List.setIfInBounds_toArray, List.set_cons_succ, List.set_cons_zero])
          | (refine Lo.wpL_quiet rfl (by decide) (fun K hK => ?_); go_big_quiet_op; first | (refine hK _ ?_; clear hK K) | (apply Exists.intro; refine ⟨fun _ => ?_, hK _ ?_⟩; (first | (go_at_call 17; exact (HQ.out _).mono fun _ _ ⟨h1, h2⟩ => ⟨h1, _, h2⟩) | (go_at_call 16; exact (specIn_b _ _ _ v _ HV.out.symm).mono fun _ _ ⟨h1, h2⟩ => ⟨h1, _, h2.symm⟩)); clear hK K)))
        refine Lo.wpL_nil ?_
        refine Lo.after_nil ?_; intro nq
        have hv2 := HV.out
        have HI : ∀ c : Bool, v = c → Hid (inB (wi xs k) (-(m : Int)) ((m : Int) - 1) = c) := fun c hc => Lib.hid (by rw [← HV.out]; exact hc)
        clear hv2 HV
        cases v
        · have h6 : r = false := by
            cases h6 : r
            · rfl
            · have h7 := (HR.out.1 h6).2 k hlt
              rw [← HM.out, (HI false rfl).out] at h7
              cases h7
          subst h6
          go_wp2
          go_ret
          exact ⟨rfl, since_drewN HS.out _⟩
        · have HI2 := (HI true rfl)
          clear HI
          go_wp2
          go_roundw
          case rel => exact ⟨k + 1, by omega, by go_num, (fun _ => by omega), by rw [← HM.out]; exact areC_snoc HZ.out HI2.out, since_drewN HS.out _⟩
          case measure => simp [intOf]; omega
    · obtain rfl : k = n := by omega
      have h5 : r = decide ((k : Int) ≤ 256) := by
        by_cases h6 : k ≤ 256
        · rw [HR.out.2 ⟨h6, HZ.out⟩]; exact (decide_eq_true (by omega)).symm
        · have : ¬ r = true := fun h => h6 (HR.out.1 h).1
          rw [Bool.eq_false_iff.2 this]; exact (decide_eq_false (by omega)).symm
      subst h5
      clear HR
      go_wp2
      go_ret
      exact ⟨rfl, HS.out⟩
/-- all of the first k numbers lie from a to b -/
def areB (a b : Int) (xs : List Int) (k : Nat) : Prop := ∀ j, j < k → inB (wi xs j) a b = true
set_option maxHeartbeats 2000000 in
set_option maxRecDepth 100000 in
theorem allAllow_any (A : Option Addr) (n c : Nat) (xs : List Int) (a b : Int) (r : Bool) (w : World) (B : Nat) (h : Is w B A n xs) (hB : B ≤ w.heap.size) (hn : n ≤ 1048576) (hr : r = true ↔ areB a b xs n) :
    Calls Try.prog 19 #[.slice A n c, .func (.func 18) #[.agg #[.int .i64 a, .int .i64 b]] #[]] w fun e w' => e = .returned (.bool r) ∧ w.Since w.heap.size w' := by
  have HA := Lib.hid h; have HR := Lib.hid hr
  clear h hr
  go_enter Try.func19, Try.ntmps19
  go_wp2
  go_loopw [9] (fun i wr => ∃ k : Nat, k ≤ n ∧ i = .int .i64 k ∧ areB a b xs k ∧ w.Since w.heap.size wr) (fun i _ => n - (intOf i).toNat)
  case atStart => exact ⟨0, Nat.zero_le _, rfl, (fun j hj => by omega), World.Since.refl _ _⟩
  case round =>
    obtain ⟨k, hk, rfl, hz, hs⟩ := hrel
    have HZ := Lib.hid hz; have HS := Lib.hid hs
    clear hz hs
    by_cases hlt : k < n
    · obtain ⟨g, off, rfl, hg, hc⟩ := HA.out.2 (by omega)
      have hcell : wr.cell? ⟨g, off + k, none⟩ = some (.int .i64 (wi xs k)) := (HS.out.cell (a := ⟨g, off + k, none⟩) (by show g < _; omega)).trans (hc k hlt)
      clear hc
      cases ho : inB (wi xs k) a b
      · have h6 : r = false := by
          cases h6 : r
          · rfl
          · have h7 := HR.out.1 h6 k hlt
            rw [ho] at h7; cases h7
        subst h6
        go_wp2_with (first | (go_at_call 18; refine (allowR a b (wi xs k) false _ ho).mono ?_; rintro e w2 ⟨rfl, rfl⟩))
        go_ret
        exact ⟨rfl, HS.out.trans ((World.Since.refl _ _).alloc HS.out.size _)⟩
      · have HO := Lib.hid ho
        go_wp2_with (first | (go_at_call 18; refine (allowR a b (wi xs k) true _ ho).mono ?_; rintro e w2 ⟨rfl, rfl⟩))
        go_roundw
        case rel =>
          refine ⟨k + 1, by omega, by go_num, fun j hj => ?_, HS.out.trans ((World.Since.refl _ _).alloc HS.out.size _)⟩
          by_cases e : j = k
          · subst e; exact HO.out
          · exact HZ.out j (by omega)
        case measure => simp [intOf]; omega
    · obtain rfl : k = n := by omega
      have h5 := HR.out.2 HZ.out
      subst h5
      clear HR
      go_wp2
      go_ret
      exact ⟨rfl, HS.out⟩
set_option maxHeartbeats 2000000 in
set_option maxRecDepth 100000 in
theorem areCodes_b (m : Nat) (A : Option Addr) (n c : Nat) (xs : List Int) (r : Bool) (w : World) (B : Nat) (h : Is w B A n xs) (hB : B ≤ w.heap.size) (hn : n ≤ 1048576) (hr : r = true ↔ n ≤ 256 ∧ areC m xs n) :
    Calls Try.prog 15 #[codV m, .slice A n c] w fun e w' => e = .returned (.bool r) ∧ w.Since w.heap.size w' := by
  have HA := Lib.hid h; have HR := Lib.hid hr
  clear h hr
  unfold codV
  obtain ⟨f, hf⟩ : ∃ f, f = floatOfInt .f32 (m : Int) := ⟨_, rfl⟩
  rw [← hf]; clear hf
  obtain ⟨W, hW⟩ : ∃ W, W = w.alloc (.cells #[.int .i64 (-(m : Int)), .int .i64 ((m : Int) - 1), .float .f32 f] 39) := ⟨_, rfl⟩
  have S1 : Hid (w.Since w.heap.size W) := Lib.hid (by rw [hW]; exact (World.Since.refl _ _).alloc (Nat.le_refl _) _)
  cases h3 : decide ((n : Int) ≤ 256)
  · have h4 : ¬ n ≤ 256 := by have := of_decide_eq_false h3; omega
    have h5 : r = false := by
      cases h6 : r
      · rfl
      · exact absurd (HR.out.1 h6).1 h4
    subst h5
    go_enter Try.func15, Try.ntmps15
    go_wp2
    go_ret
    exact ⟨rfl, by (repeat (first | (with_reducible refine Fl.sinDrew ?_) | (with_reducible refine World.Since.drew ?_) | (with_reducible refine Fl.sinSet ?_ ?_; rotate_left) | (with_reducible refine Fl.sinAlloc ?_ ?_; rotate_left) | with_reducible exact World.Since.refl _ _ | with_reducible assumption | (with_reducible refine Fl.sinStep (by with_reducible assumption) ?_))); all_goals (first | omega | (simp; done) | (simp; omega) | (simp [go_sem]; done) | (simp [go_sem]; omega))⟩
  · have h4 : n ≤ 256 := by have := of_decide_eq_true h3; omega
    have HR2 : Hid (r = true ↔ areB (-(m : Int)) ((m : Int) - 1) xs n) := Lib.hid ⟨fun h => (HR.out.1 h).2, fun h => HR.out.2 ⟨h4, h⟩⟩
    clear HR
    go_enter Try.func15, Try.ntmps15
    go_wp2_with fail
    rw [← hW]
    refine (allAllow_any A n c xs _ _ r W B (HA.out.keep fun g o hg => S1.out.cell (a := ⟨g, o, none⟩) (by show g < _; omega)) (Nat.le_trans hB S1.out.size) hn HR2.out).mono ?_
    rintro e w2 ⟨rfl, hs2⟩
    have HS2 := Lib.hid hs2; clear hs2
    go_wp2
    go_ret
    exact ⟨rfl, since_step S1.out HS2.out⟩
end Go.Proofs.Ytbncjdeplbafiaa
