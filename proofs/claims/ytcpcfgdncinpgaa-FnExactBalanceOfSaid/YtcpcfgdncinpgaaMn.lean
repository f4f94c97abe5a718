/- Meters: the power of differences, both sides. -/
import Derived.Test.YtcpcfgdncinpgaaMm
import Derived.Test.YtcpcfgdncinpgaaEl
import Derived.Test.YtcpcfgdncinpgaaLf
set_option linter.unusedVariables false
set_option linter.unusedSimpArgs false
namespace Go.Proofs.Ytcpcfgdncinpgaa
open Fl Go.RowKit
/-- the dot of values with themselves -/
def dotY (X : Nat → O) : Nat → O
  | 0 => some 0
  | k + 1 => ad (dotY X k) (mu (X k) (X k))
theorem dotO_dotY {xs : List Nat} {X : Nat → O} : ∀ {n : Nat}, (∀ k, k < n → ab .f32 (wd xs k) = X k) → dotO xs xs n = dotY X n
  | 0, _ => rfl
  | n + 1, h => by
    show opO .add .f32 (dotO xs xs n) (opO .mul .f32 (ab .f32 (wd xs n)) (ab .f32 (wd xs n))) = ad (dotY X n) (mu (X n) (X n))
    rw [dotO_dotY (n := n) fun k hk => h k (by omega), h n (by omega)]
def difY (X : Nat → O) (lag k : Nat) : O := su (X k) (X (k + lag))
def lagY (X : Nat → O) (lag count : Nat) : O := dotY (difY X lag) count
set_option maxHeartbeats 4000000 in
set_option maxRecDepth 100000 in
theorem specLag_any (A : Option Addr) (n c : Nat) (xs : List Nat) (lag count : Nat) (w : World) (hA : Fs w w.heap.size A n xs) (hn : n ≤ 256) (hl : count + lag ≤ n) :
    Calls Try.prog 66 #[.slice A n c, .int .i64 lag, .int .i64 count] w fun e w' => ∃ r, e = .returned (.float .f32 r) ∧ Hid (Fv .f32 r (lagY (fun k => ab .f32 (wd xs k)) lag count)) ∧ w.Since w.heap.size w' := by
  have HA := Lib.hid hA
  clear hA
  go_enter Try.func66, Try.ntmps66
  go_wp2
  go_loopw [7, 8] (fun v i wr => ∃ k : Nat, k ≤ count ∧ i = .int .i64 k ∧ Rw w.heap.size wr v k (difY (fun k => ab .f32 (wd xs k)) lag) ∧ w.Since w.heap.size wr) (fun _ i _ => count - (intOf i).toNat)
  case atStart => exact ⟨0, Nat.zero_le _, rfl, Rw.start w _ (Nat.le_refl _) _, (World.Since.refl _ _).alloc (Nat.le_refl _) _⟩
  case round =>
    obtain ⟨k, hk, rfl, hr, hs⟩ := hrel
    have HR := Lib.hid hr; have HS := Lib.hid hs
    clear hr hs
    by_cases hlt : k < count
    · obtain ⟨g, off, rfl, hg, hc⟩ := HA.out.2.2 (by omega)
      have d1 : wr.cell? ⟨g, off + k, none⟩ = some (.float .f32 (wd xs k)) := (HS.out.cell (a := ⟨g, off + k, none⟩) hg).trans (hc k (by omega))
      have d2 : wr.cell? ⟨g, off + (k + lag), none⟩ = some (.float .f32 (wd xs (k + lag))) := (HS.out.cell (a := ⟨g, off + (k + lag), none⟩) hg).trans (hc (k + lag) (by omega))
      have x1 : Hid (Fv .f32 (wd xs k) (ab .f32 (wd xs k))) := Lib.hid ⟨HA.out.2.1.at_ k, rfl⟩
      have x2 : Hid (Fv .f32 (wd xs (k + lag)) (ab .f32 (wd xs (k + lag)))) := Lib.hid ⟨HA.out.2.1.at_ (k + lag), rfl⟩
      have hsz := HS.out.size
      clear hc
      go_wp2_with fail
      refine Lo.wp_looseF_tail [26] 12 _ rfl rfl (by kernel_rfl) (by kernel_rfl) (fun _ _ _ h => h) ?_
      simp only [Nat.reduceSub, List.take_succ_cons, List.take_zero, List.drop_succ_cons, List.drop_zero, Act.eval, Act.put, List.setIfInBounds_toArray, List.set_cons_succ, List.set_cons_zero, Array.getD_eq_getD_getElem?, List.getElem?_toArray, List.getElem?_cons_succ, List.getElem?_cons_zero, Option.getD_some]
      repeat (first
        | (refine Lo.wpL_move rfl _ (.inl rfl) (by decide) ?_; simp only [Act.put, List.setIfInBounds_toArray, List.set_cons_succ, List.set_cons_zero])
        | (refine Lo.wpL_move rfl _ (.inr rfl) (by decide) ?_; simp only [Act.put, List.setIfInBounds_toArray, List.set_cons_succ, List.set_cons_zero])
        | (refine Lo.wpL_fop rfl _ _ _ _ rfl rfl (by decide) _ _ _ _ _ rfl rfl (by assumption) (by assumption) ?_; intro rr hrr; simp only [Act.put, List.setIfInBounds_toArray, List.set_cons_succ, List.set_cons_zero])
        | (refine Lo.wpL_wide rfl _ _ _ rfl (by decide) _ _ rfl (by kernel_rfl) (by kernel_rfl) (by assumption) ?_; intro rr hrr; simp only [Act.put, List.setIfInBounds_toArray, List.set_cons_succ, List.set_cons_zero])
        | (refine Lo.wpL_quiet rfl (by decide) (fun K hK => ?_); go_big_quiet_op; (refine hK _ ?_; clear hK K)))
      refine Lo.wpL_nil ?_
      refine Lo.after_fl rfl (by assumption) ?_; intro q26 h26; simp only [Act.put, List.setIfInBounds_toArray, List.set_cons_succ, List.set_cons_zero]
      refine Lo.after_nil ?_; intro nq
      have hy : Hid (Fv .f32 q26 (difY (fun k => ab .f32 (wd xs k)) lag k)) := h26
      go_wp2_with (first | (at_builtin; refine wpList_app1 rfl (.tmp 15) (.tmp 27) rfl w.heap.size _ k _ rfl _ _ rfl (by simp [go_sem]) (by omega) (by simp; omega) hy ((HR.out.drewN _).alloc _) ?_; intro v' w3 hR3 hS3))
      go_roundw
      case rel => exact ⟨k + 1, by omega, by go_num, hR3.out, HS.out.trans (((since_drewN (World.Since.refl _ _) _).alloc hsz _).trans hS3.out)⟩
      case measure => simp [intOf]; omega
    · obtain rfl : k = count := by omega
      obtain ⟨⟨pA, pn, px⟩, cp, rfl, hp, hg, ha⟩ := HR.out.done
      simp only at hp hg; subst hp
      have HG := Lib.hid hg.read; have HAA := Lib.hid ha; clear hg ha
      go_wp2_with fail
      refine (specDot0_any pA pA pn cp cp px px _ _ HG.out HG.out (by omega)).mono ?_
      rintro e w' ⟨r, m, rfl, hv, rfl⟩
      rw [dotO_dotY HAA.out] at hv
      have HV := Lib.hid hv; clear hv
      go_wp2
      go_ret
      exact ⟨r, rfl, HV, since_drewN HS.out m⟩
theorem lag_in {count lag : Int} {n : Nat} (h1 : inB count 1 n = true) (h2 : inB lag 0 (n - count) = true) : ∃ c l : Nat, count = c ∧ lag = l ∧ 1 ≤ c ∧ c + l ≤ n := by
  simp only [inB, Bool.and_eq_true, decide_eq_true_eq] at h1 h2
  exact ⟨count.toNat, lag.toNat, by omega, by omega, by omega, by omega⟩
def okLag (n : Nat) (lag count : Int) : Bool := decide (n ≤ 256) && inB count 1 n && inB lag 0 (n - count)
set_option maxHeartbeats 4000000 in
set_option maxRecDepth 100000 in
theorem specLagP_any (A : Option Addr) (n c : Nat) (xs : List Nat) (lag count : Int) (w : World) (hA : Fs w w.heap.size A n xs) (hn : n ≤ 1048576) (Z : O)
    (hZ : Hid (Z = if okLag n lag count then lagY (fun k => ab .f32 (wd xs k)) lag.toNat count.toNat else some 0)) :
    Calls Try.prog 28 #[.slice A n c, .int .i64 lag, .int .i64 count] w (PVB Z (okLag n lag count) w) := by
  have HA := Lib.hid hA
  clear hA
  cases h0 : decide (n ≤ 256)
  · have hfew : decide ((n : Int) ≤ 256) = false := decide_eq_false (by have := of_decide_eq_false h0; omega)
    have e1 : okLag n lag count = false := by unfold okLag; rw [h0]; rfl
    rw [e1] at hZ ⊢
    obtain rfl := hZ.out
    clear hZ
    go_enter Try.func28, Try.ntmps28
    go_wp2_with (first | (go_at_call 50; refine (specFew_any _ _ _ _ _ hfew).mono ?_; rintro e w' ⟨rfl, rfl⟩))
    go_ret2
    exact ⟨0, rfl, fv0, World.Since.refl _ _⟩
  · have hfew : decide ((n : Int) ≤ 256) = true := decide_eq_true (by have := of_decide_eq_true h0; omega)
    cases h1 : inB count 1 n
    · have e1 : okLag n lag count = false := by unfold okLag; rw [h0, h1]; rfl
      rw [e1] at hZ ⊢
      obtain rfl := hZ.out
      clear hZ
      go_enter Try.func28, Try.ntmps28
      go_wp2_with (first | (go_at_call 50; refine (specFew_any _ _ _ _ _ hfew).mono ?_; rintro e w' ⟨rfl, rfl⟩) | (go_at_call 58; with_reducible refine (specHold_b count 1 n false _ h1).mono ?_; rintro e w' ⟨rfl, rfl⟩))
      go_ret2
      exact ⟨0, rfl, fv0, World.Since.refl _ _⟩
    · have hb : 1 ≤ count ∧ count ≤ n := by simpa [inB] using h1
      have hb1 := hb.1; have hb2 := hb.2
      have hn2 := of_decide_eq_true h0
      cases h2 : inB lag 0 (n - count)
      · have e1 : okLag n lag count = false := by unfold okLag; rw [h0, h1, h2]; rfl
        rw [e1] at hZ ⊢
        obtain rfl := hZ.out
        clear hZ
        go_enter Try.func28, Try.ntmps28
        go_wp2_with (first | (go_at_call 50; refine (specFew_any _ _ _ _ _ hfew).mono ?_; rintro e w' ⟨rfl, rfl⟩) | (go_at_call 58; with_reducible refine (specHold_b count 1 n true _ h1).mono ?_; rintro e w' ⟨rfl, rfl⟩) | (go_at_call 58; with_reducible refine (specHold_b lag 0 (n - count) false _ h2).mono ?_; rintro e w' ⟨rfl, rfl⟩))
        go_ret2
        exact ⟨0, rfl, fv0, World.Since.refl _ _⟩
      · have e1 : okLag n lag count = true := by unfold okLag; rw [h0, h1, h2]; rfl
        rw [e1] at hZ ⊢
        obtain ⟨cN, lN, rfl, rfl, hc1, hcl⟩ := lag_in h1 h2
        obtain rfl := hZ.out
        clear hZ
        simp only [if_true, Int.toNat_natCast]
        have HL := Lib.hid fun v s => specLag_any A n c xs lN cN v s hn2 hcl
        go_enter Try.func28, Try.ntmps28
        go_wp2_with (first | (go_at_call 50; refine (specFew_any _ _ _ _ _ hfew).mono ?_; rintro e w' ⟨rfl, rfl⟩) | (go_at_call 58; with_reducible refine (specHold_b cN 1 n true _ h1).mono ?_; rintro e w' ⟨rfl, rfl⟩) | (go_at_call 58; with_reducible refine (specHold_b lN 0 (n - cN) true _ h2).mono ?_; rintro e w' ⟨rfl, rfl⟩) | fail)
        refine (HL.out _ HA.out).mono ?_
        rintro e w' ⟨r, rfl, hv, hs⟩
        have HS := Lib.hid hs; clear hs
        go_wp2
        go_ret2
        exact ⟨r, rfl, hv, HS.out⟩
end Go.Proofs.Ytcpcfgdncinpgaa
