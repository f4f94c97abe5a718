/- Voices: PlayLoop of both sides. -/
import Derived.Test.YtlodnikboekdpaaVi
import Derived.Test.YtlodnikboekdpaaLf
set_option linter.unusedVariables false
set_option linter.unusedSimpArgs false
namespace Go.Proofs.Ytlodnikboekdpaa
open Fl Go.RowKit
def SameV (a b : World) : Prop := a = b
/-- a place brought back into a loop that begins at F and is L long -/
def backN (F L p : Nat) : Nat := if p < F + L then p else F + (p - F) % L
theorem backN_lt {F L p : Nat} (hL : 0 < L) : backN F L p < F + L := by
  unfold backN
  split
  · assumption
  · have := Nat.mod_lt (p - F) hL; omega
theorem backN_sub {F L p : Nat} (hL : 0 < L) (h : F + L ≤ p) : backN F L (p - L) = backN F L p := by
  unfold backN
  rw [if_neg (show ¬ p < F + L by omega)]
  by_cases h2 : p - L < F + L
  · rw [if_pos h2, Nat.mod_eq_sub_mod (by omega), Nat.mod_eq_of_lt (by omega)]; omega
  · rw [if_neg h2, Nat.mod_eq_sub_mod (show p - F ≥ L by omega), show p - L - F = p - F - L by omega]
theorem backN_in {F L p : Nat} (h : p < F + L) : backN F L p = p := if_pos h
def lpS (be fi : Nat) (X : Nat → O) (i : Nat) : O := if i = be then X fi else X i
theorem plc_loop {F L f s k : Nat} (hL : 0 < L) : plc (backN F L) f s k < F + L := by
  cases k
  · exact backN_lt hL
  · exact backN_lt hL
set_option maxHeartbeats 2000000 in
theorem specBack_any (fi be p F L : Nat) (w : World) (hF : F = 65536 * fi) (hL : L = 65536 * (be - fi)) (h1 : fi < be) (h2 : be ≤ 256) (hp : p ≤ 200000000) :
    Calls Try.prog 96 #[.int .i64 (fi : Int), .int .i64 (be : Int), .int .i64 (p : Int)] w fun e w' => e = .returned (.int .i64 ((backN F L p : Nat) : Int)) ∧ w = w' := by
  have hL0 : 0 < L := by omega
  go_enter Try.func96, Try.ntmps96
  go_wp2
  go_loopw [2] (fun v wr => ∃ q : Nat, v = .int .i64 q ∧ q ≤ p ∧ backN F L q = backN F L p ∧ SameV w wr) (fun v _ => (intOf v).toNat)
  case atStart => exact ⟨p, rfl, Nat.le_refl _, rfl, rfl⟩
  case round =>
    obtain ⟨q, rfl, hq, hb, hw⟩ := hrel
    have HB := Lib.hid hb; have HW := Lib.hid hw; clear hb hw
    by_cases hlt : 65536 * be ≤ q
    · have hd : decide ((65536 : Int) * (be : Int) ≤ (q : Int)) = true := decide_eq_true (by omega)
      have hd2 : (65536 : Int) * (be : Int) ≤ (q : Int) := by omega
      go_wp2
      go_roundw
      case rel => exact ⟨q - L, by go_num, by omega, by rw [← HB.out]; exact backN_sub hL0 (by omega), HW.out⟩
      case measure => simp [intOf]; omega
    · have he : backN F L p = q := by rw [← HB.out]; exact backN_in (by omega)
      have hd : decide ((65536 : Int) * (be : Int) ≤ (q : Int)) = false := decide_eq_false (by omega)
      have hd2 : ¬ (65536 : Int) * (be : Int) ≤ (q : Int) := by omega
      go_wp2
      go_ret
      exact ⟨by rw [← hF, ← hL, he]; rfl, HW.out⟩
theorem btO_ex {a b : Nat} {A B : O} (r : Nat) (ha : Hid (Fv .f32 a A)) (hb : Hid (Fv .f32 b B)) : ∃ q, Fv .f32 q (btO A B r) := by
  unfold btO
  split
  · exact ⟨a, ha.out⟩
  · obtain ⟨q1, h1⟩ := Lo.fv_ex (op := .sub) rfl .f32 _ _ _ _ hb.out ha.out
    obtain ⟨q2, h2⟩ := qu_ex r 65536
    obtain ⟨q3, h3⟩ := Lo.fv_ex (op := .mul) rfl .f32 _ _ _ _ h1 h2
    exact Lo.fv_ex (op := .add) rfl .f32 _ _ _ _ ha.out h3
theorem between_hc (a b p : Nat) (A B : O) (w : World) (ha : Hid (Fv .f32 a A)) (hb : Hid (Fv .f32 b B)) (hp : p ≤ 200000000) (m : Nat) :
    Calls Try.prog 90 #[.float .f32 a, .float .f32 b, .int .i64 p] (w.drewN m) fun e' w' => ∃ r n, e' = .returned (.float .f32 r) ∧ Fv .f32 r (btO A B (p % 65536)) ∧ w' = w.drewN n :=
  (specBetween_any a b p A B _ ha hb hp).mono fun e w' ⟨r, n, h1, h2, h3⟩ => ⟨r, m + n, h1, h2.out, h3.symm.trans (by simp [World.drewN, Nat.add_assoc])⟩
/-- what a loop asks of its numbers -/
def okLoop (n : Nat) (fi be f s c : Int) : Bool := okPlay n f s c && inB be 1 n && inB fi 0 (be - 1)
set_option maxHeartbeats 4000000 in
set_option maxRecDepth 100000 in
theorem specLoop_ok (A : Option Addr) (n cc : Nat) (xs : List Nat) (fi be f s c F L : Nat) (w : World) (hA : Fs w w.heap.size A n xs) (h : okPlay n f s c = true) (h1 : inB be 1 n = true) (h2 : inB fi 0 ((be : Int) - 1) = true) (hF : F = 65536 * fi) (hL : L = 65536 * (be - fi)) :
    Calls Try.prog 53 #[.slice A n cc, .int .i64 fi, .int .i64 be, .int .i64 f, .int .i64 s, .int .i64 c] w (PLIB c (plY (lpS be fi (fun k => ab .f32 (wd xs k))) (plc (backN F L) f s)) (plc (backN F L) f s c : Nat) true w) := by
  have hb := h; have hb1 := h1; have hb2 := h2
  simp only [okPlay, inB, Bool.and_eq_true, decide_eq_true_eq] at hb hb1 hb2
  have hL0 : 0 < L := by omega
  have HBK : Hid (∀ (i : Int) (p : Nat) (w : World), i = (p : Int) → p ≤ 200000000 → Calls Try.prog 96 #[.int .i64 (fi : Int), .int .i64 (be : Int), .int .i64 i] w fun e w' => e = .returned (.int .i64 ((backN F L p : Nat) : Int)) ∧ w = w') := Lib.hid (fun i p w hi hp => by subst hi; exact specBack_any fi be p F L w hF hL (by omega) (by omega) hp)
  have HPL := Lib.hid (fun k => plc_loop (F := F) (L := L) (f := f) (s := s) (k := k) hL0)
  have e0 : Hid (backN F L f = plc (backN F L) f s 0) := Lib.hid rfl
  have hFL : F + L = 65536 * be := by omega
  have HFL := Lib.hid hFL
  have HA := Lib.hid hA
  clear hA hF hL hFL hL0
  go_enter Try.func53, Try.ntmps53
  go_wp2_with (first | (go_at_call 89; refine (specPlay_b _ _ _ _ _ _ _ _ h).mono ?_; rintro e w' ⟨rfl, rfl⟩) | (go_at_call 65; with_reducible refine (specHold_b (be : Int) 1 (n : Int) _ _ h1).mono ?_; rintro e w' ⟨rfl, rfl⟩) | (go_at_call 65; with_reducible refine (specHold_b (fi : Int) 0 ((be : Int) - 1) _ _ h2).mono ?_; rintro e w' ⟨rfl, rfl⟩) | (go_at_call 96; refine (HBK.out _ f _ rfl (by omega)).mono ?_; rintro e w' ⟨rfl, rfl⟩))
  go_loopw [3, 5, 15, 16, 17] (fun fv cv v _ _ wr => ∃ k : Nat, k ≤ c ∧ cv = .int .i64 ((c - k : Nat) : Int) ∧ fv = .int .i64 ((plc (backN F L) f s k : Nat) : Int) ∧ Rw w.heap.size wr v k (plY (lpS be fi (fun k => ab .f32 (wd xs k))) (plc (backN F L) f s)) ∧ w.Since w.heap.size wr) (fun _ cv _ _ _ _ => (intOf cv).toNat)
  case atStart => exact ⟨0, Nat.zero_le _, rfl, rfl, Rw.start w _ (Nat.le_refl _) _, (World.Since.refl _ _).alloc (Nat.le_refl _) _⟩
  case round =>
    obtain ⟨k, hk, rfl, rfl, hr, hs⟩ := hrel
    have HR := Lib.hid hr; have HS := Lib.hid hs
    clear hr hs
    have hp := HPL.out k
    have eY : Hid (plY (lpS be fi (fun k => ab .f32 (wd xs k))) (plc (backN F L) f s) k = btO (lpS be fi (fun k => ab .f32 (wd xs k)) (plc (backN F L) f s k / 65536)) (lpS be fi (fun k => ab .f32 (wd xs k)) (plc (backN F L) f s k / 65536 + 1)) (plc (backN F L) f s k % 65536)) := Lib.hid rfl
    have eP : Hid (plc (backN F L) f s (k + 1) = backN F L (plc (backN F L) f s k + s)) := Lib.hid rfl
    generalize hP : plc (backN F L) f s k = p at *
    by_cases hlt : k < c
    · have e2 : ((p : Int).tdiv 65536) = ((p / 65536 : Nat) : Int) := by rw [Int.tdiv_eq_ediv_of_nonneg (by omega)]; omega
      have hq3 : p / 65536 < be := by have := HFL.out; omega
      obtain ⟨q, hq⟩ : ∃ q, p / 65536 = q := ⟨_, rfl⟩
      rw [hq] at e2 hq3
      rw [hq] at eY
      have hp2 : p ≤ 190000000 := by have := HFL.out; omega
      clear hq hP hp
      have hsz := HS.out.size
      have HF2 := Lib.hid (HA.out.now HS.out)
      obtain ⟨g, off, rfl, hg, hcc⟩ := HA.out.2.2 (by omega)
      have d1 := (HS.out.cell (a := ⟨g, off + q, none⟩) hg).trans (hcc q (by omega))
      have d2 := (HS.out.cell (a := ⟨g, off + fi, none⟩) hg).trans (hcc fi (by omega))
      have d3 := fun h => (HS.out.cell (a := ⟨g, off + (q + 1), none⟩) hg).trans (hcc (q + 1) h)
      have x1 : Hid (Fv .f32 (wd xs q) (ab .f32 (wd xs q))) := Lib.hid ⟨HA.out.2.1.at_ q, rfl⟩
      have x2 : Hid (Fv .f32 (wd xs fi) (ab .f32 (wd xs fi))) := Lib.hid ⟨HA.out.2.1.at_ fi, rfl⟩
      have x3 : Hid (Fv .f32 (wd xs (q + 1)) (ab .f32 (wd xs (q + 1)))) := Lib.hid ⟨HA.out.2.1.at_ (q + 1), rfl⟩
      clear hcc
      by_cases hqb : q + 1 = be
      · have z : lpS be fi (fun k => ab .f32 (wd xs k)) q = ab .f32 (wd xs q) := if_neg (by omega)
        have z' : lpS be fi (fun k => ab .f32 (wd xs k)) (q + 1) = ab .f32 (wd xs fi) := if_pos hqb
        rw [z, z'] at eY
        clear z z'
        clear d3 x3; have hqb2 : (q : Int) + 1 = be := by omega
        go_wp2_with fail
        refine Lo.wp_looseF_tail [65] 11 _ rfl rfl (by kernel_rfl) (by kernel_rfl) (fun _ _ _ h => h) ?_
        simp only [Nat.reduceSub, List.take_succ_cons, List.take_zero, List.drop_succ_cons, List.drop_zero, Act.eval, Act.put, List.setIfInBounds_toArray, List.set_cons_succ, List.set_cons_zero, Array.getD_eq_getD_getElem?, List.getElem?_toArray, List.getElem?_cons_succ, List.getElem?_cons_zero, Option.getD_some]
        repeat (first
          | (refine Lo.wpL_callF rfl 90 [.tmp 59, .tmp 63, .tmp 64] [.float .f32 (wd xs q), .float .f32 (wd xs fi), .int .i64 (p : Int)] _ rfl (by decide) (callsEnter 90 Try.f90 _ (by kernel_rfl) (by kernel_rfl) rfl) .f32 _ (Lo.keeps [59, 63, 64] _ rfl (by decide)) (between_hc _ _ p _ _ wr x1 x2 (by omega)) (btO_ex _ x1 x2) ?_; intro rr hrr; simp only [Act.put, List.setIfInBounds_toArray, List.set_cons_succ, List.set_cons_zero])
          | (refine Lo.wpL_move rfl _ (.inl rfl) (by decide) ?_; simp only [Act.put, List.setIfInBounds_toArray, List.set_cons_succ, List.set_cons_zero])
          | (refine Lo.wpL_move rfl _ (.inr rfl) (by decide) ?_; simp only [Act.put, List.setIfInBounds_toArray, List.set_cons_succ, List.set_cons_zero])
          | (refine Lo.wpL_fop rfl _ _ _ _ rfl rfl (by decide) _ _ _ _ _ rfl rfl (by assumption) (by assumption) ?_; intro rr hrr; simp only [Act.put, List.setIfInBounds_toArray, List.set_cons_succ, List.set_cons_zero])
          | (refine Lo.wpL_wide rfl _ _ _ rfl (by decide) _ _ rfl (by kernel_rfl) (by kernel_rfl) (by assumption) ?_; intro rr hrr; simp only [Act.put, List.setIfInBounds_toArray, List.set_cons_succ, List.set_cons_zero])
          | (refine Lo.wpL_quiet rfl (by decide) (fun K hK => ?_); go_big_quiet_op; (refine hK _ ?_; clear hK K)))
        refine Lo.wpL_nil ?_
        refine Lo.after_fl rfl (by assumption) ?_; intro q65 h65; simp only [Act.put, List.setIfInBounds_toArray, List.set_cons_succ, List.set_cons_zero]
        refine Lo.after_nil ?_; intro nq
        rw [← eY.out] at h65
        go_wp2_with (first | (at_builtin; refine wpList_app1 rfl (.tmp 55) (.tmp 66) rfl w.heap.size _ k _ rfl _ _ rfl (by simp [go_sem]) (by omega) (by simp; omega) h65 ((HR.out.drewN _).alloc _) ?_; intro v' w3 hR3 hS3) | (go_at_call 96; refine (HBK.out _ (p + s) _ (by omega) (by omega)).mono ?_; rintro e w' ⟨rfl, rfl⟩; rw [← eP.out]))
        go_roundw
        case rel => exact ⟨k + 1, by omega, by go_num, by go_num, hR3.out, HS.out.trans ((since_drewN ((World.Since.refl _ _).alloc hsz _) _).trans hS3.out)⟩
        case measure => simp [intOf]; omega
      · have z : lpS be fi (fun k => ab .f32 (wd xs k)) q = ab .f32 (wd xs q) := if_neg (by omega)
        have z' : lpS be fi (fun k => ab .f32 (wd xs k)) (q + 1) = ab .f32 (wd xs (q + 1)) := if_neg hqb
        rw [z, z'] at eY
        clear z z'
        have d4 := d3 (by omega); clear d3; have d5 : wr.cell? ⟨g, off + q + 1, none⟩ = some (.float .f32 (wd xs (q + 1))) := d4; have hqb2 : ¬ (q : Int) + 1 = be := by omega
        go_wp2_with fail
        refine Lo.wp_looseF_tail [65] 11 _ rfl rfl (by kernel_rfl) (by kernel_rfl) (fun _ _ _ h => h) ?_
        simp only [Nat.reduceSub, List.take_succ_cons, List.take_zero, List.drop_succ_cons, List.drop_zero, Act.eval, Act.put, List.setIfInBounds_toArray, List.set_cons_succ, List.set_cons_zero, Array.getD_eq_getD_getElem?, List.getElem?_toArray, List.getElem?_cons_succ, List.getElem?_cons_zero, Option.getD_some]
        repeat (first
          | (refine Lo.wpL_callF rfl 90 [.tmp 59, .tmp 63, .tmp 64] [.float .f32 (wd xs q), .float .f32 (wd xs (q + 1)), .int .i64 (p : Int)] _ rfl (by decide) (callsEnter 90 Try.f90 _ (by kernel_rfl) (by kernel_rfl) rfl) .f32 _ (Lo.keeps [59, 63, 64] _ rfl (by decide)) (between_hc _ _ p _ _ wr x1 x3 (by omega)) (btO_ex _ x1 x3) ?_; intro rr hrr; simp only [Act.put, List.setIfInBounds_toArray, List.set_cons_succ, List.set_cons_zero])
          | (refine Lo.wpL_move rfl _ (.inl rfl) (by decide) ?_; simp only [Act.put, List.setIfInBounds_toArray, List.set_cons_succ, List.set_cons_zero])
          | (refine Lo.wpL_move rfl _ (.inr rfl) (by decide) ?_; simp only [Act.put, List.setIfInBounds_toArray, List.set_cons_succ, List.set_cons_zero])
          | (refine Lo.wpL_fop rfl _ _ _ _ rfl rfl (by decide) _ _ _ _ _ rfl rfl (by assumption) (by assumption) ?_; intro rr hrr; simp only [Act.put, List.setIfInBounds_toArray, List.set_cons_succ, List.set_cons_zero])
          | (refine Lo.wpL_wide rfl _ _ _ rfl (by decide) _ _ rfl (by kernel_rfl) (by kernel_rfl) (by assumption) ?_; intro rr hrr; simp only [Act.put, List.setIfInBounds_toArray, List.set_cons_succ, List.set_cons_zero])
          | (refine Lo.wpL_quiet rfl (by decide) (fun K hK => ?_); go_big_quiet_op; (refine hK _ ?_; clear hK K)))
        refine Lo.wpL_nil ?_
        refine Lo.after_fl rfl (by assumption) ?_; intro q65 h65; simp only [Act.put, List.setIfInBounds_toArray, List.set_cons_succ, List.set_cons_zero]
        refine Lo.after_nil ?_; intro nq
        rw [← eY.out] at h65
        go_wp2_with (first | (at_builtin; refine wpList_app1 rfl (.tmp 55) (.tmp 66) rfl w.heap.size _ k _ rfl _ _ rfl (by simp [go_sem]) (by omega) (by simp; omega) h65 ((HR.out.drewN _).alloc _) ?_; intro v' w3 hR3 hS3) | (go_at_call 96; refine (HBK.out _ (p + s) _ (by omega) (by omega)).mono ?_; rintro e w' ⟨rfl, rfl⟩; rw [← eP.out]))
        go_roundw
        case rel => exact ⟨k + 1, by omega, by go_num, by go_num, hR3.out, HS.out.trans ((since_drewN ((World.Since.refl _ _).alloc hsz _) _).trans hS3.out)⟩
        case measure => simp [intOf]; omega
    · obtain rfl : k = c := by omega
      subst hP
      obtain ⟨p, cp, rfl, rfl, hg, ha⟩ := HR.out.done
      have HG := Lib.hid hg; have HAA := Lib.hid ha; clear hg ha
      go_wp2
      go_ret3
      exact ⟨p, cp, rfl, rfl, HG.out, HAA.out, HS.out⟩
end Go.Proofs.Ytlodnikboekdpaa
