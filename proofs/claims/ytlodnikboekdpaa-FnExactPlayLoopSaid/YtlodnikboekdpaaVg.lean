/- Voices: recordings. -/
import Derived.Test.YtlodnikboekdpaaVa
import Derived.Test.YtlodnikboekdpaaVb
set_option linter.unusedVariables false
set_option linter.unusedSimpArgs false
namespace Go.Proofs.Ytlodnikboekdpaa
open Fl Go.RowKit
def btO (a b : O) (r : Nat) : O := if r = 0 then a else ad a (mu (su b a) (qu (some (fI r)) (some (fI 65536))))
def smp (n : Nat) (X : Nat → O) (i : Nat) : O := if i < n then X i else some 0
theorem fI_65536 : fI 65536 = 1199570944 := by decide +kernel
theorem fv65536 : Hid (Fv .f32 1199570944 (some (fI 65536))) := by rw [fI_65536]; exact fvc (by decide) (by decide)
set_option maxHeartbeats 2000000 in
theorem specBetween_any (a b p : Nat) (A B : O) (w : World) (ha : Hid (Fv .f32 a A)) (hb : Hid (Fv .f32 b B)) (hp : p ≤ 200000000) :
    Calls Try.prog 90 #[.float .f32 a, .float .f32 b, .int .i64 p] w fun e' w' => ∃ r m, e' = .returned (.float .f32 r) ∧ Hid (Fv .f32 r (btO A B (p % 65536))) ∧ w.drewN m = w' := by
  have e1 : ((p : Int).tmod 65536) = ((p % 65536 : Nat) : Int) := by rw [Int.tmod_eq_emod_of_nonneg (by omega)]; omega
  obtain ⟨r, hr⟩ : ∃ r, p % 65536 = r := ⟨_, rfl⟩
  rw [hr] at e1 ⊢
  have hr2 : r < 65536 := by omega
  clear hr
  have k0 := fv65536
  unfold btO
  by_cases h : r = 0
  · rw [if_pos h]
    subst h
    go_enter Try.func90, Try.ntmps90
    go_wp2
    go_ret
    first | exact ⟨_, 0, rfl, ha, rfl⟩ | exact ⟨_, rfl, ha, 0, rfl⟩
  · rw [if_neg h]
    have q1 := fI_fv (r : Nat)
    go_enter Try.func90, Try.ntmps90
    go_wp2_with (with_reducible_and_instances refine Lo.wpList_fo _ rfl _ _ _ _ _ rfl _ _ _ _ _ rfl rfl rfl (by assumption) (by assumption) ?_; intro rr nn hrr)
    go_ret
    exact ⟨_, _, rfl, hrr, rfl⟩
theorem specSample_any (A : Option Addr) (n c : Nat) (xs : List Nat) (i : Int) (q : Nat) (w : World) (hA : Fs w w.heap.size A n xs) (hi : i = q) (hq : q ≤ 2000000) (hn : n ≤ 256) :
    Calls Try.prog 91 #[.slice A n c, .int .i64 i] w fun e w' => ∃ r, e = .returned (.float .f32 r) ∧ Hid (Fv .f32 r (smp n (fun k => ab .f32 (wd xs k)) q)) ∧ w = w' := by
  subst hi
  unfold smp
  by_cases h : q < n
  · rw [if_pos h]
    obtain ⟨g, off, rfl, hg, hc⟩ := hA.2.2 (by omega)
    have hcell := hc q h
    have hx : Hid (Fv .f32 (wd xs q) (ab .f32 (wd xs q))) := Lib.hid ⟨hA.2.1.at_ q, rfl⟩
    clear hc hA
    go_enter Try.func91, Try.ntmps91
    go_wp2
    go_ret
    exact ⟨_, rfl, hx, rfl⟩
  · rw [if_neg h]
    clear hA
    go_enter Try.func91, Try.ntmps91
    go_wp2
    go_ret
    exact ⟨_, rfl, fv0, rfl⟩
theorem specCount_b (c : Int) (b : Bool) (w : World) (h : inB c 0 256 = b) : Calls Try.prog 61 #[.int .i64 c] w fun e w' => e = .returned (.bool b) ∧ w = w' := by
  go_enter Try.func61, Try.ntmps61
  go_wp2_with (go_at_call 65; with_reducible refine (specHold_b c 0 256 _ _ h).mono ?_; rintro e w' ⟨rfl, rfl⟩)
  go_ret
  exact ⟨rfl, rfl⟩
def okPlay (n : Nat) (f s c : Int) : Bool := decide (1 ≤ n) && decide (n ≤ 256) && inB f 0 16777216 && inB s 0 655360 && inB c 0 256
theorem specPlay_b (A : Option Addr) (n cc : Nat) (f s c : Int) (b : Bool) (w : World) (h : okPlay n f s c = b) :
    Calls Try.prog 89 #[.slice A n cc, .int .i64 f, .int .i64 s, .int .i64 c] w fun e w' => e = .returned (.bool b) ∧ w = w' := by
  subst h
  unfold okPlay
  have h0 : (decide ((1 : Int) ≤ (n : Int))) = decide (1 ≤ n) := by simp; omega
  cases h1 : decide (1 ≤ n) <;> cases h2 : decide (n ≤ 256) <;> cases h3 : inB f 0 16777216 <;> cases h4 : inB s 0 655360 <;> cases h5 : inB c 0 256
  all_goals
    rw [h1] at h0
    have h2' : decide ((n : Int) ≤ 256) = decide (n ≤ 256) := by simp; omega
    rw [h2] at h2'
    clear h1 h2
    go_enter Try.func89, Try.ntmps89
    go_wp2_with (first | (go_at_call 113; refine (specFew_any _ _ _ _ _ h2').mono ?_; rintro e w' ⟨rfl, rfl⟩) | (go_at_call 65; with_reducible refine (specHold_b f 0 16777216 _ _ h3).mono ?_; rintro e w' ⟨rfl, rfl⟩) | (go_at_call 65; with_reducible refine (specHold_b s 0 655360 _ _ h4).mono ?_; rintro e w' ⟨rfl, rfl⟩) | (go_at_call 61; refine (specCount_b c _ _ h5).mono ?_; rintro e w' ⟨rfl, rfl⟩))
    go_ret
    exact ⟨rfl, rfl⟩
/-- the places of a player -/
def plc (T : Nat → Nat) (f0 st : Nat) : Nat → Nat
  | 0 => T f0
  | k + 1 => T (plc T f0 st k + st)
def plY (S : Nat → O) (P : Nat → Nat) (k : Nat) : O := btO (S (P k / 65536)) (S (P k / 65536 + 1)) (P k % 65536)
theorem plc_le (f0 st : Nat) (h1 : f0 ≤ 16777216) (h2 : st ≤ 655360) : ∀ k, k ≤ 256 → plc id f0 st k ≤ 16777216 + 655360 * k
  | 0, _ => by simpa [plc] using h1
  | k + 1, hk => by
    have := plc_le f0 st h1 h2 k (by omega)
    show plc id f0 st k + st ≤ _
    omega
set_option maxHeartbeats 4000000 in
set_option maxRecDepth 100000 in
theorem specRec_ok (A : Option Addr) (n cc : Nat) (xs : List Nat) (f s c : Nat) (w : World) (hA : Fs w w.heap.size A n xs) (h : okPlay n f s c = true) :
    Calls Try.prog 50 #[.slice A n cc, .int .i64 f, .int .i64 s, .int .i64 c] w (PLIB c (plY (smp n (fun k => ab .f32 (wd xs k))) (plc id f s)) (plc id f s c : Nat) true w) := by
  have hb := h
  simp only [okPlay, inB, Bool.and_eq_true, decide_eq_true_eq] at hb
  have HA := Lib.hid hA
  clear hA
  go_enter Try.func50, Try.ntmps50
  go_wp2_with (first | (go_at_call 89; refine (specPlay_b _ _ _ _ _ _ _ _ h).mono ?_; rintro e w' ⟨rfl, rfl⟩))
  go_loopw [1, 3, 11, 12] (fun fv cv v _ wr => ∃ k : Nat, k ≤ c ∧ cv = .int .i64 ((c - k : Nat) : Int) ∧ fv = .int .i64 ((plc id f s k : Nat) : Int) ∧ Rw w.heap.size wr v k (plY (smp n (fun k => ab .f32 (wd xs k))) (plc id f s)) ∧ w.Since w.heap.size wr) (fun _ cv _ _ _ => (intOf cv).toNat)
  case atStart => exact ⟨0, Nat.zero_le _, rfl, rfl, Rw.start w _ (Nat.le_refl _) _, (World.Since.refl _ _).alloc (Nat.le_refl _) _⟩
  case round =>
    obtain ⟨k, hk, rfl, rfl, hr, hs⟩ := hrel
    have HR := Lib.hid hr; have HS := Lib.hid hs
    clear hr hs
    have hp := plc_le f s (by omega) (by omega) k (by omega)
    have eY : Hid (plY (smp n (fun k => ab .f32 (wd xs k))) (plc id f s) k = btO (smp n (fun k => ab .f32 (wd xs k)) (plc id f s k / 65536)) (smp n (fun k => ab .f32 (wd xs k)) (plc id f s k / 65536 + 1)) (plc id f s k % 65536)) := Lib.hid rfl
    have eP : Hid (plc id f s (k + 1) = plc id f s k + s) := Lib.hid rfl
    generalize hP : plc id f s k = p at *
    by_cases hlt : k < c
    · have e2 : ((p : Int).tdiv 65536) = ((p / 65536 : Nat) : Int) := by rw [Int.tdiv_eq_ediv_of_nonneg (by omega)]; omega
      obtain ⟨q, hq⟩ : ∃ q, p / 65536 = q := ⟨_, rfl⟩
      rw [hq] at e2
      rw [hq] at eY
      have hq2 : q ≤ 1000000 := by omega
      clear hq hP
      have hsz := HS.out.size
      have F := HA.out.now HS.out
      have HF := Lib.hid F; clear F
      go_wp2_with (first | (go_at_call 91; with_reducible refine (specSample_any A n cc xs (q : Int) q _ HF.out rfl (by omega) (by omega)).mono ?_; rintro e w2 ⟨r1, rfl, hr1, rfl⟩) | (go_at_call 91; with_reducible refine (specSample_any A n cc xs ((q : Int) + 1) (q + 1) _ HF.out (by omega) (by omega) (by omega)).mono ?_; rintro e w2 ⟨r2, rfl, hr2, rfl⟩) | (go_at_call 90; refine (specBetween_any _ _ p _ _ _ hr1 hr2 (by omega)).mono ?_; rintro e w2 ⟨r3, m3, rfl, hr3, rfl⟩; rw [← eY.out] at hr3) | (at_builtin; refine wpList_app1 rfl (.tmp 26) (.tmp 36) rfl w.heap.size _ k _ rfl _ _ rfl (by simp [go_sem]) (by omega) (by simp; omega) hr3 ((HR.out.drewN _).alloc _) ?_; intro v' w3 hR3 hS3))
      go_roundw
      case rel => exact ⟨k + 1, by omega, by go_num, by rw [eP.out]; go_num, hR3.out, HS.out.trans ((since_drewN ((World.Since.refl _ _).alloc hsz _) _).trans hS3.out)⟩
      case measure => simp [intOf]; omega
    · obtain rfl : k = c := by omega
      subst hP
      obtain ⟨p, cp, rfl, rfl, hg, ha⟩ := HR.out.done
      have HG := Lib.hid hg; have HAA := Lib.hid ha; clear hg ha
      go_wp2
      go_ret3
      exact ⟨p, cp, rfl, rfl, HG.out, HAA.out, HS.out⟩
end Go.Proofs.Ytlodnikboekdpaa
