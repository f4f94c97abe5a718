/- Rates: the laws of RaiseBy and LowerBy. -/
import Derived.Test.YtdibobheggffnaaTj
import Derived.Test.YtdibobheggffnaaTg
set_option linter.unusedVariables false
set_option linter.unusedSimpArgs false
namespace Go.Proofs.Ytdibobheggffnaa
open Fl Go.RowKit
set_option maxHeartbeats 4000000 in
theorem implZeros_no (A : Option Addr) (a2 : Addr) (t c n c2 : Nat) (w : World) (F : Nat → O) (ht : t ≤ 1048576) (hn : n ≤ 1048576) (h : ¬ (inB (t : Int) 1 32 = true ∧ n ≤ 256)) :
    Calls Try.prog 83 #[.slice A t c, .slice (some a2) n c2] w (PEB 0 F false w) := by
  cases h1 : inB (t : Int) 1 32
  · go_enter Try.func83, Try.ntmps83
    go_wp2_with (go_at_call 59; refine (implTaps_b _ _ _ _ _ h1).mono ?_; rintro e w' ⟨rfl, rfl⟩)
    go_ret2
    exact PEB.none_ (by (repeat (first | (with_reducible refine Fl.sinDrew ?_) | (with_reducible refine World.Since.drew ?_) | (with_reducible refine Fl.sinSet ?_ ?_; rotate_left) | (with_reducible refine Fl.sinAlloc ?_ ?_; rotate_left) | with_reducible exact World.Since.refl _ _ | with_reducible assumption | (with_reducible refine Fl.sinStep (by with_reducible assumption) ?_))); all_goals (first | omega | (simp; done) | (simp; omega) | (simp [go_sem]; done) | (simp [go_sem]; omega))) _
  · have hb := h1
    simp only [inB, Bool.and_eq_true, decide_eq_true_eq] at hb
    obtain ⟨l, hl⟩ : ∃ l, l = t - 1 := ⟨_, rfl⟩
    have el : (t : Int) - 1 = (l : Nat) := by omega
    have hmk := fun W => run_make_row' (P := Try.prog) 22 46 (.float .f32 0) 4 Try.underlying22 Try.infoF rfl .i64 .i64 l (by omega) (by omega) W
    obtain ⟨W, hW⟩ : ∃ W, W = w.alloc (.cells (madeCells #[.float .f32 0] l) 46) := ⟨_, rfl⟩
    have S0 : Hid (w.Since w.heap.size W) := Lib.hid (by rw [hW]; exact (World.Since.refl _ _).alloc (Nat.le_refl _) _)
    have hok : okFold t l n = false := by
      unfold okFold
      rw [h1, Bool.true_and]
      have : decide ((n : Int) ≤ 256) = false := decide_eq_false (fun h2 => h ⟨h1, by omega⟩)
      rw [this, Bool.and_false]
    have HF := Lib.hid (implFoldT_no A (some ⟨w.heap.size, 0, none⟩) (some a2) t c l n l c2 F F W ht (by omega) hok)
    have hl3 : l ≤ 31 := by omega
    clear hl h hok
    go_enter Try.func83, Try.ntmps83
    go_wp2_with (first
      | (go_at_call 59; refine (implTaps_b _ _ _ _ _ h1).mono ?_; rintro e w' ⟨rfl, rfl⟩)
      | (go_at_call 24; rw [← hW]; refine HF.out.mono ?_; rintro e w1 ⟨p, q, cp, cq, rfl, k1, k2, k3, k4, k5, k6, k7, k8⟩; have H1 := Lib.hid k1; have H3 := Lib.hid k3; have H5 := Lib.hid k5; have H8 := Lib.hid k8; clear k1 k2 k3 k4 k5 k6 k7 k8))
    go_ret2
    exact ⟨p, cp, rfl, H1.out, H3.out.less S0.out.size, H5.out, S0.out.trans (since_mono H8.out S0.out.size)⟩
set_option maxHeartbeats 4000000 in
theorem implRaise_ok (A : Option Addr) (A2 : Option Addr) (t c n c2 f : Nat) (ts xs : List Nat) (w : World) (hA : Fs w w.heap.size A t ts) (hA2 : Fs w w.heap.size A2 n xs) (ht : 1 ≤ t) (ht2 : t ≤ 32) (hn : n ≤ 256) (hf : 1 ≤ f) (hf2 : f ≤ 8) (hfn : n * f ≤ 256) :
    Calls Try.prog 45 #[.int .i64 f, .slice A t c, .slice A2 n c2] w (PEB (n * f) (raiF ts xs f t) true w) := by
  have HA := Lib.hid hA; have HA2 := Lib.hid hA2
  have HS := Lib.hid (implSpreadS_ok A2 n c2 f xs w hA2 hn hf hf2 (by rw [Nat.mul_comm]; exact hfn))
  obtain ⟨m, hm⟩ : ∃ m, m = n * f := ⟨_, rfl⟩
  rw [← hm] at HS hfn ⊢
  clear hA hA2 hm
  go_enter Try.func45, Try.ntmps45
  go_wp2_with (first
    | (go_at_call 17; refine HS.out.mono ?_; rintro e w1 ⟨b, qs, rfl, h1, h2, h3⟩)
    | (go_at_call 83; refine (implZeros_ok A t c m m ⟨b, 0, none⟩ ts qs (sprF xs f) w1 (HA.out.now h3.out) h1.out.read h2.out ht ht2 hfn).mono ?_; rintro e w2 ⟨p, cp, rfl, k1, k2, k3, k4⟩; have K1 := Lib.hid k1; have K2 := Lib.hid k2; have K3 := Lib.hid k3; have K4 := Lib.hid k4; clear k1 k2 k3 k4))
  go_ret2
  exact ⟨p, cp, rfl, K1.out, K2.out.less h3.out.size, K3.out, h3.out.trans (since_mono K4.out h3.out.size)⟩
set_option maxHeartbeats 4000000 in
theorem implRaise_no (A A2 : Option Addr) (t c n c2 : Nat) (xs : List Nat) (f : Int) (F : Nat → O) (w : World) (hA2 : Fs w w.heap.size A2 n xs) (ht : t ≤ 1048576) (hn : n ≤ 1048576) (h : okRaise f t n = false) :
    Calls Try.prog 45 #[.int .i64 f, .slice A t c, .slice A2 n c2] w (PEB 0 F false w) := by
  cases hs : okSpr f n
  · go_enter Try.func45, Try.ntmps45
    go_wp2_with (go_at_call 17; refine (implSpread_no A2 n c2 f w hn hs F).mono ?_; rintro e w1 ⟨p, cp, rfl, k1, k2, k3, k4⟩; have K4 := Lib.hid k4; clear k1 k2 k3 k4)
    go_ret2
    exact PEB.none_ K4.out _
  · obtain ⟨f', rfl, hf, hf2, hfn, hn2⟩ := okSpr_nat hs
    have HS := Lib.hid (implSpreadS_ok A2 n c2 f' xs w hA2 hn2 hf hf2 hfn)
    have hb : ¬ inB (t : Int) 1 32 = true := fun hb => by
      unfold okRaise at h
      unfold okSpr at hs
      rw [Bool.and_eq_true] at hs
      rw [hs.1, hb, hs.2] at h
      cases h
    obtain ⟨m, hm⟩ : ∃ m, m = n * f' := ⟨_, rfl⟩
    have hm2 : m ≤ 256 := by rw [hm, Nat.mul_comm]; exact hfn
    rw [← hm] at HS
    clear hA2 hm h hs
    go_enter Try.func45, Try.ntmps45
    go_wp2_with (first
      | (go_at_call 17; refine HS.out.mono ?_; rintro e w1 ⟨b, qs, rfl, h1, h2, h3⟩)
      | (go_at_call 83; refine (implZeros_no A ⟨b, 0, none⟩ t c m m w1 F ht (by omega) (fun h => hb h.1)).mono ?_; rintro e w2 ⟨p, cp, rfl, k1, k2, k3, k4⟩; have K1 := Lib.hid k1; have K2 := Lib.hid k2; have K3 := Lib.hid k3; have K4 := Lib.hid k4; clear k1 k2 k3 k4))
    go_ret2
    exact ⟨p, cp, rfl, K1.out, K2.out.less h3.out.size, K3.out, h3.out.trans (since_mono K4.out h3.out.size)⟩
set_option maxHeartbeats 4000000 in
theorem implLower_ok (A : Option Addr) (a2 : Addr) (t c n c2 f : Nat) (ts xs : List Nat) (w : World) (hA : Fs w w.heap.size A t ts) (hA2 : Fs w w.heap.size (some a2) n xs) (ht : 1 ≤ t) (ht2 : t ≤ 32) (hn : n ≤ 256) (hf : 1 ≤ f) (hf2 : f ≤ 8) :
    Calls Try.prog 47 #[.int .i64 f, .slice A t c, .slice (some a2) n c2] w (PEB (cntP n f 0) (lowF ts xs f t) true w) := by
  have HZ := Lib.hid (implZeros_ok A t c n c2 a2 ts xs (fun k => ab .f32 (wd xs k)) w hA hA2 (fun _ _ => rfl) ht ht2 hn)
  clear hA hA2
  go_enter Try.func47, Try.ntmps47
  go_wp2_with (first
    | (go_at_call 83; refine HZ.out.mono ?_; rintro e w1 ⟨p, cp, rfl, k1, k2, k3, k4⟩; have K1 := Lib.hid k1; have K2 := Lib.hid k2; have K3 := Lib.hid k3; have K4 := Lib.hid k4; clear k1 k2 k3 k4)
    | (go_at_call 22; refine (implPick_ok p.A p.n cp f 0 p.xs _ K2.out.readF (by rw [K1.out]; exact hn) hf hf2 hf).mono ?_; rintro e w2 ⟨p', cp', rfl, m1, m2, m3, m4⟩; have M1 := Lib.hid m1; have M2 := Lib.hid m2; have M3 := Lib.hid m3; have M4 := Lib.hid m4; clear m1 m2 m3 m4))
  go_ret2
  have hn0 := K1.out
  refine ⟨p', cp', rfl, by rw [M1.out, hn0], (M2.out.less K4.out.size).toE, ?_, K4.out.trans (since_mono M4.out K4.out.size)⟩
  exact pick_are (m := 0) hf (show Are ⟨p.A, p.n, p.xs⟩ _ from K3.out) M1.out M3.out
set_option maxHeartbeats 4000000 in
theorem implLower_no (A : Option Addr) (a2 : Addr) (t c n c2 : Nat) (ts xs : List Nat) (f : Int) (F : Nat → O) (w : World) (hA : Fs w w.heap.size A t ts) (hA2 : Fs w w.heap.size (some a2) n xs) (ht : t ≤ 1048576) (hn : n ≤ 1048576) (h : okLower f t n = false) :
    Calls Try.prog 47 #[.int .i64 f, .slice A t c, .slice (some a2) n c2] w (PEB 0 F false w) := by
  by_cases hok : inB (t : Int) 1 32 = true ∧ n ≤ 256
  · have hb := hok.1
    simp only [inB, Bool.and_eq_true, decide_eq_true_eq] at hb
    have hf : okPick f 0 n = false := by
      unfold okLower at h
      unfold okPick
      rw [hok.1, decide_eq_true (show (n : Int) ≤ 256 by omega), Bool.and_true, Bool.and_true] at h
      rw [h, Bool.false_and, Bool.false_and]
    have HZ := Lib.hid (implZeros_ok A t c n c2 a2 ts xs (fun k => ab .f32 (wd xs k)) w hA hA2 (fun _ _ => rfl) (by omega) (by omega) hok.2)
    clear hA hA2 hb hok
    go_enter Try.func47, Try.ntmps47
    go_wp2_with (first
      | (go_at_call 83; refine HZ.out.mono ?_; rintro e w1 ⟨p, cp, rfl, k1, k2, k3, k4⟩; have K1 := Lib.hid k1; have K4 := Lib.hid k4; clear k1 k2 k3 k4)
      | (go_at_call 22; refine (implPick_no p.A p.n cp f 0 _ (by rw [K1.out]; exact hf) F).mono ?_; rintro e w2 ⟨p', cp', rfl, m1, m2, m3, m4⟩; have M1 := Lib.hid m1; have M2 := Lib.hid m2; have M3 := Lib.hid m3; have M4 := Lib.hid m4; clear m1 m2 m3 m4))
    go_ret2
    exact ⟨p', cp', rfl, M1.out, (M2.out.less K4.out.size).toE, M3.out, K4.out.trans (since_mono M4.out K4.out.size)⟩
  · go_enter Try.func47, Try.ntmps47
    go_wp2_with (go_at_call 83; refine (implZeros_no A a2 t c n c2 w F ht hn hok).mono ?_; rintro e w1 ⟨p, cp, rfl, k1, k2, k3, k4⟩; have K4 := Lib.hid k4; clear k1 k2 k3 k4)
    go_ret2
    exact PEB.none_ K4.out _
theorem lawRaiseBy_any (f : Int) (A : Option Addr) (t c : Nat) (ts : List Nat) (A2 : Option Addr) (n c2 : Nat) (xs : List Nat) (w : World) (wf : (Lit.int .i64 f).wf = true) (h0 : Fs w w.heap.size A t ts) (m0 : t ≤ 9223372036854775807) (h2 : Fs w w.heap.size A2 n xs) (m2 : n ≤ 9223372036854775807) :
    Calls Try.prog 13 #[.int .i64 f, .slice A t c, .slice A2 n c2] w fun e w' => e = .returned (.bool true) ∧ w.Since w.heap.size w' := by
  by_cases b0 : 1048576 < t
  · exact lawRaiseBy_big f A t c A2 n c2 w (.inl b0)
  by_cases b2 : 1048576 < n
  · exact lawRaiseBy_big f A t c A2 n c2 w (.inr b2)
  cases hok : okRaise f t n
  · exact lawRaiseBy_gen f A t c ts A2 n c2 xs 0 (fun _ => none) false w h0 (by omega) h2 (by omega) (by omega) (fun v g g2 _ _ => specRaise_no _ _ t _ n _ f _ v (by omega) (by omega) hok) (fun v g g2 _ k2 => implRaise_no _ _ t _ n _ xs f _ v k2 (by omega) (by omega) hok)
  · unfold okRaise at hok
    simp only [Bool.and_eq_true] at hok
    obtain ⟨⟨k1, k2⟩, k3⟩ := hok
    obtain ⟨f', rfl, hf, hf2, hfn, hn2⟩ := okSpr_nat (f := f) (n := n) (by unfold okSpr; rw [k1, k3]; rfl)
    simp only [inB, Bool.and_eq_true, decide_eq_true_eq] at k2
    rw [Nat.mul_comm] at hfn
    exact lawRaiseBy_gen f' A t c ts A2 n c2 xs (n * f') _ true w h0 (by omega) h2 (by omega) (by omega) (fun v g g2 q1 q2 => specRaise_ok _ _ t _ n _ f' ts xs v q1 q2 (by omega) (by omega) hn2 hf hf2 hfn) (fun v g g2 q1 q2 => implRaise_ok _ _ t _ n _ f' ts xs v q1 q2 (by omega) (by omega) hn2 hf hf2 hfn)
theorem lawLowerBy_any (f : Int) (A : Option Addr) (t c : Nat) (ts : List Nat) (A2 : Option Addr) (n c2 : Nat) (xs : List Nat) (w : World) (wf : (Lit.int .i64 f).wf = true) (h0 : Fs w w.heap.size A t ts) (m0 : t ≤ 9223372036854775807) (h2 : Fs w w.heap.size A2 n xs) (m2 : n ≤ 9223372036854775807) :
    Calls Try.prog 14 #[.int .i64 f, .slice A t c, .slice A2 n c2] w fun e w' => e = .returned (.bool true) ∧ w.Since w.heap.size w' := by
  by_cases b0 : 1048576 < t
  · exact lawLowerBy_big f A t c A2 n c2 w (.inl b0)
  by_cases b2 : 1048576 < n
  · exact lawLowerBy_big f A t c A2 n c2 w (.inr b2)
  cases hok : okLower f t n
  · exact lawLowerBy_gen f A t c ts A2 n c2 xs 0 (fun _ => none) false w h0 (by omega) h2 (by omega) (by omega) (fun v g g2 _ _ => specLower_no _ _ t _ n _ f _ v (by omega) (by omega) hok) (fun v g g2 k1 k2 => implLower_no _ _ t _ n _ ts xs f _ v k1 k2 (by omega) (by omega) hok)
  · unfold okLower at hok
    simp only [inB, Bool.and_eq_true, decide_eq_true_eq] at hok
    obtain ⟨f', rfl⟩ : ∃ f' : Nat, f = f' := ⟨f.toNat, by omega⟩
    have hc := cntP_le (n := n) (f := f') (t := 0) (by omega)
    exact lawLowerBy_gen f' A t c ts A2 n c2 xs (cntP n f' 0) _ true w h0 (by omega) h2 (by omega) (by omega) (fun v g g2 q1 q2 => specLower_ok _ _ t _ n _ f' ts xs v q1 q2 (by omega) (by omega) (by omega) (by omega) (by omega)) (fun v g g2 q1 q2 => implLower_ok _ _ t _ n _ f' ts xs v q1 q2 (by omega) (by omega) (by omega) (by omega) (by omega))
end Go.Proofs.Ytdibobheggffnaa
