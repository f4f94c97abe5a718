/- Meters: two channels: how alike, and which is louder. -/
import Derived.Test.YtcpcfgdncinpgaaMo
set_option linter.unusedVariables false
set_option linter.unusedSimpArgs false
namespace Go.Proofs.Ytcpcfgdncinpgaa
open Fl Go.RowKit
def okTwo (n m : Nat) : Bool := decide (n ≤ 256) && decide (0 < n) && decide (n = m)
theorem specTwo_b (A C : Option Addr) (n c m d : Nat) (b : Bool) (w : World) (h : okTwo n m = b) :
    Calls Try.prog 84 #[.slice A n c, .slice C m d] w fun e w' => e = .returned (.bool b) ∧ w = w' := by
  subst h
  cases h0 : decide (n ≤ 256)
  · have hfew : decide ((n : Int) ≤ 256) = false := decide_eq_false (by have := of_decide_eq_false h0; omega)
    go_enter Try.func84, Try.ntmps84
    go_wp2_with (first | (go_at_call 50; refine (specFew_any _ _ _ _ _ hfew).mono ?_; rintro e w' ⟨rfl, rfl⟩))
    go_ret
    exact ⟨ret_bool (by unfold okTwo; rw [h0]; rfl), rfl⟩
  · have hfew : decide ((n : Int) ≤ 256) = true := decide_eq_true (by have := of_decide_eq_true h0; omega)
    by_cases h1 : 0 < n
    all_goals
      go_enter Try.func84, Try.ntmps84
      go_wp2_with (first | (go_at_call 50; refine (specFew_any _ _ _ _ _ hfew).mono ?_; rintro e w' ⟨rfl, rfl⟩))
      go_ret
      exact ⟨ret_bool (by unfold okTwo; rw [h0, Bool.eq_iff_iff]; simp; omega), rfl⟩
theorem chanClos_any (C : Option Addr) (m d n gb : Nat) (b : Bool) (W : World) (h : decide (m = n) = b) (hc : W.cell? ⟨gb, 0, none⟩ = some (.int .i64 (n : Int))) :
    Calls Try.prog 119 #[.slice C m d, .pointer (some ⟨gb, 0, none⟩)] W fun e w' => e = .returned (.bool b) ∧ W = w' := by
  subst h
  go_enter Try.func119, Try.ntmps119
  go_wp2
  go_ret
  exact ⟨ret_bool (by rw [Bool.eq_iff_iff]; simp; try omega), rfl⟩
theorem allTwo_any (p gb : Nat) (A C : Option Addr) (n c m d : Nat) (b : Bool) (W : World) (h : decide (m = n) = b) (hb : W.cell? ⟨gb, 0, none⟩ = some (.int .i64 (n : Int))) (h0 : W.cell? ⟨p, 0, none⟩ = some (.slice A n c)) (h1 : W.cell? ⟨p, 1, none⟩ = some (.slice C m d)) :
    Calls Try.prog 120 #[.slice (some ⟨p, 0, none⟩) 2 2, .func (.func 119) #[] #[.pointer (some ⟨gb, 0, none⟩)]] W fun e w' => e = .returned (.bool b) ∧ W = w' := by
  go_enter Try.func120, Try.ntmps120
  go_wp2
  go_loopw [9] (fun i wr => ∃ k : Nat, k ≤ 2 ∧ i = .int .i64 k ∧ (k = 2 → b = true) ∧ W = wr) (fun i _ => 2 - (intOf i).toNat)
  case atStart => exact ⟨0, by omega, rfl, fun h => by omega, rfl⟩
  case round =>
    obtain ⟨k, hk, rfl, hz, rfl⟩ := hrel
    obtain rfl | rfl | rfl : k = 0 ∨ k = 1 ∨ k = 2 := by omega
    · go_wp2_with (go_at_call 119; refine (chanClos_any A n c n gb true _ (decide_eq_true rfl) hb).mono ?_; rintro e w2 ⟨rfl, rfl⟩)
      go_roundw
      case rel => exact ⟨1, by omega, rfl, fun h => by omega, trivial⟩
      case measure => simp [intOf]
    · cases b
      · go_wp2_with (go_at_call 119; refine (chanClos_any C m d n gb false _ h hb).mono ?_; rintro e w2 ⟨rfl, rfl⟩)
        go_ret
        exact ⟨rfl, rfl⟩
      · go_wp2_with (go_at_call 119; refine (chanClos_any C m d n gb true _ h hb).mono ?_; rintro e w2 ⟨rfl, rfl⟩)
        go_roundw
        case rel => exact ⟨2, by omega, rfl, fun h => trivial, trivial⟩
        case measure => simp [intOf]
    · have hb2 := hz rfl
      subst hb2
      go_wp2
      go_ret
      exact ⟨rfl, rfl⟩
set_option maxHeartbeats 4000000 in
set_option maxRecDepth 100000 in
theorem implTwo_b (p : Nat) (A C : Option Addr) (n c m d : Nat) (b : Bool) (W : World) (hp : p < W.heap.size) (h : okTwo n m = b) (h0 : W.cell? ⟨p, 0, none⟩ = some (.slice A n c)) (h1 : W.cell? ⟨p, 1, none⟩ = some (.slice C m d)) (hn : n ≤ 1048576) :
    Calls Try.prog 87 #[.slice (some ⟨p, 0, none⟩) 2 2] W fun e w' => e = .returned (.bool b) ∧ W.Since W.heap.size w' := by
  subst h
  have s1 : W.Since W.heap.size (W.alloc (.cells #[.int .i64 (n : Int)] 3)) := (World.Since.refl _ _).alloc (Nat.le_refl _) _
  cases h5 : inB n 1 256
  · go_enter Try.func87, Try.ntmps87
    go_wp2_with (go_at_call 60; refine (implPart_b _ _ _ h5).mono ?_; rintro e w1 ⟨rfl, hs⟩)
    go_ret
    exact ⟨ret_bool (by unfold okTwo; simp only [inB] at h5; rw [Bool.eq_iff_iff] at h5 ⊢; simp at h5 ⊢; omega), s1.trans (since_mono hs s1.size)⟩
  · go_enter Try.func87, Try.ntmps87
    go_wp2_with fail
    refine (implPart_b _ _ _ h5).mono ?_
    rintro e w1 ⟨rfl, hs⟩
    have c1 : w1.cell? ⟨W.heap.size, 0, none⟩ = some (.int .i64 (n : Int)) := (hs.cell (a := ⟨W.heap.size, 0, none⟩) (by simp)).trans (by simp [go_sem])
    have s2 := s1.trans (since_mono hs s1.size)
    have d0 := (s2.cell (a := ⟨p, 0, none⟩) hp).trans h0
    have d1 := (s2.cell (a := ⟨p, 1, none⟩) hp).trans h1
    have S2 := Lib.hid s2
    clear hs s1 s2
    go_wp2_with fail
    refine (allTwo_any p W.heap.size A C n c m d (decide (m = n)) _ rfl c1 d0 d1).mono ?_
    rintro e w' ⟨rfl, rfl⟩
    go_wp2
    go_ret
    exact ⟨ret_bool (by unfold okTwo; simp only [inB] at h5; rw [Bool.eq_iff_iff] at h5 ⊢; simp at h5 ⊢; omega), S2.out⟩
def likeO (xs ys : List Nat) (n : Nat) : O := qu (dotO xs ys n) (rootO (mu (dotO xs xs n) (dotO ys ys n)))
def balO (L R : O) : O := if eqO (ad R L) (some 0) then some 0 else qu (su R L) (ad R L)
theorem okTwo_yes {n m : Nat} (h : okTwo n m = true) : n ≤ 256 ∧ 0 < n ∧ n = m := by unfold okTwo at h; simpa [and_assoc] using h
set_option maxHeartbeats 4000000 in
set_option maxRecDepth 100000 in
theorem specLike_any (A : Option Addr) (n c : Nat) (xs : List Nat) (C : Option Addr) (m d : Nat) (ys : List Nat) (w : World) (hA : Fs w w.heap.size A n xs) (hn : n ≤ 1048576) (hC : Fs w w.heap.size C m ys) (hm : m ≤ 1048576) (Z : O)
    (hZ : Hid (Z = if okTwo n m then likeO xs ys n else some 0)) :
    Calls Try.prog 37 #[.slice A n c, .slice C m d] w (PVB Z (okTwo n m) w) := by
  have HA := Lib.hid hA; have HC := Lib.hid hC
  clear hA hC
  cases h0 : okTwo n m
  · rw [h0] at hZ
    obtain rfl := hZ.out
    clear hZ
    go_enter Try.func37, Try.ntmps37
    go_wp2_with (go_at_call 84; refine (specTwo_b _ _ _ _ _ _ _ _ h0).mono ?_; rintro e w1 ⟨rfl, rfl⟩)
    go_ret2
    exact ⟨0, rfl, fv0, World.Since.refl _ _⟩
  · rw [h0] at hZ
    simp only [if_true] at hZ
    obtain ⟨h1, h2, rfl⟩ := okTwo_yes h0
    have H0 := Lib.hid h0; clear h0
    go_enter Try.func37, Try.ntmps37
    go_wp2_with (first | (go_at_call 84; refine (specTwo_b _ _ _ _ _ _ _ _ H0.out).mono ?_; rintro e w1 ⟨rfl, rfl⟩) | fail)
    refine (specDot0_any A C n c d xs ys _ _ HA.out HC.out hn).mono ?_
    rintro e w1 ⟨r1, m1, rfl, hv, rfl⟩
    have V1 := Lib.hid hv; clear hv
    go_wp2_with fail
    refine (specDot0_any A A n c c xs xs _ _ (HA.out.drewN m1) (HA.out.drewN m1) hn).mono ?_
    rintro e w1 ⟨r2, m2, rfl, hv, rfl⟩
    have V2 := Lib.hid hv; clear hv
    go_wp2_with fail
    refine (specDot0_any C C n d d ys ys _ _ (HC.out.drewN (m1 + m2)) (HC.out.drewN (m1 + m2)) hn).mono ?_
    rintro e w1 ⟨r3, m3, rfl, hv, rfl⟩
    have V3 := Lib.hid hv; clear hv
    go_wp2_with (first | (with_reducible_and_instances refine Lo.wpList_fo _ rfl _ _ _ _ _ rfl _ _ _ _ _ rfl rfl rfl (by assumption) (by assumption) ?_; intro rr nn hrr) | fail)
    refine (specSqrt_any _ _ hrr.out.1).mono ?_
    rintro e w' ⟨r4, m4, rfl, hv, rfl⟩
    rw [hrr.out.2] at hv
    have V4 := Lib.hid hv; clear hv
    clear hrr
    go_wp2_with (first | (with_reducible_and_instances refine Lo.wpList_fo _ rfl _ _ _ _ _ rfl _ _ _ _ _ rfl rfl rfl (by assumption) (by assumption) ?_; intro rr nn hrr) | fail)
    go_ret2
    exact ⟨_, rfl, by rw [hZ.out]; exact hrr, by (repeat (first | (with_reducible refine Fl.sinDrew ?_) | (with_reducible refine World.Since.drew ?_) | (with_reducible refine Fl.sinSet ?_ ?_; rotate_left) | (with_reducible refine Fl.sinAlloc ?_ ?_; rotate_left) | with_reducible exact World.Since.refl _ _ | with_reducible assumption | (with_reducible refine Fl.sinStep (by with_reducible assumption) ?_))); all_goals (first | omega | (simp; done) | (simp; omega) | (simp [go_sem]; done) | (simp [go_sem]; omega))⟩
set_option maxHeartbeats 4000000 in
set_option maxRecDepth 100000 in
theorem implLike_any (A : Option Addr) (n c : Nat) (xs : List Nat) (C : Option Addr) (m d : Nat) (ys : List Nat) (w : World) (hA : Fs w w.heap.size A n xs) (hn : n ≤ 1048576) (hC : Fs w w.heap.size C m ys) (hm : m ≤ 1048576) (Z : O)
    (hZ : Hid (Z = if okTwo n m then likeO xs ys n else some 0)) :
    Calls Try.prog 38 #[.slice A n c, .slice C m d] w (PVB Z (okTwo n m) w) := by
  have HA := Lib.hid hA; have HC := Lib.hid hC
  clear hA hC
  obtain ⟨W1, hW1⟩ : ∃ W, W = w.alloc (.cells #[.slice A n c, .slice C m d] 22) := ⟨_, rfl⟩
  have S1 : Hid (w.Since w.heap.size W1) := Lib.hid (by rw [hW1]; exact (World.Since.refl _ _).alloc (Nat.le_refl _) _)
  have Z1 : Hid (W1.heap.size = w.heap.size + 1) := Lib.hid (by rw [hW1]; simp)
  have C1 : Hid (W1.cell? ⟨w.heap.size, 0, none⟩ = some (.slice A n c) ∧ W1.cell? ⟨w.heap.size, 1, none⟩ = some (.slice C m d)) := Lib.hid (by rw [hW1]; exact ⟨by simp [go_sem], by simp [go_sem]⟩)
  cases h0 : okTwo n m
  · rw [h0] at hZ
    obtain rfl := hZ.out
    clear hZ
    go_enter Try.func38, Try.ntmps38
    go_wp2_with fail
    rw [← hW1]
    refine (implTwo_b w.heap.size A C n c m d false W1 (by have := Z1.out; omega) h0 C1.out.1 C1.out.2 hn).mono ?_
    rintro e w2 ⟨rfl, hs⟩
    have S2 := Lib.hid (S1.out.trans (since_mono hs S1.out.size)); clear hs
    go_wp2
    go_ret2
    exact ⟨0, rfl, fv0, S2.out⟩
  · rw [h0] at hZ
    simp only [if_true] at hZ
    obtain ⟨h1, h2, rfl⟩ := okTwo_yes h0
    have H0 := Lib.hid h0; clear h0
    go_enter Try.func38, Try.ntmps38
    go_wp2_with fail
    rw [← hW1]
    refine (implTwo_b w.heap.size A C n c n d true W1 (by have := Z1.out; omega) H0.out C1.out.1 C1.out.2 hn).mono ?_
    rintro e w2 ⟨rfl, hs⟩
    have S2 := Lib.hid (S1.out.trans (since_mono hs S1.out.size)); clear hs
    have FA := Lib.hid (HA.out.now S2.out); have FC := Lib.hid (HC.out.now S2.out)
    have HD := Lib.hid (implDot_any A n c xs C n d ys w2 _ FA.out FC.out hn hn)
    rw [if_pos ⟨h1, rfl⟩, decide_eq_true (show n ≤ 256 ∧ n = n from ⟨h1, rfl⟩)] at HD
    go_wp2_with fail
    refine HD.out.mono ?_
    rintro e w1 ⟨r1, m1, rfl, hv, rfl⟩
    have V1 := Lib.hid hv; clear hv HD
    go_wp2_with fail
    refine (implPower_any A n c xs _ _ (FA.out.drewN m1) h1).mono ?_
    rintro e w1 ⟨r2, m2, rfl, hv, rfl⟩
    have V2 := Lib.hid hv; clear hv
    go_wp2_with fail
    refine (implPower_any C n d ys _ _ (FC.out.drewN (m1 + m2)) h1).mono ?_
    rintro e w1 ⟨r3, m3, rfl, hv, rfl⟩
    have V3 := Lib.hid hv; clear hv
    go_wp2_with (first | (with_reducible_and_instances refine Lo.wpList_fo _ rfl _ _ _ _ _ rfl _ _ _ _ _ rfl rfl rfl (by assumption) (by assumption) ?_; intro rr nn hrr) | fail)
    refine (implRoot_any _ _ hrr.out.1).mono ?_
    rintro e w' ⟨r4, m4, rfl, hv, rfl⟩
    rw [hrr.out.2] at hv
    have V4 := Lib.hid hv; clear hv
    clear hrr
    go_wp2_with (first | (with_reducible_and_instances refine Lo.wpList_fo _ rfl _ _ _ _ _ rfl _ _ _ _ _ rfl rfl rfl (by assumption) (by assumption) ?_; intro rr nn hrr) | fail)
    go_ret2
    exact ⟨_, rfl, by rw [hZ.out]; exact hrr, by (repeat (first | (with_reducible refine Fl.sinDrew ?_) | (with_reducible refine since_drewN ?_ _) | with_reducible exact S2.out))⟩
theorem okTwo_mean {n m : Nat} (h : okTwo n m = true) (xs : List Nat) : meanR xs n = meanO xs n ∧ meanB n = true := by
  obtain ⟨h1, h2, rfl⟩ := okTwo_yes h
  exact ⟨meanR_yes h1 h2, by unfold meanB; rw [decide_eq_true h1, decide_eq_true h2]; rfl⟩
set_option maxHeartbeats 4000000 in
set_option maxRecDepth 100000 in
theorem specBal_any (A : Option Addr) (n c : Nat) (xs : List Nat) (C : Option Addr) (m d : Nat) (ys : List Nat) (w : World) (hA : Fs w w.heap.size A n xs) (hn : n ≤ 1048576) (hC : Fs w w.heap.size C m ys) (hm : m ≤ 1048576) (Z : O)
    (hZ : Hid (Z = if okTwo n m then balO (meanO xs n) (meanO ys n) else some 0)) :
    Calls Try.prog 39 #[.slice A n c, .slice C m d] w (PVB Z (okTwo n m) w) := by
  have HA := Lib.hid hA; have HC := Lib.hid hC
  clear hA hC
  cases h0 : okTwo n m
  · rw [h0] at hZ
    obtain rfl := hZ.out
    clear hZ
    go_enter Try.func39, Try.ntmps39
    go_wp2_with (go_at_call 84; refine (specTwo_b _ _ _ _ _ _ _ _ h0).mono ?_; rintro e w1 ⟨rfl, rfl⟩)
    go_ret2
    exact ⟨0, rfl, fv0, World.Since.refl _ _⟩
  · rw [h0] at hZ
    simp only [if_true] at hZ
    have k1 := okTwo_mean h0 xs; have k2 := okTwo_mean h0 ys
    obtain ⟨h1, h2, rfl⟩ := okTwo_yes h0
    have H0 := Lib.hid h0; clear h0
    have HM1 := Lib.hid (specMean_any A n c xs w _ HA.out hn)
    have HM2 := Lib.hid fun k => specMean_any C n d ys (w.drewN k) _ (HC.out.drewN k) hn
    rw [k1.1, k1.2] at HM1
    rw [k2.1, k2.2] at HM2
    clear k1 k2
    go_enter Try.func39, Try.ntmps39
    go_wp2_with (first | (go_at_call 84; refine (specTwo_b _ _ _ _ _ _ _ _ H0.out).mono ?_; rintro e w1 ⟨rfl, rfl⟩) | fail)
    refine HM1.out.mono ?_
    rintro e w1 ⟨r1, m1, rfl, hv, rfl⟩
    have V1 := Lib.hid hv; clear hv
    go_wp2_with fail
    refine (HM2.out m1).mono ?_
    rintro e w1 ⟨r2, m2, rfl, hv, rfl⟩
    have V2 := Lib.hid hv; clear hv
    obtain ⟨L, hL⟩ : ∃ L, L = meanO xs n := ⟨_, rfl⟩
    obtain ⟨R, hR⟩ : ∃ R, R = meanO ys n := ⟨_, rfl⟩
    rw [← hL] at V1 hZ; rw [← hR] at V2 hZ
    clear hL hR HM1 HM2
    cases e1 : eqO (ad R L) (some 0)
    · have e2 : Z = qu (su R L) (ad R L) := by rw [hZ.out]; unfold balO; rw [e1]; rfl
      have E2 := Lib.hid e2
      clear e2 hZ
      have E1 : ∀ r, Hid (Fv .f32 r (opO .add .f32 R L)) → (FloatKind.f32.format.order r 0 == some .eq) = false := fun r hr => (eq_fv hr fv0).trans e1
      have EH := Lib.hid E1; clear E1 e1
      go_wp2_with (first | (with_reducible_and_instances refine Lo.wpList_fo _ rfl .add _ _ _ _ rfl _ _ _ _ _ rfl rfl rfl V2 V1 ?_; intro rr nn hrr; have hne := EH.out _ hrr) | (with_reducible_and_instances refine Lo.wpList_fo _ rfl .sub _ _ _ _ rfl _ _ _ _ _ rfl rfl rfl V2 V1 ?_; intro rs nn hrs) | (with_reducible_and_instances refine Lo.wpList_fo _ rfl .quo _ _ _ _ rfl _ _ _ _ _ rfl rfl rfl hrs (by assumption) ?_; intro rq nn hrq))
      go_ret2
      exact ⟨_, rfl, by rw [E2.out]; exact hrq, by (repeat (first | (with_reducible refine Fl.sinDrew ?_) | (with_reducible refine World.Since.drew ?_) | (with_reducible refine Fl.sinSet ?_ ?_; rotate_left) | (with_reducible refine Fl.sinAlloc ?_ ?_; rotate_left) | with_reducible exact World.Since.refl _ _ | with_reducible assumption | (with_reducible refine Fl.sinStep (by with_reducible assumption) ?_))); all_goals (first | omega | (simp; done) | (simp; omega) | (simp [go_sem]; done) | (simp [go_sem]; omega))⟩
    · have e2 : Z = some 0 := by rw [hZ.out]; unfold balO; rw [e1]; rfl
      subst e2
      clear hZ
      have E1 : ∀ r, Hid (Fv .f32 r (opO .add .f32 R L)) → (FloatKind.f32.format.order r 0 == some .eq) = true := fun r hr => (eq_fv hr fv0).trans e1
      have EH := Lib.hid E1; clear E1 e1
      go_wp2_with (first | (with_reducible_and_instances refine Lo.wpList_fo _ rfl .add _ _ _ _ rfl _ _ _ _ _ rfl rfl rfl V2 V1 ?_; intro rr nn hrr; have heq := EH.out _ hrr))
      go_ret2
      exact ⟨0, rfl, fv0, by (repeat (first | (with_reducible refine Fl.sinDrew ?_) | (with_reducible refine World.Since.drew ?_) | (with_reducible refine Fl.sinSet ?_ ?_; rotate_left) | (with_reducible refine Fl.sinAlloc ?_ ?_; rotate_left) | with_reducible exact World.Since.refl _ _ | with_reducible assumption | (with_reducible refine Fl.sinStep (by with_reducible assumption) ?_))); all_goals (first | omega | (simp; done) | (simp; omega) | (simp [go_sem]; done) | (simp [go_sem]; omega))⟩
set_option maxHeartbeats 4000000 in
set_option maxRecDepth 100000 in
theorem implBal_any (A : Option Addr) (n c : Nat) (xs : List Nat) (C : Option Addr) (m d : Nat) (ys : List Nat) (w : World) (hA : Fs w w.heap.size A n xs) (hn : n ≤ 1048576) (hC : Fs w w.heap.size C m ys) (hm : m ≤ 1048576) (Z : O)
    (hZ : Hid (Z = if okTwo n m then balO (meanO xs n) (meanO ys n) else some 0)) :
    Calls Try.prog 40 #[.slice A n c, .slice C m d] w (PVB Z (okTwo n m) w) := by
  have HA := Lib.hid hA; have HC := Lib.hid hC
  clear hA hC
  obtain ⟨W1, hW1⟩ : ∃ W, W = w.alloc (.cells #[.slice A n c, .slice C m d] 22) := ⟨_, rfl⟩
  have S1 : Hid (w.Since w.heap.size W1) := Lib.hid (by rw [hW1]; exact (World.Since.refl _ _).alloc (Nat.le_refl _) _)
  have Z1 : Hid (W1.heap.size = w.heap.size + 1) := Lib.hid (by rw [hW1]; simp)
  have C1 : Hid (W1.cell? ⟨w.heap.size, 0, none⟩ = some (.slice A n c) ∧ W1.cell? ⟨w.heap.size, 1, none⟩ = some (.slice C m d)) := Lib.hid (by rw [hW1]; exact ⟨by simp [go_sem], by simp [go_sem]⟩)
  cases h0 : okTwo n m
  · rw [h0] at hZ
    obtain rfl := hZ.out
    clear hZ
    go_enter Try.func40, Try.ntmps40
    go_wp2_with fail
    rw [← hW1]
    refine (implTwo_b w.heap.size A C n c m d false W1 (by have := Z1.out; omega) h0 C1.out.1 C1.out.2 hn).mono ?_
    rintro e w2 ⟨rfl, hs⟩
    have S2 := Lib.hid (S1.out.trans (since_mono hs S1.out.size)); clear hs
    go_wp2
    go_ret2
    exact ⟨0, rfl, fv0, S2.out⟩
  · rw [h0] at hZ
    simp only [if_true] at hZ
    have k1 := okTwo_mean h0 xs; have k2 := okTwo_mean h0 ys
    obtain ⟨h1, h2, rfl⟩ := okTwo_yes h0
    have H0 := Lib.hid h0; clear h0
    have HM1 := Lib.hid fun v (s : w.Since w.heap.size v) => implMean_any A n c xs v _ (HA.out.since s) hn
    have HM2 := Lib.hid fun v (s : w.Since w.heap.size v) => implMean_any C n d ys v _ (HC.out.since s) hn
    rw [k1.1, k1.2] at HM1
    rw [k2.1, k2.2] at HM2
    clear k1 k2
    go_enter Try.func40, Try.ntmps40
    go_wp2_with fail
    rw [← hW1]
    refine (implTwo_b w.heap.size A C n c n d true W1 (by have := Z1.out; omega) H0.out C1.out.1 C1.out.2 hn).mono ?_
    rintro e w2 ⟨rfl, hs⟩
    have S2 := Lib.hid (S1.out.trans (since_mono hs S1.out.size)); clear hs
    go_wp2_with fail
    refine (HM1.out _ S2.out).mono ?_
    rintro e w1 ⟨r1, m1, rfl, hv, rfl⟩
    have V1 := Lib.hid hv; clear hv
    go_wp2_with fail
    refine (HM2.out _ (since_drewN S2.out m1)).mono ?_
    rintro e w1 ⟨r2, m2, rfl, hv, rfl⟩
    have V2 := Lib.hid hv; clear hv
    obtain ⟨L, hL⟩ : ∃ L, L = meanO xs n := ⟨_, rfl⟩
    obtain ⟨R, hR⟩ : ∃ R, R = meanO ys n := ⟨_, rfl⟩
    rw [← hL] at V1 hZ; rw [← hR] at V2 hZ
    clear hL hR HM1 HM2
    cases e1 : eqO (ad R L) (some 0)
    · have e2 : Z = qu (su R L) (ad R L) := by rw [hZ.out]; unfold balO; rw [e1]; rfl
      have E2 := Lib.hid e2
      clear e2 hZ
      have E1 : ∀ r, Hid (Fv .f32 r (opO .add .f32 R L)) → (FloatKind.f32.format.order r 0 == some .eq) = false := fun r hr => (eq_fv hr fv0).trans e1
      have EH := Lib.hid E1; clear E1 e1
      go_wp2_with (first | (with_reducible_and_instances refine Lo.wpList_fo _ rfl .add _ _ _ _ rfl _ _ _ _ _ rfl rfl rfl V2 V1 ?_; intro rr nn hrr; have hne := EH.out _ hrr) | (with_reducible_and_instances refine Lo.wpList_fo _ rfl .sub _ _ _ _ rfl _ _ _ _ _ rfl rfl rfl V2 V1 ?_; intro rs nn hrs) | (with_reducible_and_instances refine Lo.wpList_fo _ rfl .quo _ _ _ _ rfl _ _ _ _ _ rfl rfl rfl hrs (by assumption) ?_; intro rq nn hrq))
      go_ret2
      exact ⟨_, rfl, by rw [E2.out]; exact hrq, by (repeat (first | (with_reducible refine Fl.sinDrew ?_) | (with_reducible refine since_drewN ?_ _) | with_reducible exact S2.out))⟩
    · have e2 : Z = some 0 := by rw [hZ.out]; unfold balO; rw [e1]; rfl
      subst e2
      clear hZ
      have E1 : ∀ r, Hid (Fv .f32 r (opO .add .f32 R L)) → (FloatKind.f32.format.order r 0 == some .eq) = true := fun r hr => (eq_fv hr fv0).trans e1
      have EH := Lib.hid E1; clear E1 e1
      go_wp2_with (first | (with_reducible_and_instances refine Lo.wpList_fo _ rfl .add _ _ _ _ rfl _ _ _ _ _ rfl rfl rfl V2 V1 ?_; intro rr nn hrr; have heq := EH.out _ hrr))
      go_ret2
      exact ⟨0, rfl, fv0, by (repeat (first | (with_reducible refine Fl.sinDrew ?_) | (with_reducible refine since_drewN ?_ _) | with_reducible exact S2.out))⟩
end Go.Proofs.Ytcpcfgdncinpgaa
