/- Rates: more samples, fewer samples; the model's LowerBy, what fails, the program's. -/
import Derived.Test.YtdibobheggffnaaTi
set_option linter.unusedVariables false
set_option linter.unusedSimpArgs false
namespace Go.Proofs.Ytdibobheggffnaa
open Fl Go.RowKit
def okLower (f : Int) (t n : Nat) : Bool := inB f 1 8 && inB (t : Int) 1 32 && decide ((n : Int) ≤ 256)
def lowG (ts xs : List Nat) (t : Nat) : Nat → O := foldF (fun k => ab .f32 (wd ts k)) (zth (fun k => ab .f32 (wd xs k)) (t - 1)) (t - 1) t
def lowF (ts xs : List Nat) (f t k : Nat) : O := lowG ts xs t (0 + k * f)
theorem pick_are {G : Nat → O} {A : Option Addr} {n f m : Nat} {ps : List Nat} {p : Ls} (hf : 1 ≤ f) (h : Are ⟨A, n, ps⟩ G) (hp : p.n = cntP n f 0) (ha : Are p (pickF ps f 0)) : Are p (fun k => G (0 + k * f)) := fun k hk => by
  rw [ha k hk]
  unfold pickF
  exact h _ ((cntP_lt hf hf).1 (by rw [← hp]; exact hk))
set_option maxHeartbeats 8000000 in
set_option maxRecDepth 100000 in
theorem specLower_ok (A : Option Addr) (a2 : Addr) (t c n c2 f : Nat) (ts xs : List Nat) (w : World) (hA : Fs w w.heap.size A t ts) (hA2 : Fs w w.heap.size (some a2) n xs) (ht : 1 ≤ t) (ht2 : t ≤ 32) (hn : n ≤ 256) (hf : 1 ≤ f) (hf2 : f ≤ 8) :
    Calls Try.prog 46 #[.int .i64 f, .slice A t c, .slice (some a2) n c2] w (PEB (cntP n f 0) (lowF ts xs f t) true w) := by
  have hb1 : inB (f : Int) 1 8 = true := inB_tt (by omega) (by omega)
  have htb : inB (t : Int) 1 32 = true := inB_tt (by omega) (by omega)
  have hfew : decide ((n : Int) ≤ 256) = true := decide_eq_true (by omega)
  obtain ⟨l, hl⟩ : ∃ l, l = t - 1 := ⟨_, rfl⟩
  have el : (t : Int) - 1 = (l : Nat) := by omega
  have hl3 : l ≤ 31 := by omega
  have hmk := fun W => run_make_row' (P := Try.prog) 22 46 (.float .f32 0) 4 Try.underlying22 Try.infoF rfl .i64 .i64 l (by omega) (by omega) W
  obtain ⟨W, hW⟩ : ∃ W, W = w.alloc (.cells (madeCells #[.float .f32 0] l) 46) := ⟨_, rfl⟩
  have S0 : Hid (w.Since w.heap.size W) := Lib.hid (by rw [hW]; exact (World.Since.refl _ _).alloc (Nat.le_refl _) _)
  have zW : W.heap.size = w.heap.size + 1 := by rw [hW]; simp
  have HZ := show Fs W W.heap.size (some ⟨w.heap.size, 0, none⟩) l (List.replicate l 0) by rw [zW, hW]; exact zeros_fs w l
  have HF := Lib.hid (show Calls Try.prog 58 #[.slice A t c, .slice (some ⟨w.heap.size, 0, none⟩) l l, .slice (some a2) n c2] W (PF n (lowG ts xs t) w) by
    rw [hl] at HZ ⊢
    exact specFoldZ_any A (some a2) w.heap.size t c n c2 ts xs (fun k => ab .f32 (wd xs k)) w W S0.out (hA.now S0.out) HZ (hA2.now S0.out) (fun h => by cases h) (fun _ _ => rfl) ht ht2 hn)
  clear hA hA2 hl zW HZ
  go_enter Try.func46, Try.ntmps46
  go_wp2_with (first
    | (go_at_call 48; refine (specFactor_b f true _ hb1).mono ?_; rintro e w' ⟨rfl, rfl⟩)
    | (go_at_call 57; refine (specTaps_b _ _ _ _ _ htb).mono ?_; rintro e w' ⟨rfl, rfl⟩)
    | (go_at_call 49; refine (specFew_any _ _ _ _ _ hfew).mono ?_; rintro e w' ⟨rfl, rfl⟩)
    | (go_at_call 58; rw [← hW]; go_loud (refine HF.out.mono ?_); rintro e w1 ⟨p, q, cp, cq, rfl, h1, h2, h3, h4⟩)
    | (go_at_call 54; go_loud (refine (specPick0_any p.A p.n cp f 0 p.xs _ h2.out.readF (by rw [h1.out]; exact hn) hf hf2 hf).mono ?_); rintro e w2 ⟨p', cp', rfl, k1, k2, k3, k4⟩; have K1 := Lib.hid k1; have K2 := Lib.hid k2; have K3 := Lib.hid k3; have K4 := Lib.hid k4; clear k1 k2 k3 k4))
  go_ret2
  have hn0 := h1.out
  refine ⟨p', cp', rfl, by rw [K1.out, hn0], (K2.out.less h4.out.size).toE, ?_, h4.out.trans (since_mono K4.out h4.out.size)⟩
  exact pick_are (m := 0) hf (show Are ⟨p.A, p.n, p.xs⟩ _ from h3.out) K1.out K3.out
set_option maxHeartbeats 4000000 in
theorem specRaise_no (A A2 : Option Addr) (t c n c2 : Nat) (f : Int) (F : Nat → O) (w : World) (ht : t ≤ 1048576) (hn : n ≤ 1048576) (h : okRaise f t n = false) :
    Calls Try.prog 44 #[.int .i64 f, .slice A t c, .slice A2 n c2] w (PEB 0 F false w) := by
  unfold okRaise at h
  cases h1 : inB f 1 8
  · go_enter Try.func44, Try.ntmps44
    go_wp2_with (go_at_call 48; refine (specFactor_b f false _ h1).mono ?_; rintro e w' ⟨rfl, rfl⟩)
    go_ret2
    exact PEB.none_ (by (repeat (first | (with_reducible refine Fl.sinDrew ?_) | (with_reducible refine World.Since.drew ?_) | (with_reducible refine Fl.sinSet ?_ ?_; rotate_left) | (with_reducible refine Fl.sinAlloc ?_ ?_; rotate_left) | with_reducible exact World.Since.refl _ _ | with_reducible assumption | (with_reducible refine Fl.sinStep (by with_reducible assumption) ?_))); all_goals (first | omega | (simp; done) | (simp; omega) | (simp [go_sem]; done) | (simp [go_sem]; omega))) _
  · cases h2 : inB (t : Int) 1 32
    · go_enter Try.func44, Try.ntmps44
      go_wp2_with (first | (go_at_call 48; refine (specFactor_b f true _ h1).mono ?_; rintro e w' ⟨rfl, rfl⟩) | (go_at_call 57; refine (specTaps_b _ _ _ _ _ h2).mono ?_; rintro e w' ⟨rfl, rfl⟩))
      go_ret2
      exact PEB.none_ (by (repeat (first | (with_reducible refine Fl.sinDrew ?_) | (with_reducible refine World.Since.drew ?_) | (with_reducible refine Fl.sinSet ?_ ?_; rotate_left) | (with_reducible refine Fl.sinAlloc ?_ ?_; rotate_left) | with_reducible exact World.Since.refl _ _ | with_reducible assumption | (with_reducible refine Fl.sinStep (by with_reducible assumption) ?_))); all_goals (first | omega | (simp; done) | (simp; omega) | (simp [go_sem]; done) | (simp [go_sem]; omega))) _
    · have hb := h1
      simp only [inB, Bool.and_eq_true, decide_eq_true_eq] at hb
      rw [h1, h2, Bool.true_and, Bool.true_and] at h
      have h4 := of_decide_eq_false h
      obtain ⟨m, hm⟩ : ∃ m : Int, m = (n : Int) * f := ⟨_, rfl⟩
      have hm1 : 256 < m := by rw [hm, Int.mul_comm]; omega
      have hm2 : m ≤ 8388608 := by
        have : (n : Int) * f ≤ 1048576 * 8 := Int.mul_le_mul (by omega) hb.2 (by omega) (by omega)
        omega
      have hm3 : decide (256 < m) = true := decide_eq_true hm1
      have HM := hm.symm
      clear hm h h4
      cases h3 : decide ((n : Int) ≤ 256)
      all_goals
        go_enter Try.func44, Try.ntmps44
        go_wp2_with (first | (go_at_call 48; refine (specFactor_b f true _ h1).mono ?_; rintro e w' ⟨rfl, rfl⟩) | (go_at_call 57; refine (specTaps_b _ _ _ _ _ h2).mono ?_; rintro e w' ⟨rfl, rfl⟩) | (go_at_call 49; refine (specFew_any _ _ _ _ _ h3).mono ?_; rintro e w' ⟨rfl, rfl⟩))
        go_ret2
        exact PEB.none_ (by (repeat (first | (with_reducible refine Fl.sinDrew ?_) | (with_reducible refine World.Since.drew ?_) | (with_reducible refine Fl.sinSet ?_ ?_; rotate_left) | (with_reducible refine Fl.sinAlloc ?_ ?_; rotate_left) | with_reducible exact World.Since.refl _ _ | with_reducible assumption | (with_reducible refine Fl.sinStep (by with_reducible assumption) ?_))); all_goals (first | omega | (simp; done) | (simp; omega) | (simp [go_sem]; done) | (simp [go_sem]; omega))) _
set_option maxHeartbeats 4000000 in
theorem specLower_no (A A2 : Option Addr) (t c n c2 : Nat) (f : Int) (F : Nat → O) (w : World) (ht : t ≤ 1048576) (hn : n ≤ 1048576) (h : okLower f t n = false) :
    Calls Try.prog 46 #[.int .i64 f, .slice A t c, .slice A2 n c2] w (PEB 0 F false w) := by
  unfold okLower at h
  cases h1 : inB f 1 8 <;> cases h2 : inB (t : Int) 1 32 <;> cases h3 : decide ((n : Int) ≤ 256)
  all_goals try (rw [h1, h2, h3] at h; cases h; done)
  all_goals
    clear h
    go_enter Try.func46, Try.ntmps46
    go_wp2_with (first | (go_at_call 48; refine (specFactor_b f _ _ h1).mono ?_; rintro e w' ⟨rfl, rfl⟩) | (go_at_call 57; refine (specTaps_b _ _ _ _ _ h2).mono ?_; rintro e w' ⟨rfl, rfl⟩) | (go_at_call 49; refine (specFew_any _ _ _ _ _ h3).mono ?_; rintro e w' ⟨rfl, rfl⟩))
    go_ret2
    exact PEB.none_ (by (repeat (first | (with_reducible refine Fl.sinDrew ?_) | (with_reducible refine World.Since.drew ?_) | (with_reducible refine Fl.sinSet ?_ ?_; rotate_left) | (with_reducible refine Fl.sinAlloc ?_ ?_; rotate_left) | with_reducible exact World.Since.refl _ _ | with_reducible assumption | (with_reducible refine Fl.sinStep (by with_reducible assumption) ?_))); all_goals (first | omega | (simp; done) | (simp; omega) | (simp [go_sem]; done) | (simp [go_sem]; omega))) _
end Go.Proofs.Ytdibobheggffnaa
