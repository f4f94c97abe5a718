/- Rates: more samples, fewer samples; the model's and the program's. -/
import Derived.Test.YtdibobheggffnaaTh
import Derived.RegionTactic
set_option linter.unusedVariables false
set_option linter.unusedSimpArgs false
namespace Go.Proofs.Ytdibobheggffnaa
open Fl Go.RowKit
def PF (n0 : Nat) (f0 : Nat → O) (w : World) (e : Ending) (w' : World) : Prop :=
  ∃ (p q : Ls) (c d : Nat), e = .returned (.tuple #[.slice p.A p.n c, .slice q.A q.n d]) ∧ Hid (p.n = n0) ∧ Hid (Ge w.heap.size w' (fe p.A p.n p.xs)) ∧ Hid (Are p f0) ∧ Hid (w.Since w.heap.size w')
theorem specFoldZ_any (A A5 : Option Addr) (b t c n c5 : Nat) (ts xs : List Nat) (F : Nat → O) (w W : World) (s : w.Since w.heap.size W) (hA : Fs W W.heap.size A t ts) (hz : Fs W W.heap.size (some ⟨b, 0, none⟩) (t - 1) (List.replicate (t - 1) 0)) (h5 : Fs W W.heap.size A5 n xs) (e5 : A5 = none → n = 0 ∧ c5 = 0) (hF : ∀ j, j < n → ab .f32 (wd xs j) = F j) (ht : 1 ≤ t) (ht2 : t ≤ 32) (hn : n ≤ 256) :
    Calls Try.prog 58 #[.slice A t c, .slice (some ⟨b, 0, none⟩) (t - 1) (t - 1), .slice A5 n c5] W (PF n (foldF (fun k => ab .f32 (wd ts k)) (zth F (t - 1)) (t - 1) t) w) := by
  refine (specFold_any A t c (t - 1) n (t - 1) c5 (some ⟨b, 0, none⟩) A5 (fun h => by cases h) e5 ts (List.replicate (t - 1) 0) xs W hA hz h5 (by omega) ht2 hn).mono ?_
  rintro e w' ⟨p, q, cp, cq, rfl, h1, h2, h3, h4, h5, h6, h7, h8⟩
  exact ⟨p, q, cp, cq, rfl, h1, Lib.hid (h3.out.less s.size), Lib.hid (fun i hi => by rw [h5.out i hi]; exact foldF_congr (apO_zeros hF) (by rw [h1.out] at hi; exact hi)), Lib.hid (s.trans (since_mono h8.out s.size))⟩
def okRaise (f : Int) (t n : Nat) : Bool := inB f 1 8 && inB (t : Int) 1 32 && decide (f * (n : Int) ≤ 256)
def raiF (ts xs : List Nat) (f t : Nat) : Nat → O := foldF (fun k => ab .f32 (wd ts k)) (zth (sprF xs f) (t - 1)) (t - 1) t
set_option maxHeartbeats 8000000 in
set_option maxRecDepth 100000 in
theorem specRaise_ok (A A2 : Option Addr) (t c n c2 f : Nat) (ts xs : List Nat) (w : World) (hA : Fs w w.heap.size A t ts) (hA2 : Fs w w.heap.size A2 n xs) (ht : 1 ≤ t) (ht2 : t ≤ 32) (hn : n ≤ 256) (hf : 1 ≤ f) (hf2 : f ≤ 8) (hfn : n * f ≤ 256) :
    Calls Try.prog 44 #[.int .i64 f, .slice A t c, .slice A2 n c2] w (PEB (n * f) (raiF ts xs f t) true w) := by
  have HA := Lib.hid hA; have HA2 := Lib.hid hA2
  have hb1 : inB (f : Int) 1 8 = true := inB_tt (by omega) (by omega)
  have htb : inB (t : Int) 1 32 = true := inB_tt (by omega) (by omega)
  have hfew : decide ((n : Int) ≤ 256) = true := decide_eq_true (by omega)
  obtain ⟨m, hm⟩ : ∃ m : Nat, m = n * f := ⟨_, rfl⟩
  have HM : (n : Int) * (f : Int) = (m : Int) := by rw [hm]; exact (Int.natCast_mul n f).symm
  have hm3 : decide ((256 : Int) < m) = false := decide_eq_false (by omega)
  obtain ⟨l, hl⟩ : ∃ l, l = t - 1 := ⟨_, rfl⟩
  have el : (t : Int) - 1 = (l : Nat) := by omega
  have hl3 : l ≤ 31 := by omega
  have hmk := fun W => run_make_row' (P := Try.prog) 22 46 (.float .f32 0) 4 Try.underlying22 Try.infoF rfl .i64 .i64 l (by omega) (by omega) W
  have hS : ∀ W, w.Since w.heap.size W → Calls Try.prog 50 #[.int .i64 f, .slice A2 n c2] W (PLn m (sprF xs f) W) := fun W s => by rw [hm]; exact specSpreadN_any A2 n c2 f xs W (HA2.out.now s) hn hf hf2 hfn
  have hw : IntKind.i64.wrap (l : Int) = l := by rw [IntKind.wrap_i64]; omega
  have hF1 : ∀ (A5 : Option Addr) (c5 : Nat) (xs5 : List Nat) (w1 W0 : World), Hid (W0.Since W0.heap.size w1) → Hid (A5 = none → m = 0 ∧ c5 = 0) → Hid (Gs 46 w1 W0.heap.size A5 m xs5) → Hid (Are ⟨A5, m, xs5⟩ (sprF xs f)) → w.Since w.heap.size W0 → Fs W0 W0.heap.size (some ⟨w.heap.size, 0, none⟩) l (List.replicate l 0) → Calls Try.prog 58 #[.slice A t c, .slice (some ⟨w.heap.size, 0, none⟩) l l, .slice A5 m c5] w1 (PF m (raiF ts xs f t) w) := fun A5 c5 xs5 w1 W0 h4 h1 h2 h3 s0 z0 => by
    have s1 : w.Since w.heap.size w1 := s0.trans (since_mono h4.out s0.size)
    rw [hl] at z0 ⊢
    exact specFoldZ_any A A5 w.heap.size t c m c5 ts xs5 (sprF xs f) w w1 s1 (HA.out.now s1) (z0.now h4.out) h2.out.read h1.out h3.out ht ht2 (by omega)
  have hF2 : ∀ (A5 : Option Addr) (c5 : Nat) (xs5 : List Nat) (w1 W0 : World), Hid (W0.Since W0.heap.size w1) → Hid (A5 = none → m = 0 ∧ c5 = 0) → Hid (Gs 46 w1 W0.heap.size A5 m xs5) → Hid (Are ⟨A5, m, xs5⟩ (sprF xs f)) → w.Since w.heap.size W0 → Calls Try.prog 58 #[.slice A t c, .slice (some ⟨w1.heap.size, 0, none⟩) l l, .slice A5 m c5] (w1.alloc (.cells (madeCells #[.float .f32 0] l) 46)) (PF m (raiF ts xs f t) w) := fun A5 c5 xs5 w1 W0 h4 h1 h2 h3 s9 => by
    have s0 : w1.Since w1.heap.size (w1.alloc (.cells (madeCells #[.float .f32 0] l) 46)) := (World.Since.refl _ _).alloc (Nat.le_refl _) _
    have s4 : w.Since w.heap.size w1 := s9.trans (since_mono h4.out s9.size)
    have s1 : w.Since w.heap.size (w1.alloc (.cells (madeCells #[.float .f32 0] l) 46)) := s4.trans (since_mono s0 s4.size)
    rw [hl]
    rw [hl] at s0 s1
    exact specFoldZ_any A A5 w1.heap.size t c m c5 ts xs5 (sprF xs f) w _ s1 (HA.out.now s1) (by have := zeros_fs w1 (t - 1); exact this.more (by simp)) (h2.out.read.now s0) h1.out h3.out ht ht2 (by omega)
  have HZD := Lib.hid (show Fs (w.alloc (.cells (madeCells #[.float .f32 0] l) 46)).drew (w.alloc (.cells (madeCells #[.float .f32 0] l) 46)).drew.heap.size (some ⟨w.heap.size, 0, none⟩) l (List.replicate l 0) by
    have := zeros_fs w l
    exact (this.drewN 1).more (by simp))
  have HS := Lib.hid hS; have HF1 := Lib.hid hF1; have HF2 := Lib.hid hF2
  have HMM := Lib.hid hm
  rw [← hm]
  clear hA hA2 hm hl hS hF1 hF2
  go_enter Try.func44, Try.ntmps44
  go_wp2_with (first | (go_at_call 48; refine (specFactor_b f true _ hb1).mono ?_; rintro e w' ⟨rfl, rfl⟩) | (go_at_call 57; refine (specTaps_b _ _ _ _ _ htb).mono ?_; rintro e w' ⟨rfl, rfl⟩) | (go_at_call 49; refine (specFew_any _ _ _ _ _ hfew).mono ?_; rintro e w' ⟨rfl, rfl⟩) | fail)
  go_region_with (first
    | (go_at_call 50; go_loud (refine (HS.out _ (by (repeat (first | (with_reducible refine Fl.sinDrew ?_) | (with_reducible refine World.Since.drew ?_) | (with_reducible refine Fl.sinSet ?_ ?_; rotate_left) | (with_reducible refine Fl.sinAlloc ?_ ?_; rotate_left) | with_reducible exact World.Since.refl _ _ | with_reducible assumption | (with_reducible refine Fl.sinStep (by with_reducible assumption) ?_))); all_goals (first | omega | (simp; done) | (simp; omega) | (simp [go_sem]; done) | (simp [go_sem]; omega)))).mono ?_); rintro e w1 ⟨A5, c5, xs5, rfl, h1, h2, h3, h4⟩)
    | (go_at_call 58; refine (HF1.out _ _ _ _ _ h4 h1 h2 h3 (by (repeat (first | (with_reducible refine Fl.sinDrew ?_) | (with_reducible refine World.Since.drew ?_) | (with_reducible refine Fl.sinSet ?_ ?_; rotate_left) | (with_reducible refine Fl.sinAlloc ?_ ?_; rotate_left) | with_reducible exact World.Since.refl _ _ | with_reducible assumption | (with_reducible refine Fl.sinStep (by with_reducible assumption) ?_))); all_goals (first | omega | (simp; done) | (simp; omega) | (simp [go_sem]; done) | (simp [go_sem]; omega))) HZD.out).mono ?_; rintro e w2 ⟨p, q, cp, cq, rfl, g1, g2, g3, g4⟩)
    | (go_at_call 58; go_loud (refine (HF2.out _ _ _ _ _ h4 h1 h2 h3 (by (repeat (first | (with_reducible refine Fl.sinDrew ?_) | (with_reducible refine World.Since.drew ?_) | (with_reducible refine Fl.sinSet ?_ ?_; rotate_left) | (with_reducible refine Fl.sinAlloc ?_ ?_; rotate_left) | with_reducible exact World.Since.refl _ _ | with_reducible assumption | (with_reducible refine Fl.sinStep (by with_reducible assumption) ?_))); all_goals (first | omega | (simp; done) | (simp; omega) | (simp [go_sem]; done) | (simp [go_sem]; omega)))).mono ?_); rintro e w2 ⟨p, q, cp, cq, rfl, g1, g2, g3, g4⟩))
  all_goals
    go_wp2
    go_ret2
    exact ⟨p, cp, rfl, g1.out, g2.out, g3.out, by (repeat (first | (with_reducible refine Fl.sinDrew ?_) | (with_reducible refine World.Since.drew ?_) | (with_reducible refine Fl.sinSet ?_ ?_; rotate_left) | (with_reducible refine Fl.sinAlloc ?_ ?_; rotate_left) | with_reducible exact World.Since.refl _ _ | with_reducible assumption | (with_reducible refine Fl.sinStep (by with_reducible assumption) ?_))); all_goals (first | omega | (simp; done) | (simp; omega) | (simp [go_sem]; done) | (simp [go_sem]; omega))⟩
end Go.Proofs.Ytdibobheggffnaa
