/- Dynamics: the program's lists: clipped samples. -/
import Derived.Test.YteggicdhgcecpaaEd
import Derived.Test.YteggicdhgcecpaaDr
import Derived.Test.YteggicdhgcecpaaDs
set_option linter.unusedVariables false
set_option linter.unusedSimpArgs false
namespace Go.Proofs.Yteggicdhgcecpaa
open Fl Go.RowKit
theorem clipClos_any (q l gb : Nat) (Q L : O) (W : World) (hq : Hid (Fv .f32 q Q)) (hl : Hid (Fv .f32 l L)) (hc : W.cell? ⟨gb, 0, none⟩ = some (.float .f32 l)) :
    Calls Try.prog 52 #[.float .f32 q, .pointer (some ⟨gb, 0, none⟩)] W fun e W' => ∃ r, e = .returned (.float .f32 r) ∧ Hid (Fv .f32 r (clipO Q L)) ∧ W = W' := by
  go_enter Try.func52, Try.ntmps52
  go_wp2_with (go_at_call 53; refine (implClip_any _ _ _ _ _ hq hl).mono ?_; rintro e w2 ⟨r, rfl, hr2, rfl⟩)
  go_ret
  exact ⟨_, rfl, hr2, rfl⟩
set_option maxHeartbeats 4000000 in
set_option maxRecDepth 100000 in
theorem implClipS_ok (A : Option Addr) (n c : Nat) (xs : List Nat) (l : Nat) (L : O) (w : World) (hA : Fs w w.heap.size A n xs) (hn : n ≤ 256) (hl : Hid (Fv .f32 l L)) :
    Calls Try.prog 27 #[.slice A n c, .float .f32 l] w (PLB n (fun k => clipO (ab .f32 (wd xs k)) L) true w) := by
  have hfew : decide ((n : Int) ≤ 256) = true := decide_eq_true (by omega)
  have HA := Lib.hid hA
  clear hA
  obtain ⟨W1, hW1⟩ : ∃ W, W = w.alloc (.cells #[.float .f32 l] 22) := ⟨_, rfl⟩
  have S1 : Hid (w.Since w.heap.size W1) := Lib.hid (by rw [hW1]; exact (World.Since.refl _ _).alloc (Nat.le_refl _) _)
  have z1 : W1.heap.size = w.heap.size + 1 := by rw [hW1]; simp
  have C1 : Hid (W1.cell? ⟨w.heap.size, 0, none⟩ = some (.float .f32 l)) := Lib.hid (by rw [hW1]; simp [go_sem])
  go_enter Try.func27, Try.ntmps27
  go_wp2_with (first | (go_at_call 43; refine (implSamples_b _ _ _ _ _ hfew).mono ?_; rintro e w' ⟨rfl, rfl⟩) | fail)
  rw [← hW1]
  refine (results_any A n c xs 52 #[.pointer (some ⟨w.heap.size, 0, none⟩)] w.heap.size (fun _ W => W.cell? ⟨w.heap.size, 0, none⟩ = some (.float .f32 l)) (fun k => clipO (ab .f32 (wd xs k)) L) W1 (HA.out.since S1.out) (by omega) hn (fun _ _ => rfl) ?hI ?hst C1.out).mono ?_
  case hI => exact fun k W W' h1 h2 h3 h4 => (cell_of_block (h4 _ (by omega)) 0).trans h1
  case hst =>
    rintro k q W hk rfl hi hs
    exact (clipClos_any _ l w.heap.size _ L W (Lib.hid ⟨HA.out.2.1.at_ k, rfl⟩) hl hi).mono fun e W' ⟨r, h1, h2, h3⟩ => by subst h3; exact ⟨r, h1, h2, hi, On.refl _ _⟩
  rintro e w2 ⟨ys, rfl, hg, ha, _, ho⟩
  rw [z1] at hg
  have HG := Lib.hid hg; have HAA := Lib.hid ha; have HO := Lib.hid ho; clear hg ha ho
  go_wp2
  go_ret2
  exact ⟨⟨some ⟨w.heap.size + 1, 0, none⟩, n, ys⟩, n, rfl, rfl, HG.out.less (by omega), HAA.out, S1.out.trans (HO.out.since (Nat.le_refl _))⟩
theorem specClipS_no (A : Option Addr) (n c l : Nat) (w : World) (hn : ¬ n ≤ 256) (f : Nat → O) : Calls Try.prog 26 #[.slice A n c, .float .f32 l] w (PLB 0 f false w) := by
  have hfew : decide ((n : Int) ≤ 256) = false := decide_eq_false (by omega)
  go_enter Try.func26, Try.ntmps26
  go_wp2_with (first | (go_at_call 33; refine (specFew_any _ _ _ _ _ hfew).mono ?_; rintro e w' ⟨rfl, rfl⟩))
  go_ret2
  exact PLB.none_ (by (repeat (first | (with_reducible refine Fl.sinDrew ?_) | (with_reducible refine World.Since.drew ?_) | (with_reducible refine Fl.sinSet ?_ ?_; rotate_left) | (with_reducible refine Fl.sinAlloc ?_ ?_; rotate_left) | with_reducible exact World.Since.refl _ _ | with_reducible assumption | (with_reducible refine Fl.sinStep (by with_reducible assumption) ?_))); all_goals (first | omega | (simp; done) | (simp; omega) | (simp [go_sem]; done) | (simp [go_sem]; omega))) _
theorem implClipS_no (A : Option Addr) (n c l : Nat) (w : World) (hn : ¬ n ≤ 256) (f : Nat → O) : Calls Try.prog 27 #[.slice A n c, .float .f32 l] w (PLB 0 f false w) := by
  have hfew : decide ((n : Int) ≤ 256) = false := decide_eq_false (by omega)
  go_enter Try.func27, Try.ntmps27
  go_wp2_with (first | (go_at_call 43; refine (implSamples_b _ _ _ _ _ hfew).mono ?_; rintro e w' ⟨rfl, rfl⟩))
  go_ret2
  exact PLB.none_ (by (repeat (first | (with_reducible refine Fl.sinDrew ?_) | (with_reducible refine World.Since.drew ?_) | (with_reducible refine Fl.sinSet ?_ ?_; rotate_left) | (with_reducible refine Fl.sinAlloc ?_ ?_; rotate_left) | with_reducible exact World.Since.refl _ _ | with_reducible assumption | (with_reducible refine Fl.sinStep (by with_reducible assumption) ?_))); all_goals (first | omega | (simp; done) | (simp; omega) | (simp [go_sem]; done) | (simp [go_sem]; omega))) _
end Go.Proofs.Yteggicdhgcecpaa
