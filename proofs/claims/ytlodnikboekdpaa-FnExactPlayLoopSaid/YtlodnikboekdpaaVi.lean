/- Voices: PlayRecording of both sides. -/
import Derived.Test.YtlodnikboekdpaaVh
set_option linter.unusedVariables false
set_option linter.unusedSimpArgs false
namespace Go.Proofs.Ytlodnikboekdpaa
open Fl Go.RowKit
theorem anyClos (i : Int) (p : Nat) (W : World) (h : i = (p : Int)) : Calls Try.prog 93 (#[.int .i64 i] ++ #[]) W fun e W' => e = .returned (.int .i64 ((id p : Nat) : Int)) ∧ ∃ m, W.drewN m = W' := by
  subst h
  show Calls Try.prog 93 #[.int .i64 (p : Int)] W _
  go_enter Try.func93, Try.ntmps93
  go_wp2
  go_ret
  exact ⟨rfl, 0, rfl⟩
theorem recClos (A : Option Addr) (n cc g : Nat) (xs : List Nat) (i : Int) (q : Nat) (W : World) (hi : i = (q : Int)) (hA : Fs W W.heap.size A n xs) (hc : W.cell? ⟨g, 0, none⟩ = some (.slice A n cc)) (hq : q ≤ 2000000) (hn : n ≤ 256) :
    Calls Try.prog 95 (#[.int .i64 i] ++ #[.pointer (some ⟨g, 0, none⟩)]) W fun e W' => ∃ r, e = .returned (.float .f32 r) ∧ Hid (Fv .f32 r (smp n (fun k => ab .f32 (wd xs k)) q)) ∧ W = W' := by
  subst hi
  show Calls Try.prog 95 #[.int .i64 (q : Int), .pointer (some ⟨g, 0, none⟩)] W _
  unfold smp
  by_cases h : q < n
  · rw [if_pos h]
    obtain ⟨gg, off, rfl, hg, hcc⟩ := hA.2.2 (by omega)
    have hcell := hcc q h
    have hx : Hid (Fv .f32 (wd xs q) (ab .f32 (wd xs q))) := Lib.hid ⟨hA.2.1.at_ q, rfl⟩
    clear hcc hA
    go_enter Try.func95, Try.ntmps95
    go_wp2
    go_ret
    exact ⟨_, rfl, hx, rfl⟩
  · rw [if_neg h]
    clear hA
    go_enter Try.func95, Try.ntmps95
    go_wp2
    go_ret
    exact ⟨_, rfl, fv0, rfl⟩
set_option maxHeartbeats 4000000 in
set_option maxRecDepth 100000 in
theorem implRec_ok (A : Option Addr) (n cc : Nat) (xs : List Nat) (f s c : Nat) (w : World) (hA : Fs w w.heap.size A n xs) (h : okPlay n f s c = true) :
    Calls Try.prog 52 #[.slice A n cc, .int .i64 f, .int .i64 s, .int .i64 c] w (PLIB c (plY (smp n (fun k => ab .f32 (wd xs k))) (plc id f s)) (plc id f s c : Nat) true w) := by
  have hb := h
  simp only [okPlay, inB, Bool.and_eq_true, decide_eq_true_eq] at hb
  have HA := Lib.hid hA
  clear hA
  obtain ⟨W, hW⟩ : ∃ W, W = w.alloc (.cells #[.slice A n cc] 34) := ⟨_, rfl⟩
  have S0 : Hid (w.Since w.heap.size W) := Lib.hid (by rw [hW]; exact (World.Since.refl _ _).alloc (Nat.le_refl _) _)
  have z0 : w.heap.size < W.heap.size := by rw [hW]; simp
  have C0 : Hid (W.cell? ⟨w.heap.size, 0, none⟩ = some (.slice A n cc)) := Lib.hid (by rw [hW]; simp [go_sem])
  go_enter Try.func52, Try.ntmps52
  go_wp2_with fail
  rw [← hW]; clear hW
  go_at_call 92
  refine (isPlay_b _ _ _ _ _ _ _ _ h).mono ?_
  rintro e w1 ⟨rfl, hs1⟩
  have HS1 := Lib.hid hs1; clear hs1
  go_wp2_with fail
  refine (play_any 93 95 #[] #[.pointer (some ⟨w.heap.size, 0, none⟩)] id (smp n (fun k => ab .f32 (wd xs k))) f s c w1 (by omega) (by omega) (by omega) (fun _ _ => rfl) (fun _ _ => rfl)
    (fun k hk => by have := plc_le f s (by omega) (by omega) k (by omega); omega) (fun i p W' _ hi _ => anyClos i p W' hi) ?_).mono ?_
  · intro k i q W' hk hq hi hs'
    have hp := plc_le f s (by omega) (by omega) k (by omega)
    have hS := since_step HS1.out hs'
    exact recClos A n cc w.heap.size xs i q W' hi (HA.out.now (S0.out.trans (since_mono hS (by omega)))) ((hS.cell (a := ⟨w.heap.size, 0, none⟩) z0).trans C0.out) (by omega) (by omega)
  rintro e w2 ⟨ys, rfl, hg, ha, hs2⟩
  have HG := Lib.hid hg; have HAA := Lib.hid ha; have HS2 := Lib.hid hs2; clear hg ha hs2
  have z1 := HS1.out.size
  go_wp2
  go_ret3
  exact ⟨⟨some ⟨w1.heap.size, 0, none⟩, c, ys⟩, c, rfl, rfl, HG.out.less (by omega), HAA.out, S0.out.trans (since_mono (since_step HS1.out HS2.out) (by omega))⟩
theorem specRec_no (A : Option Addr) (n cc : Nat) (f s c : Int) (w : World) (h : okPlay n f s c = false) (F : Nat → O) : Calls Try.prog 50 #[.slice A n cc, .int .i64 f, .int .i64 s, .int .i64 c] w (PLIB 0 F 0 false w) := by
  go_enter Try.func50, Try.ntmps50
  go_wp2_with (first | (go_at_call 89; refine (specPlay_b _ _ _ _ _ _ _ _ h).mono ?_; rintro e w' ⟨rfl, rfl⟩))
  go_ret3
  exact PLIB.none_ (by (repeat (first | (with_reducible refine Fl.sinDrew ?_) | (with_reducible refine World.Since.drew ?_) | (with_reducible refine Fl.sinSet ?_ ?_; rotate_left) | (with_reducible refine Fl.sinAlloc ?_ ?_; rotate_left) | with_reducible exact World.Since.refl _ _ | with_reducible assumption | (with_reducible refine Fl.sinStep (by with_reducible assumption) ?_))); all_goals (first | omega | (simp; done) | (simp; omega) | (simp [go_sem]; done) | (simp [go_sem]; omega))) _
theorem implRec_no (A : Option Addr) (n cc : Nat) (f s c : Int) (w : World) (h : okPlay n f s c = false) (F : Nat → O) : Calls Try.prog 52 #[.slice A n cc, .int .i64 f, .int .i64 s, .int .i64 c] w (PLIB 0 F 0 false w) := by
  go_enter Try.func52, Try.ntmps52
  go_wp2_with (first | (go_at_call 92; refine (isPlay_b _ _ _ _ _ _ _ _ h).mono ?_; rintro e w1 ⟨rfl, hs1⟩; have HS1 := Lib.hid hs1; clear hs1))
  go_ret3
  exact PLIB.none_ (World.Since.trans ((World.Since.refl _ _).alloc (Nat.le_refl _) _) (since_mono HS1.out (by simp))) _
end Go.Proofs.Ytlodnikboekdpaa
