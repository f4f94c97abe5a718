/- Dynamics: fades. -/
import Derived.Test.YtfgebggfoboalaaEe
import Derived.Test.YtfgebggfoboalaaEf
set_option linter.unusedVariables false
set_option linter.unusedSimpArgs false
namespace Go.Proofs.Ytfgebggfoboalaa
open Fl Go.RowKit
def fI (k : Int) : Nat := floatOfInt .f32 k
theorem fI_fv (k : Int) : Hid (Fv .f32 (floatOfInt .f32 k) (some (fI k))) := Lib.hid (fv_write .f32 (d := .number (decide (k < 0)) k.natAbs 0) rfl)
def fadeG (f t : O) (i n : Int) : O := ad f (mu (su t f) (qu (some (fI i)) (some (fI n))))
theorem fadeClos_any (k n : Nat) (f t g1 g2 g3 : Nat) (F T : O) (W : World) (hf : Hid (Fv .f32 f F)) (ht : Hid (Fv .f32 t T)) (hc1 : W.cell? ⟨g1, 0, none⟩ = some (.float .f32 f)) (hc2 : W.cell? ⟨g2, 0, none⟩ = some (.float .f32 t))
    (hc3 : W.cell? ⟨g3, 0, none⟩ = some (.float .f32 (floatOfInt .f32 (n : Int)))) :
    Calls Try.prog 28 #[.int .i64 (k : Int), .pointer (some ⟨g1, 0, none⟩), .pointer (some ⟨g2, 0, none⟩), .pointer (some ⟨g3, 0, none⟩)] W fun e W' => ∃ r m, e = .returned (.float .f32 r) ∧ Hid (Fv .f32 r (fadeG F T k n)) ∧ W.drewN m = W' := by
  have q1 := fI_fv (k : Nat)
  have q2 := fI_fv (n : Nat)
  go_enter Try.func28, Try.ntmps28
  go_wp2_with (with_reducible_and_instances refine Lo.wpList_fo _ rfl _ _ _ _ _ rfl _ _ _ _ _ rfl rfl rfl (by assumption) (by assumption) ?_; intro rr nn hrr)
  go_ret
  exact ⟨_, _, rfl, hrr, rfl⟩
set_option maxHeartbeats 4000000 in
set_option maxRecDepth 100000 in
theorem implFade_ok (A : Option Addr) (n c : Nat) (xs : List Nat) (f t : Nat) (F T : O) (w : World) (hA : Fs w w.heap.size A n xs) (hn : n ≤ 256) (hf : Hid (Fv .f32 f F)) (ht : Hid (Fv .f32 t T)) :
    Calls Try.prog 13 #[.slice A n c, .float .f32 f, .float .f32 t] w (PLB n (fun k => mu (ab .f32 (wd xs k)) (fadeG F T k n)) true w) := by
  have hfew : decide ((n : Int) ≤ 256) = true := decide_eq_true (by omega)
  have HA := Lib.hid hA
  clear hA
  go_enter Try.func13, Try.ntmps13
  go_wp2_with (first | (go_at_call 25; refine (implSamples_b _ _ _ _ _ hfew).mono ?_; rintro e w' ⟨rfl, rfl⟩) | fail)
  generalize hW : World.alloc _ _ = W
  have S1 : Hid (w.Since w.heap.size W) := Lib.hid (by rw [← hW]; exact ((World.Since.refl _ _).alloc (Nat.le_refl _) _).alloc (by simp) _ |>.alloc (by simp; omega) _)
  have z1 : Hid (W.heap.size = w.heap.size + 1 + 1 + 1) := Lib.hid (by rw [← hW]; simp)
  have C1 : Hid (W.cell? ⟨w.heap.size, 0, none⟩ = some (.float .f32 f)) := Lib.hid (by rw [← hW]; simp [go_sem])
  have C2 : Hid (W.cell? ⟨w.heap.size + 1, 0, none⟩ = some (.float .f32 t)) := Lib.hid (by rw [← hW]; simp [go_sem])
  have C3 : Hid (W.cell? ⟨w.heap.size + 1 + 1, 0, none⟩ = some (.float .f32 (floatOfInt .f32 (n : Int)))) := Lib.hid (by rw [← hW]; simp [go_sem])
  clear hW
  have z2 := z1.out
  refine (gains_any A n c xs 28 #[.pointer (some ⟨w.heap.size, 0, none⟩), .pointer (some ⟨w.heap.size + 1, 0, none⟩), .pointer (some ⟨w.heap.size + 1 + 1, 0, none⟩)] w.heap.size (fun _ W => W.cell? ⟨w.heap.size, 0, none⟩ = some (.float .f32 f) ∧ W.cell? ⟨w.heap.size + 1, 0, none⟩ = some (.float .f32 t) ∧ W.cell? ⟨w.heap.size + 1 + 1, 0, none⟩ = some (.float .f32 (floatOfInt .f32 (n : Int)))) (fun k => fadeG F T k n) W (HA.out.since S1.out) (by omega) hn (fun _ _ => rfl) ?hI ?hst ⟨C1.out, C2.out, C3.out⟩).mono ?_
  case hI => exact fun k W W' h1 h2 h3 h4 => ⟨(cell_of_block (h4 _ (by omega)) 0).trans h1.1, (cell_of_block (h4 _ (by omega)) 0).trans h1.2.1, (cell_of_block (h4 _ (by omega)) 0).trans h1.2.2⟩
  case hst =>
    rintro k W hk hi hs
    exact (fadeClos_any k n f t _ _ _ F T W hf ht hi.1 hi.2.1 hi.2.2).mono fun e W' ⟨r, m, h1, h2, h3⟩ => by subst h3; exact ⟨r, h1, h2, hi, (On.refl _ _).drewN m⟩
  rintro e w2 ⟨ys, rfl, hg, ha, _, ho⟩
  rw [z2] at hg
  clear z2
  have HG := Lib.hid hg; have HAA := Lib.hid ha; have HO := Lib.hid ho; clear hg ha ho
  rw [z1.out]
  go_wp2
  go_ret2
  exact ⟨⟨some ⟨w.heap.size + 1 + 1 + 1, 0, none⟩, n, ys⟩, n, rfl, rfl, HG.out.less (by omega), HAA.out, S1.out.trans (HO.out.since (Nat.le_refl _))⟩
theorem implFade_no (A : Option Addr) (n c f t : Nat) (w : World) (hn : ¬ n ≤ 256) (F : Nat → O) : Calls Try.prog 13 #[.slice A n c, .float .f32 f, .float .f32 t] w (PLB 0 F false w) := by
  have hfew : decide ((n : Int) ≤ 256) = false := decide_eq_false (by omega)
  go_enter Try.func13, Try.ntmps13
  go_wp2_with (first | (go_at_call 25; refine (implSamples_b _ _ _ _ _ hfew).mono ?_; rintro e w' ⟨rfl, rfl⟩))
  go_ret2
  exact PLB.none_ (by (repeat (first | (with_reducible refine Fl.sinDrew ?_) | (with_reducible refine World.Since.drew ?_) | (with_reducible refine Fl.sinSet ?_ ?_; rotate_left) | (with_reducible refine Fl.sinAlloc ?_ ?_; rotate_left) | with_reducible exact World.Since.refl _ _ | with_reducible assumption | (with_reducible refine Fl.sinStep (by with_reducible assumption) ?_))); all_goals (first | omega | (simp; done) | (simp; omega) | (simp [go_sem]; done) | (simp [go_sem]; omega))) _
/-! the gate -/
def PLIB (n0 : Nat) (f0 : Nat → Option Nat) (i : Int) (b : Bool) (w : World) (e : Ending) (w' : World) : Prop :=
  ∃ (p : Ls) (c : Nat), e = .returned (.tuple #[.slice p.A p.n c, .int .i64 i, .bool b]) ∧ p.n = n0 ∧ Gs 26 w' w.heap.size p.A p.n p.xs ∧ Are p f0 ∧ w.Since w.heap.size w'
theorem PLIB.none_ {w w' : World} (s : w.Since w.heap.size w') (f0 : Nat → Option Nat) : PLIB 0 f0 0 false w (.returned (.tuple #[.slice none 0 0, .int .i64 0, .bool false])) w' :=
  ⟨⟨none, 0, []⟩, 0, rfl, rfl, Gs.nil_, (fun k hk => by simp at hk), s⟩
def gateH (X : Nat → O) (T : O) (hold held : Int) : Nat → Int
  | 0 => held
  | k + 1 => if geO (sizeO (X k)) T then hold else if 0 < gateH X T hold held k then gateH X T hold held k - 1 else gateH X T hold held k
def gateY (X : Nat → O) (T : O) (hold held : Int) (k : Nat) : O := if geO (sizeO (X k)) T then X k else if 0 < gateH X T hold held k then X k else some 0
theorem gateH_in {X : Nat → O} {T : O} {hold held : Int} (h1 : 0 ≤ held) (h2 : held ≤ hold) (k : Nat) : 0 ≤ gateH X T hold held k ∧ gateH X T hold held k ≤ hold := by
  induction k with
  | zero => exact ⟨h1, h2⟩
  | succ k ih => unfold gateH; split; omega; split <;> omega
def okHold (hold held : Int) : Bool := inB hold 0 10000 && inB held 0 hold
theorem allow_any (a b x : Int) (w : World) :
    Calls Try.prog 50 #[.agg #[.int .i64 a, .int .i64 b], .int .i64 x] w fun e w' => e = .returned (.bool (inB x a b)) ∧ w.Since w.heap.size w' := by
  by_cases h : a ≤ x
  all_goals
    go_enter Try.func50, Try.ntmps50
    go_wp2
    go_ret
    exact ⟨ret_bool (by simp [inB]; omega), by (repeat (first | (with_reducible refine Fl.sinDrew ?_) | (with_reducible refine World.Since.drew ?_) | (with_reducible refine Fl.sinSet ?_ ?_; rotate_left) | (with_reducible refine Fl.sinAlloc ?_ ?_; rotate_left) | with_reducible exact World.Since.refl _ _ | with_reducible assumption | (with_reducible refine Fl.sinStep (by with_reducible assumption) ?_))); all_goals (first | omega | (simp; done) | (simp; omega) | (simp [go_sem]; done) | (simp [go_sem]; omega))⟩
end Go.Proofs.Ytfgebggfoboalaa
