/- Filters: one filter over samples, the model's function, and what fails. -/
import Derived.Test.YtebocaicebolaaaGq
set_option linter.unusedVariables false
set_option linter.unusedSimpArgs false
namespace Go.Proofs.Ytebocaicebolaaa
open Fl Go.RowKit
def PLMB (n0 : Nat) (f0 : Nat → O) (M : Mem) (b : Bool) (w : World) (e : Ending) (w' : World) : Prop :=
  ∃ (p : Ls) (c : Nat) (m : MemN), e = .returned (.tuple #[.slice p.A p.n c, m.val, .bool b]) ∧ p.n = n0 ∧ Gs 22 w' w.heap.size p.A p.n p.xs ∧ Are p f0 ∧ FvM m M ∧ w.Since w.heap.size w'
theorem PLMB.none_ {w w' : World} (s : w.Since w.heap.size w') (f0 : Nat → O) : PLMB 0 f0 noM false w (.returned (.tuple #[.slice none 0 0, .agg #[.float .f32 0, .float .f32 0, .float .f32 0, .float .f32 0], .bool false])) w' :=
  ⟨⟨none, 0, []⟩, 0, ⟨0, 0, 0, 0⟩, rfl, rfl, Gs.nil_, (fun k hk => by simp at hk), noM_fv, s⟩
theorem few_fil (A : Option Addr) (n c : Nat) (b : Bool) (w : World) (h : decide ((n : Int) ≤ 256) = b) : Calls Try.prog 59 #[.slice A n c] w fun e w' => e = .returned (.bool b) ∧ w = w' := by
  subst h
  go_enter Try.func59, Try.ntmps59
  go_wp2
  go_ret
  exact ⟨ret_bool (by simp), rfl⟩
set_option maxHeartbeats 8000000 in
set_option maxRecDepth 100000 in
theorem specRF_ok (form : Nat) (hform : form ≤ 2) (fu : Bool) (f : FilN) (m : MemN) (F : Fil) (M : Mem) (A : Option Addr) (n c : Nat) (xs : List Nat) (w : World) (hF : FvF f F) (hM : FvM m M) (hA : Fs w w.heap.size A n xs) (hn : n ≤ 256) :
    Calls Try.prog 13 #[f.val, .int .i64 (form : Int), .bool fu, m.val, .slice A n c] w (PLMB n (filY form fu F M (fun k => ab .f32 (wd xs k))) (filM form fu F M (fun k => ab .f32 (wd xs k)) n) true w) := by
  have h1 : inB (form : Int) 0 2 = true := by simp only [inB, Bool.and_eq_true, decide_eq_true_eq]; omega
  have h2 : decide ((n : Int) ≤ 256) = true := decide_eq_true (by omega)
  have HR := Lib.hid fun (V : World) (hs : w.Since w.heap.size V) (hg : FilAt V w.heap.size f) => specRun_any form hform fu w.heap.size f m F M A n c xs V hg hF hM ((hA.since hs).more hs.size) hn
  obtain ⟨b0, b1, b2, a1, a2⟩ := f
  obtain ⟨ma, mb, mc, md⟩ := m
  unfold MemN.val at *
  unfold FilN.val
  clear hA
  go_enter Try.func13, Try.ntmps13
  go_wp2_with fail
  generalize hW1 : World.alloc w _ = W1
  generalize hW2 : World.alloc W1 _ = W2
  generalize hW3 : World.alloc W2 _ = W3
  have z1 : W1.heap.size = w.heap.size + 1 := by rw [← hW1]; simp
  have z2 : W2.heap.size = w.heap.size + 1 + 1 := by rw [← hW2]; simp [z1]
  have z3 : W3.heap.size = w.heap.size + 1 + 1 + 1 := by rw [← hW3]; simp [z2]
  have FA : FilAt W1 w.heap.size ⟨b0, b1, b2, a1, a2⟩ := by rw [← hW1]; exact ⟨by simp, by simp [go_sem], by simp [go_sem], by simp [go_sem], by simp [go_sem], by simp [go_sem]⟩
  have b1_ : MemB 28 W2 (w.heap.size + 1) ⟨ma, mb, mc, md⟩ := by rw [← hW2, ← z1]; exact MemB.new _ _ _ _ _ _
  have b2_ : MemB 28 W3 (w.heap.size + 1 + 1) ⟨0, 0, 0, 0⟩ := by rw [← hW3, ← z2]; exact MemB.new _ _ _ _ _ _
  have s1 : w.Since w.heap.size W1 := by rw [← hW1]; exact (World.Since.refl _ _).alloc (Nat.le_refl _) _
  have s2 : W1.Since W1.heap.size W2 := by rw [← hW2]; exact (World.Since.refl _ _).alloc (Nat.le_refl _) _
  have s3 : W2.Since W2.heap.size W3 := by rw [← hW3]; exact (World.Since.refl _ _).alloc (Nat.le_refl _) _
  have F3 := Lib.hid ((FA.since (since_mono s2 (by omega))).since (since_mono s3 (by omega)))
  have B1 := Lib.hid (b1_.since s3 (by omega))
  have B2 := Lib.hid b2_
  have S3 : Hid (w.Since w.heap.size W3) := Lib.hid ((s1.trans (since_mono s2 (by omega))).trans (since_mono s3 (by omega)))
  clear hW1 hW2 hW3 s1 s2 s3 b1_ b2_ FA z1 z2
  have m0 := B1.out.c0; have m1 := B1.out.c1; have m2 := B1.out.c2; have m3 := B1.out.c3
  go_wp2_with (first | (go_at_call 58; refine (l02Form_any _ _ _ h1).mono ?_; rintro e w' ⟨rfl, rfl⟩) | (go_at_call 59; refine (few_fil _ _ _ _ _ h2).mono ?_; rintro e w' ⟨rfl, rfl⟩))
  refine (HR.out W3 S3.out F3.out).mono ?_
  rintro e w5 ⟨p, cp, ⟨qa, qb, qc, qd⟩, rfl, rfl, hg, ha, hm, hs⟩
  have hg9 := hg; rw [z3] at hg9; have HG := Lib.hid hg9; clear hg9; have HA := Lib.hid ha; have HM := Lib.hid hm
  have E2 := Lib.hid (B2.out.since hs (by omega))
  have S5 := Lib.hid (since_step S3.out hs)
  have hz5 := hs.size
  clear hg ha hm hs m0 m1 m2 m3
  simp only [MemN.val_mk]
  go_wp2_with fail
  generalize hV : World.alloc w5 _ = V
  have N1 : Hid (MemB 28 V w5.heap.size ⟨qa, qb, qc, qd⟩) := Lib.hid (by rw [← hV]; exact MemB.new _ _ _ _ _ _)
  have E3 : Hid (MemB 28 V (w.heap.size + 1 + 1) ⟨0, 0, 0, 0⟩) := Lib.hid (E2.out.since (B := w5.heap.size) (by rw [← hV]; exact (World.Since.refl _ _).alloc (Nat.le_refl _) _) E2.out.lt)
  have GV : Hid (Gs 22 V (w.heap.size + 1 + 1 + 1) p.A p.n p.xs) := Lib.hid (HG.out.since (by rw [← hV]; exact (World.Since.refl _ _).alloc (Nat.le_refl _) _))
  have SV : Hid (w.Since w.heap.size V) := Lib.hid (by rw [← hV]; exact S5.out.alloc S5.out.size _)
  clear hV
  have e0 := E3.out.c0; have e1 := E3.out.c1; have e2 := E3.out.c2; have e3 := E3.out.c3
  have l0 := E3.out.free 0; have l1 := E3.out.free 1; have l2 := E3.out.free 2; have l3 := E3.out.free 3
  have p0 := N1.out.c0; have p1 := N1.out.c1; have p2 := N1.out.c2; have p3 := N1.out.c3
  have OO : Hid (On (w.heap.size + 1 + 1) V (((((V.setCell ⟨w.heap.size + 1 + 1, 0, none⟩ (.float .f32 qa)).setCell ⟨w.heap.size + 1 + 1, 1, none⟩ (.float .f32 qb)).setCell ⟨w.heap.size + 1 + 1, 2, none⟩ (.float .f32 qc)).setCell ⟨w.heap.size + 1 + 1, 3, none⟩ (.float .f32 qd)))) := Lib.hid (((((On.refl _ _).set _ _).set _ _).set _ _).set _ _)
  have NB := Lib.hid (E3.out.set qa qb qc qd)
  go_wp2_with fail
  go_region
  all_goals
    generalize hV2 : World.setCell _ _ _ = V2 at *
    have g0 := NB.out.c0; have g1 := NB.out.c1; have g2 := NB.out.c2; have g3 := NB.out.c3
    go_wp2
    exact bodyPost_ret (v := .tuple #[.slice p.A p.n cp, .agg #[.float .f32 qa, .float .f32 qb, .float .f32 qc, .float .f32 qd], .bool true]) (by simp [results, Try.results13, go_sem, g0, g1, g2, g3]) rfl
      ⟨p, cp, ⟨qa, qb, qc, qd⟩, rfl, rfl, (gs_low GV.out OO.out (by omega)).less (by omega), HA.out, HM.out, by first | exact SV.out.trans (since_mono OO.out.1 (by omega)) | exact since_drewN (SV.out.trans (since_mono OO.out.1 (by omega))) _⟩
theorem specRF_no (form : Int) (fu : Bool) (f : FilN) (m : MemN) (A : Option Addr) (n c : Nat) (w : World) (h : ¬ (inB form 0 2 = true ∧ n ≤ 256)) (G : Nat → O) :
    Calls Try.prog 13 #[f.val, .int .i64 form, .bool fu, m.val, .slice A n c] w (PLMB 0 G noM false w) := by
  obtain ⟨b0, b1, b2, a1, a2⟩ := f
  obtain ⟨ma, mb, mc, md⟩ := m
  unfold FilN.val MemN.val
  have fin : ∀ (V : World) (k : Nat), MemB 28 V k ⟨0, 0, 0, 0⟩ → V.cell? ⟨k, 0, none⟩ = some (.float .f32 0) ∧ V.cell? ⟨k, 1, none⟩ = some (.float .f32 0) ∧ V.cell? ⟨k, 2, none⟩ = some (.float .f32 0) ∧ V.cell? ⟨k, 3, none⟩ = some (.float .f32 0) := fun V k h => ⟨h.c0, h.c1, h.c2, h.c3⟩
  cases h1 : inB form 0 2
  · go_enter Try.func13, Try.ntmps13
    go_wp2_with (go_at_call 58; refine (l02Form_any _ _ _ h1).mono ?_; rintro e w' ⟨rfl, rfl⟩)
    exact bodyPost_ret (v := .tuple #[.slice none 0 0, .agg #[.float .f32 0, .float .f32 0, .float .f32 0, .float .f32 0], .bool false]) (by simp [results, Try.results13, go_sem]) rfl (PLMB.none_ (by (repeat (first | (with_reducible refine Fl.sinDrew ?_) | (with_reducible refine World.Since.drew ?_) | (with_reducible refine Fl.sinSet ?_ ?_; rotate_left) | (with_reducible refine Fl.sinAlloc ?_ ?_; rotate_left) | with_reducible exact World.Since.refl _ _ | with_reducible assumption | (with_reducible refine Fl.sinStep (by with_reducible assumption) ?_))); all_goals (first | omega | (simp; done) | (simp; omega) | (simp [go_sem]; done) | (simp [go_sem]; omega))) _)
  · have h2 : decide ((n : Int) ≤ 256) = false := decide_eq_false fun h3 => h ⟨h1, by omega⟩
    clear h
    go_enter Try.func13, Try.ntmps13
    go_wp2_with (first | (go_at_call 58; refine (l02Form_any _ _ _ h1).mono ?_; rintro e w' ⟨rfl, rfl⟩) | (go_at_call 59; refine (few_fil _ _ _ _ _ h2).mono ?_; rintro e w' ⟨rfl, rfl⟩))
    exact bodyPost_ret (v := .tuple #[.slice none 0 0, .agg #[.float .f32 0, .float .f32 0, .float .f32 0, .float .f32 0], .bool false]) (by simp [results, Try.results13, go_sem]) rfl (PLMB.none_ (by (repeat (first | (with_reducible refine Fl.sinDrew ?_) | (with_reducible refine World.Since.drew ?_) | (with_reducible refine Fl.sinSet ?_ ?_; rotate_left) | (with_reducible refine Fl.sinAlloc ?_ ?_; rotate_left) | with_reducible exact World.Since.refl _ _ | with_reducible assumption | (with_reducible refine Fl.sinStep (by with_reducible assumption) ?_))); all_goals (first | omega | (simp; done) | (simp; omega) | (simp [go_sem]; done) | (simp [go_sem]; omega))) _)
end Go.Proofs.Ytebocaicebolaaa
