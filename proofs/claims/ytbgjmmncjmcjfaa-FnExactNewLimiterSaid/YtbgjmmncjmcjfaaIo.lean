/- NewLimiter of both sides. -/
import Derived.Test.YtbgjmmncjmcjfaaRc
import Derived.Test.YtbgjmmncjmcjfaaDe
import Derived.Test.YtbgjmmncjmcjfaaHb
import Derived.Test.YtbgjmmncjmcjfaaVa
set_option linter.unusedVariables false
set_option linter.unusedSimpArgs false
namespace Go.Proofs.Ytbgjmmncjmcjfaa
open Fl Go.RowKit
/-- a limiter's value, and its block -/
def limV (l r g : Nat) (A : Option Addr) (n c : Nat) : Value := .agg #[.float .f32 l, .float .f32 r, .float .f32 g, .slice A n c]
def LimB (w : World) (b l r g : Nat) (A : Option Addr) (n c : Nat) : Prop := w.heap[b]? = some (.cells #[.float .f32 l, .float .f32 r, .float .f32 g, .slice A n c] 57 (0, 0))
theorem LimB.c0 {w : World} {b l r g n c : Nat} {A : Option Addr} (h : LimB w b l r g A n c) : w.cell? ⟨b, 0, none⟩ = some (.float .f32 l) := by unfold LimB at h; simp [World.cell?, h]
theorem LimB.c1 {w : World} {b l r g n c : Nat} {A : Option Addr} (h : LimB w b l r g A n c) : w.cell? ⟨b, 1, none⟩ = some (.float .f32 r) := by unfold LimB at h; simp [World.cell?, h]
theorem LimB.c2 {w : World} {b l r g n c : Nat} {A : Option Addr} (h : LimB w b l r g A n c) : w.cell? ⟨b, 2, none⟩ = some (.float .f32 g) := by unfold LimB at h; simp [World.cell?, h]
theorem LimB.c3 {w : World} {b l r g n c : Nat} {A : Option Addr} (h : LimB w b l r g A n c) : w.cell? ⟨b, 3, none⟩ = some (.slice A n c) := by unfold LimB at h; simp [World.cell?, h]
theorem LimB.free {w : World} {b l r g n c q : Nat} {A : Option Addr} (h : LimB w b l r g A n c) : w.frozen? ⟨b, q, none⟩ = false := by unfold LimB at h; simp [World.frozen?, h]
theorem LimB.of {w w' : World} {b l r g n c : Nat} {A : Option Addr} (h : LimB w b l r g A n c) (e : w'.heap[b]? = w.heap[b]?) : LimB w' b l r g A n c := e.trans h
theorem LimB.set4 {w : World} {b l r g n c l' r' g' n' c' : Nat} {A A' : Option Addr} (h : LimB w b l r g A n c) : LimB ((((w.setCell ⟨b, 0, none⟩ (.float .f32 l')).setCell ⟨b, 1, none⟩ (.float .f32 r')).setCell ⟨b, 2, none⟩ (.float .f32 g')).setCell ⟨b, 3, none⟩ (.slice A' n' c')) b l' r' g' A' n' c' := by
  unfold LimB at h ⊢
  simp [World.setCell, Array.getElem?_modify, h]
theorem LimB.new (w : World) : LimB (w.alloc (.cells #[.float .f32 0, .float .f32 0, .float .f32 0, .slice none 0 0] 57)) w.heap.size 0 0 0 none 0 0 := Go.Deep.blk_alloc_new _ _
def PLIM (n0 : Nat) (L R G : O) (b : Bool) (w : World) (e : Ending) (w' : World) : Prop :=
  ∃ (p : Ls) (c l r g : Nat), e = .returned (.tuple #[limV l r g p.A p.n c, .bool b]) ∧ p.n = n0 ∧ Ge w.heap.size w' (fe p.A p.n p.xs) ∧ Are p (fun _ => ab .f32 0) ∧ Hid (Fv .f32 l L) ∧ Hid (Fv .f32 r R) ∧ Hid (Fv .f32 g G) ∧ w.Since w.heap.size w'
theorem PLIM.none_ {w w' : World} (s : w.Since w.heap.size w') : PLIM 0 (some 0) (some 0) (some 0) false w (.returned (.tuple #[.agg #[.float .f32 0, .float .f32 0, .float .f32 0, .slice none 0 0], .bool false])) w' :=
  ⟨⟨none, 0, []⟩, 0, 0, 0, 0, rfl, rfl, Gs.nil_.toE, (fun k hk => by simp at hk), fv0, fv0, fv0, s⟩
theorem isAhead_b (x : Int) (b : Bool) (w : World) (h : inB x 0 64 = b) : Calls Try.prog 88 #[.int .i64 x] w fun e w' => e = .returned (.bool b) ∧ w.Since w.heap.size w' := by
  subst h
  go_enter Try.func88, Try.ntmps88
  go_wp2_with (first | (go_at_call 68; refine (allowX_any _ _ _ _).mono ?_; rintro e w' ⟨rfl, rfl⟩))
  go_ret
  exact ⟨rfl, by (repeat (first | (with_reducible refine Fl.sinDrew ?_) | (with_reducible refine World.Since.drew ?_) | (with_reducible refine Fl.sinSet ?_ ?_; rotate_left) | (with_reducible refine Fl.sinAlloc ?_ ?_; rotate_left) | with_reducible exact World.Since.refl _ _ | with_reducible assumption | (with_reducible refine Fl.sinStep (by with_reducible assumption) ?_))); all_goals (first | omega | (simp; done) | (simp; omega) | (simp [go_sem]; done) | (simp [go_sem]; omega))⟩
theorem l00Ahead_b (x : Int) (b : Bool) (w : World) (h : inB x 0 64 = b) : Calls Try.prog 78 #[.int .i64 x, .int .i64 0, .int .i64 64] w fun e w' => e = .returned (.bool b) ∧ w.Since w.heap.size w' :=
  (specHold_b x 0 64 b w h).mono fun e w' ⟨h1, h2⟩ => ⟨h1, h2 ▸ World.Since.refl _ _⟩
set_option maxHeartbeats 2000000 in
set_option maxRecDepth 100000 in
theorem specNewLim_no (l r : Nat) (x : Int) (w : World) (hl : l < 4294967296) (h : (limB l && inB x 0 64) = false) :
    Calls Try.prog 42 #[.float .f32 l, .float .f32 r, .int .i64 x] w (PLIM 0 (some 0) (some 0) (some 0) false w) := by
  obtain ⟨W1, hW1⟩ : ∃ W, W = w.alloc (.cells #[.float .f32 0, .float .f32 0, .float .f32 0, .slice none 0 0] 57) := ⟨_, rfl⟩
  have z1 : W1.heap.size = w.heap.size + 1 := by rw [hW1]; simp
  have b1 : LimB W1 w.heap.size 0 0 0 none 0 0 := by rw [hW1]; exact LimB.new w
  have s1 : w.Since w.heap.size W1 := by rw [hW1]; exact (World.Since.refl _ _).alloc (Nat.le_refl _) _
  have Z1 := Lib.hid z1; have B1 := Lib.hid b1; have S1 := Lib.hid s1; have HW1 := Lib.hid hW1
  clear hW1 z1 b1 s1
  cases h1 : limB l
  all_goals
    first
    | (have h2 : inB x 0 64 = false := by simpa [h1] using h)
    | skip
  case' true => 
    clear h
    go_enter Try.func42, Try.ntmps42
    go_wp2_with fail
    rw [← HW1.out]
    refine (specLimit_b l true _ hl h1).mono ?_
    rintro e W2 ⟨rfl, hs⟩
    have S2 := Lib.hid (since_step S1.out hs)
    have B2 := Lib.hid (B1.out.of (hs.block _ (by have := Z1.out; omega)))
    have Z2 : Hid (w.heap.size + 1 ≤ W2.heap.size) := Lib.hid (by have := hs.size; have := Z1.out; omega)
    clear hs S1 B1 Z1
    go_wp2_with fail
    refine (l00Ahead_b x false _ h2).mono ?_
    rintro e W3 ⟨rfl, hs⟩
    have S3 := Lib.hid (since_step S2.out hs)
    have B3 := Lib.hid (B2.out.of (hs.block _ (by have := Z2.out; omega)))
    have Z3 : Hid (w.heap.size + 1 ≤ W3.heap.size) := Lib.hid (by have := hs.size; have := Z2.out; omega)
    clear hs S2 B2 Z2
    have d1 := B3.out.c0
    have d2 := B3.out.c1
    have d3 := B3.out.c2
    have d4 := B3.out.c3
    have e0 := fun o => B3.out.free (q := o)
    go_wp2_with fail
    have G := B3.out.set4 (l' := 0) (r' := 0) (g' := 0) (A' := none) (n' := 0) (c' := 0)
    have SS := (((S3.out.setCell (a := ⟨w.heap.size, 0, none⟩) (by simp) (.float .f32 0)).setCell (a := ⟨w.heap.size, 1, none⟩) (by simp) (.float .f32 0)).setCell (a := ⟨w.heap.size, 2, none⟩) (by simp) (.float .f32 0)).setCell (a := ⟨w.heap.size, 3, none⟩) (by simp) (.slice none 0 0)
  case' false =>
    clear h
    go_enter Try.func42, Try.ntmps42
    go_wp2_with fail
    rw [← HW1.out]
    refine (specLimit_b l false _ hl h1).mono ?_
    rintro e W3 ⟨rfl, hs⟩
    have S3 := Lib.hid (since_step S1.out hs)
    have B3 := Lib.hid (B1.out.of (hs.block _ (by have := Z1.out; omega)))
    have Z3 : Hid (w.heap.size + 1 ≤ W3.heap.size) := Lib.hid (by have := hs.size; have := Z1.out; omega)
    clear hs S1 B1 Z1
    have d1 := B3.out.c0
    have d2 := B3.out.c1
    have d3 := B3.out.c2
    have d4 := B3.out.c3
    have e0 := fun o => B3.out.free (q := o)
    go_wp2_with fail
    have G := B3.out.set4 (l' := 0) (r' := 0) (g' := 0) (A' := none) (n' := 0) (c' := 0)
    have SS := (((S3.out.setCell (a := ⟨w.heap.size, 0, none⟩) (by simp) (.float .f32 0)).setCell (a := ⟨w.heap.size, 1, none⟩) (by simp) (.float .f32 0)).setCell (a := ⟨w.heap.size, 2, none⟩) (by simp) (.float .f32 0)).setCell (a := ⟨w.heap.size, 3, none⟩) (by simp) (.slice none 0 0)
  all_goals
    clear d1 d2 d3 d4 e0 B3 S3
    generalize World.setCell _ _ _ = W9 at *
    have g1 := G.c0
    have g2 := G.c1
    have g3 := G.c2
    have g4 := G.c3
    exact bodyPost_ret (v := .tuple #[.agg #[.float .f32 0, .float .f32 0, .float .f32 0, .slice none 0 0], .bool false]) (by simp [results, Try.results42, go_sem, g1, g2, g3, g4]) rfl (PLIM.none_ SS)
set_option maxHeartbeats 2000000 in
set_option maxRecDepth 100000 in
theorem specNewLim_ok (l r n : Nat) (L R : O) (w : World) (hl : l < 4294967296) (hL : Hid (Fv .f32 l L)) (hR : Hid (Fv .f32 r R)) (h1 : limB l = true) (h2 : inB (n : Int) 0 64 = true) (hn : n ≤ 64) :
    Calls Try.prog 42 #[.float .f32 l, .float .f32 r, .int .i64 n] w (PLIM n L R (ab .f32 1065353216) true w) := by
  have hmk := fun W => run_make_row' (P := Try.prog) 22 55 (.float .f32 0) 4 Try.underlying22 Try.infoF rfl .i64 .i64 n (by omega) (by omega) W
  obtain ⟨W1, hW1⟩ : ∃ W, W = w.alloc (.cells #[.float .f32 0, .float .f32 0, .float .f32 0, .slice none 0 0] 57) := ⟨_, rfl⟩
  have z1 : W1.heap.size = w.heap.size + 1 := by rw [hW1]; simp
  have b1 : LimB W1 w.heap.size 0 0 0 none 0 0 := by rw [hW1]; exact LimB.new w
  have s1 : w.Since w.heap.size W1 := by rw [hW1]; exact (World.Since.refl _ _).alloc (Nat.le_refl _) _
  have Z1 := Lib.hid z1; have B1 := Lib.hid b1; have S1 := Lib.hid s1; have HW1 := Lib.hid hW1
  clear hW1 z1 b1 s1
  go_enter Try.func42, Try.ntmps42
  go_wp2_with fail
  rw [← HW1.out]
  refine (specLimit_b l true _ hl h1).mono ?_
  rintro e W2 ⟨rfl, hs⟩
  have S2 := Lib.hid (since_step S1.out hs)
  have B2 := Lib.hid (B1.out.of (hs.block _ (by have := Z1.out; omega)))
  have Z2 : Hid (w.heap.size + 1 ≤ W2.heap.size) := Lib.hid (by have := hs.size; have := Z1.out; omega)
  clear hs S1 B1 Z1
  go_wp2_with fail
  refine (l00Ahead_b n true _ h2).mono ?_
  rintro e W3 ⟨rfl, hs⟩
  have S3 := Lib.hid (since_step S2.out hs)
  have B3 := Lib.hid (B2.out.of (hs.block _ (by have := Z2.out; omega)))
  have Z3 : Hid (w.heap.size + 1 ≤ W3.heap.size) := Lib.hid (by have := hs.size; have := Z2.out; omega)
  clear hs S2 B2 Z2
  obtain ⟨V, hV⟩ : ∃ V, V = W3.alloc (.cells (madeCells #[.float .f32 0] n) 55) := ⟨_, rfl⟩
  have hmk1 := hmk W3
  rw [← hV] at hmk1
  clear hmk
  have B4 : Hid (LimB V w.heap.size 0 0 0 none 0 0) := Lib.hid (B3.out.of (by rw [hV]; exact blk_keep _ (by have := Z3.out; omega)))
  have S4 : Hid (w.Since w.heap.size V) := Lib.hid (by rw [hV]; exact S3.out.alloc (by have := Z3.out; omega) _)
  have G4 : Hid (Ge (w.heap.size + 1) V (fe (some ⟨W3.heap.size, 0, none⟩) n (List.replicate n 0))) := Lib.hid (Gs.toE ⟨by simp, small_zeros n, fun _ => by
    obtain ⟨cs, hb, _, hc⟩ := World.rowIs_made W3 (.float .f32 0) n 55
    exact ⟨_, cs, rfl, Z3.out, by rw [hV]; exact hb, fun k hk => by rw [fv_zeros]; exact hc k hk⟩⟩)
  clear hV
  have d1 := B4.out.c0
  have d2 := B4.out.c1
  have d3 := B4.out.c2
  have d4 := B4.out.c3
  have e0 := fun o => B4.out.free (q := o)
  go_wp2_with fail
  have G := B4.out.set4 (l' := l) (r' := r) (g' := 1065353216) (A' := some ⟨W3.heap.size, 0, none⟩) (n' := n) (c' := n)
  have SS := (((S4.out.setCell (a := ⟨w.heap.size, 0, none⟩) (by simp) (.float .f32 l)).setCell (a := ⟨w.heap.size, 1, none⟩) (by simp) (.float .f32 r)).setCell (a := ⟨w.heap.size, 2, none⟩) (by simp) (.float .f32 1065353216)).setCell (a := ⟨w.heap.size, 3, none⟩) (by simp) (.slice (some ⟨W3.heap.size, 0, none⟩) n n)
  have GG : Ge (w.heap.size + 1) ((((V.setCell ⟨w.heap.size, 0, none⟩ (.float .f32 l)).setCell ⟨w.heap.size, 1, none⟩ (.float .f32 r)).setCell ⟨w.heap.size, 2, none⟩ (.float .f32 1065353216)).setCell ⟨w.heap.size, 3, none⟩ (.slice (some ⟨W3.heap.size, 0, none⟩) n n)) _ := G4.out.keep (fun b hb => by
    have hb1 : b ≠ w.heap.size := by have := (G4.out.2.2 b hb).1; omega
    exact (Go.Deep.blk_setCell_other _ _ _ _ hb1).trans ((Go.Deep.blk_setCell_other _ _ _ _ hb1).trans ((Go.Deep.blk_setCell_other _ _ _ _ hb1).trans (Go.Deep.blk_setCell_other _ _ _ _ hb1)))) (by simp)
  clear d1 d2 d3 d4 e0 B4 S4 G4
  generalize World.setCell _ _ _ = W9 at *
  have g1 := G.c0
  have g2 := G.c1
  have g3 := G.c2
  have g4 := G.c3
  exact bodyPost_ret (v := .tuple #[.agg #[.float .f32 l, .float .f32 r, .float .f32 1065353216, .slice (some ⟨W3.heap.size, 0, none⟩) n n], .bool true]) (by simp [results, Try.results42, go_sem, g1, g2, g3, g4]) rfl
    ⟨⟨some ⟨W3.heap.size, 0, none⟩, n, List.replicate n 0⟩, n, l, r, 1065353216, rfl, rfl, GG.less (by omega), (fun k hk => by rw [wd_zeros]), hL, hR, Lib.hid (fvs (by decide)), SS⟩
set_option maxHeartbeats 2000000 in
set_option maxRecDepth 100000 in
theorem implNewLim_no (l r : Nat) (x : Int) (w : World) (hl : l < 4294967296) (h : (limB l && inB x 0 64) = false) :
    Calls Try.prog 43 #[.float .f32 l, .float .f32 r, .int .i64 x] w (PLIM 0 (some 0) (some 0) (some 0) false w) := by
  obtain ⟨W1, hW1⟩ : ∃ W, W = w.alloc (.cells #[.float .f32 0, .float .f32 0, .float .f32 0, .slice none 0 0] 57) := ⟨_, rfl⟩
  have z1 : W1.heap.size = w.heap.size + 1 := by rw [hW1]; simp
  have b1 : LimB W1 w.heap.size 0 0 0 none 0 0 := by rw [hW1]; exact LimB.new w
  have s1 : w.Since w.heap.size W1 := by rw [hW1]; exact (World.Since.refl _ _).alloc (Nat.le_refl _) _
  have Z1 := Lib.hid z1; have B1 := Lib.hid b1; have S1 := Lib.hid s1; have HW1 := Lib.hid hW1
  clear hW1 z1 b1 s1
  cases h1 : limB l
  all_goals
    first
    | (have h2 : inB x 0 64 = false := by simpa [h1] using h)
    | skip
  case' true => 
    clear h
    go_enter Try.func43, Try.ntmps43
    go_wp2_with fail
    rw [← HW1.out]
    refine (implLimit_b l true _ hl h1).mono ?_
    rintro e W2 ⟨rfl, hs⟩
    have S2 := Lib.hid (since_step S1.out hs)
    have B2 := Lib.hid (B1.out.of (hs.block _ (by have := Z1.out; omega)))
    have Z2 : Hid (w.heap.size + 1 ≤ W2.heap.size) := Lib.hid (by have := hs.size; have := Z1.out; omega)
    clear hs S1 B1 Z1
    go_wp2_with fail
    refine (isAhead_b x false _ h2).mono ?_
    rintro e W3 ⟨rfl, hs⟩
    have S3 := Lib.hid (since_step S2.out hs)
    have B3 := Lib.hid (B2.out.of (hs.block _ (by have := Z2.out; omega)))
    have Z3 : Hid (w.heap.size + 1 ≤ W3.heap.size) := Lib.hid (by have := hs.size; have := Z2.out; omega)
    clear hs S2 B2 Z2
    have d1 := B3.out.c0
    have d2 := B3.out.c1
    have d3 := B3.out.c2
    have d4 := B3.out.c3
    have e0 := fun o => B3.out.free (q := o)
    go_wp2_with fail
    have G := B3.out.set4 (l' := 0) (r' := 0) (g' := 0) (A' := none) (n' := 0) (c' := 0)
    have SS := (((S3.out.setCell (a := ⟨w.heap.size, 0, none⟩) (by simp) (.float .f32 0)).setCell (a := ⟨w.heap.size, 1, none⟩) (by simp) (.float .f32 0)).setCell (a := ⟨w.heap.size, 2, none⟩) (by simp) (.float .f32 0)).setCell (a := ⟨w.heap.size, 3, none⟩) (by simp) (.slice none 0 0)
  case' false =>
    clear h
    go_enter Try.func43, Try.ntmps43
    go_wp2_with fail
    rw [← HW1.out]
    refine (implLimit_b l false _ hl h1).mono ?_
    rintro e W3 ⟨rfl, hs⟩
    have S3 := Lib.hid (since_step S1.out hs)
    have B3 := Lib.hid (B1.out.of (hs.block _ (by have := Z1.out; omega)))
    have Z3 : Hid (w.heap.size + 1 ≤ W3.heap.size) := Lib.hid (by have := hs.size; have := Z1.out; omega)
    clear hs S1 B1 Z1
    have d1 := B3.out.c0
    have d2 := B3.out.c1
    have d3 := B3.out.c2
    have d4 := B3.out.c3
    have e0 := fun o => B3.out.free (q := o)
    go_wp2_with fail
    have G := B3.out.set4 (l' := 0) (r' := 0) (g' := 0) (A' := none) (n' := 0) (c' := 0)
    have SS := (((S3.out.setCell (a := ⟨w.heap.size, 0, none⟩) (by simp) (.float .f32 0)).setCell (a := ⟨w.heap.size, 1, none⟩) (by simp) (.float .f32 0)).setCell (a := ⟨w.heap.size, 2, none⟩) (by simp) (.float .f32 0)).setCell (a := ⟨w.heap.size, 3, none⟩) (by simp) (.slice none 0 0)
  all_goals
    clear d1 d2 d3 d4 e0 B3 S3
    generalize World.setCell _ _ _ = W9 at *
    have g1 := G.c0
    have g2 := G.c1
    have g3 := G.c2
    have g4 := G.c3
    exact bodyPost_ret (v := .tuple #[.agg #[.float .f32 0, .float .f32 0, .float .f32 0, .slice none 0 0], .bool false]) (by simp [results, Try.results43, go_sem, g1, g2, g3, g4]) rfl (PLIM.none_ SS)
set_option maxHeartbeats 2000000 in
set_option maxRecDepth 100000 in
theorem implNewLim_ok (l r n : Nat) (L R : O) (w : World) (hl : l < 4294967296) (hL : Hid (Fv .f32 l L)) (hR : Hid (Fv .f32 r R)) (h1 : limB l = true) (h2 : inB (n : Int) 0 64 = true) (hn : n ≤ 64) :
    Calls Try.prog 43 #[.float .f32 l, .float .f32 r, .int .i64 n] w (PLIM n L R (ab .f32 1065353216) true w) := by
  have hmk := fun W => run_make_row' (P := Try.prog) 22 55 (.float .f32 0) 4 Try.underlying22 Try.infoF rfl .i64 .i64 n (by omega) (by omega) W
  obtain ⟨W1, hW1⟩ : ∃ W, W = w.alloc (.cells #[.float .f32 0, .float .f32 0, .float .f32 0, .slice none 0 0] 57) := ⟨_, rfl⟩
  have z1 : W1.heap.size = w.heap.size + 1 := by rw [hW1]; simp
  have b1 : LimB W1 w.heap.size 0 0 0 none 0 0 := by rw [hW1]; exact LimB.new w
  have s1 : w.Since w.heap.size W1 := by rw [hW1]; exact (World.Since.refl _ _).alloc (Nat.le_refl _) _
  have Z1 := Lib.hid z1; have B1 := Lib.hid b1; have S1 := Lib.hid s1; have HW1 := Lib.hid hW1
  clear hW1 z1 b1 s1
  go_enter Try.func43, Try.ntmps43
  go_wp2_with fail
  rw [← HW1.out]
  refine (implLimit_b l true _ hl h1).mono ?_
  rintro e W2 ⟨rfl, hs⟩
  have S2 := Lib.hid (since_step S1.out hs)
  have B2 := Lib.hid (B1.out.of (hs.block _ (by have := Z1.out; omega)))
  have Z2 : Hid (w.heap.size + 1 ≤ W2.heap.size) := Lib.hid (by have := hs.size; have := Z1.out; omega)
  clear hs S1 B1 Z1
  go_wp2_with fail
  refine (isAhead_b n true _ h2).mono ?_
  rintro e W3 ⟨rfl, hs⟩
  have S3 := Lib.hid (since_step S2.out hs)
  have B3 := Lib.hid (B2.out.of (hs.block _ (by have := Z2.out; omega)))
  have Z3 : Hid (w.heap.size + 1 ≤ W3.heap.size) := Lib.hid (by have := hs.size; have := Z2.out; omega)
  clear hs S2 B2 Z2
  obtain ⟨V, hV⟩ : ∃ V, V = W3.alloc (.cells (madeCells #[.float .f32 0] n) 55) := ⟨_, rfl⟩
  have hmk1 := hmk W3
  rw [← hV] at hmk1
  clear hmk
  have B4 : Hid (LimB V w.heap.size 0 0 0 none 0 0) := Lib.hid (B3.out.of (by rw [hV]; exact blk_keep _ (by have := Z3.out; omega)))
  have S4 : Hid (w.Since w.heap.size V) := Lib.hid (by rw [hV]; exact S3.out.alloc (by have := Z3.out; omega) _)
  have G4 : Hid (Ge (w.heap.size + 1) V (fe (some ⟨W3.heap.size, 0, none⟩) n (List.replicate n 0))) := Lib.hid (Gs.toE ⟨by simp, small_zeros n, fun _ => by
    obtain ⟨cs, hb, _, hc⟩ := World.rowIs_made W3 (.float .f32 0) n 55
    exact ⟨_, cs, rfl, Z3.out, by rw [hV]; exact hb, fun k hk => by rw [fv_zeros]; exact hc k hk⟩⟩)
  clear hV
  have d1 := B4.out.c0
  have d2 := B4.out.c1
  have d3 := B4.out.c2
  have d4 := B4.out.c3
  have e0 := fun o => B4.out.free (q := o)
  go_wp2_with fail
  have G := B4.out.set4 (l' := l) (r' := r) (g' := 1065353216) (A' := some ⟨W3.heap.size, 0, none⟩) (n' := n) (c' := n)
  have SS := (((S4.out.setCell (a := ⟨w.heap.size, 0, none⟩) (by simp) (.float .f32 l)).setCell (a := ⟨w.heap.size, 1, none⟩) (by simp) (.float .f32 r)).setCell (a := ⟨w.heap.size, 2, none⟩) (by simp) (.float .f32 1065353216)).setCell (a := ⟨w.heap.size, 3, none⟩) (by simp) (.slice (some ⟨W3.heap.size, 0, none⟩) n n)
  have GG : Ge (w.heap.size + 1) ((((V.setCell ⟨w.heap.size, 0, none⟩ (.float .f32 l)).setCell ⟨w.heap.size, 1, none⟩ (.float .f32 r)).setCell ⟨w.heap.size, 2, none⟩ (.float .f32 1065353216)).setCell ⟨w.heap.size, 3, none⟩ (.slice (some ⟨W3.heap.size, 0, none⟩) n n)) _ := G4.out.keep (fun b hb => by
    have hb1 : b ≠ w.heap.size := by have := (G4.out.2.2 b hb).1; omega
    exact (Go.Deep.blk_setCell_other _ _ _ _ hb1).trans ((Go.Deep.blk_setCell_other _ _ _ _ hb1).trans ((Go.Deep.blk_setCell_other _ _ _ _ hb1).trans (Go.Deep.blk_setCell_other _ _ _ _ hb1)))) (by simp)
  clear d1 d2 d3 d4 e0 B4 S4 G4
  generalize World.setCell _ _ _ = W9 at *
  have g1 := G.c0
  have g2 := G.c1
  have g3 := G.c2
  have g4 := G.c3
  exact bodyPost_ret (v := .tuple #[.agg #[.float .f32 l, .float .f32 r, .float .f32 1065353216, .slice (some ⟨W3.heap.size, 0, none⟩) n n], .bool true]) (by simp [results, Try.results43, go_sem, g1, g2, g3, g4]) rfl
    ⟨⟨some ⟨W3.heap.size, 0, none⟩, n, List.replicate n 0⟩, n, l, r, 1065353216, rfl, rfl, GG.less (by omega), (fun k hk => by rw [wd_zeros]), hL, hR, Lib.hid (fvs (by decide)), SS⟩
end Go.Proofs.Ytbgjmmncjmcjfaa
