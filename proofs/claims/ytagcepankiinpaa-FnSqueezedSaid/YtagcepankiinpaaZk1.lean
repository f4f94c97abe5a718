/- Joined: Ih Ii Ij Ik K3 Lk Ll Lm Ln K4 -/
import Derived.Test.YtagcepankiinpaaZk0
import Derived.Test.YtagcepankiinpaaLf
import Derived.Deep.QuietTactic
import Derived.BigQuiet
import Derived.Deep.MidRow
/- Dynamics: squeezed samples, the model's. -/
set_option linter.unusedVariables false
set_option linter.unusedSimpArgs false
namespace Go.Proofs.Ytagcepankiinpaa
open Fl Go.RowKit
structure SquN where
  a : Nat
  r : Nat
  l : Nat
  t : Nat
  q : Nat
structure Squ where
  a : O
  r : O
  l : O
  t : O
  q : O
def SquN.val (d : SquN) : Value := .agg #[.float .f32 d.a, .float .f32 d.r, .float .f32 d.l, .float .f32 d.t, .float .f32 d.q]
structure FvSqu (d : SquN) (D : Squ) : Prop where
  a : Hid (Fv .f32 d.a D.a)
  r : Hid (Fv .f32 d.r D.r)
  l : Hid (Fv .f32 d.l D.l)
  t : Hid (Fv .f32 d.t D.t)
  q : Hid (Fv .f32 d.q D.q)
def PLQB (n0 : Nat) (f0 : Nat → Option Nat) (S : Squ) (b : Bool) (w : World) (e : Ending) (w' : World) : Prop :=
  ∃ (p : Ls) (c : Nat) (s : SquN), e = .returned (.tuple #[.slice p.A p.n c, s.val, .bool b]) ∧ p.n = n0 ∧ Gs 24 w' w.heap.size p.A p.n p.xs ∧ Are p f0 ∧ FvSqu s S ∧ w.Since w.heap.size w'
/-- a squeeze's block -/
def SquB (w : World) (g a r l t q : Nat) : Prop := w.heap[g]? = some (.cells #[.float .f32 a, .float .f32 r, .float .f32 l, .float .f32 t, .float .f32 q] 28 (0, 0))
structure SquAt (w : World) (g a r l t q : Nat) : Prop where
  f : FolAt w g a r l
  t : w.cell? ⟨g, 3, none⟩ = some (.float .f32 t)
  q : w.cell? ⟨g, 4, none⟩ = some (.float .f32 q)
theorem SquB.at_ {w : World} {g a r l t q : Nat} (h : SquB w g a r l t q) : SquAt w g a r l t q := by
  unfold SquB at h
  exact ⟨⟨(Array.getElem?_eq_some_iff.1 h).1, by simp [World.cell?, h], by simp [World.cell?, h], by simp [World.cell?, h]⟩, by simp [World.cell?, h], by simp [World.cell?, h]⟩
theorem SquB.free {w : World} {g a r l t q o : Nat} (h : SquB w g a r l t q) : w.frozen? ⟨g, o, none⟩ = false := by
  unfold SquB at h
  simp [World.frozen?, h]
theorem SquB.of {w w' : World} {g a r l t q : Nat} (h : SquB w g a r l t q) (e : w'.heap[g]? = w.heap[g]?) : SquB w' g a r l t q := e.trans h
theorem SquB.set {w : World} {g a r l t q y : Nat} (h : SquB w g a r l t q) : SquB (w.setCell ⟨g, 2, none⟩ (.float .f32 y)) g a r y t q := by
  unfold SquB at h ⊢
  simp [World.setCell, Array.getElem?_modify, h]
theorem SquB.set5 {w : World} {g a r l t q x0 x1 x2 x3 x4 : Nat} (h : SquB w g x0 x1 x2 x3 x4) : SquB (((((w.setCell ⟨g, 0, none⟩ (.float .f32 a)).setCell ⟨g, 1, none⟩ (.float .f32 r)).setCell ⟨g, 2, none⟩ (.float .f32 l)).setCell ⟨g, 3, none⟩ (.float .f32 t)).setCell ⟨g, 4, none⟩ (.float .f32 q)) g a r l t q := by
  unfold SquB at h ⊢
  simp [World.setCell, Array.getElem?_modify, h]
theorem SquB.new (w : World) (a r l t q : Nat) : SquB (w.alloc (.cells #[.float .f32 a, .float .f32 r, .float .f32 l, .float .f32 t, .float .f32 q] 28)) w.heap.size a r l t q := Go.Deep.blk_alloc_new _ _
def sqL (D : Squ) (Y : Nat → O) (k : Nat) : O := levO ⟨D.a, D.r, D.l⟩ Y k
def sqO (D : Squ) (X Y : Nat → O) (k : Nat) : O := mu (X k) (gainO (sqL D Y (k + 1)) D.t D.q)
theorem gainO_ex {l t r : Nat} {L T R : O} (hl : Hid (Fv .f32 l L)) (ht : Hid (Fv .f32 t T)) (hr : Hid (Fv .f32 r R)) : ∃ q, Fv .f32 q (gainO L T R) := by
  unfold gainO
  cases gtO L T
  · exact ⟨_, fv1.out⟩
  · obtain ⟨d, hd⟩ := Lo.fv_ex (op := .sub) rfl .f32 _ _ _ _ hl.out ht.out
    obtain ⟨p, hp⟩ := Lo.fv_ex (op := .quo) rfl .f32 _ _ _ _ hd hr.out
    obtain ⟨s, hs⟩ := Lo.fv_ex (op := .add) rfl .f32 _ _ _ _ ht.out hp
    exact Lo.fv_ex (op := .quo) rfl .f32 _ _ _ _ hs hl.out
/-- the list and the squeeze behind it -/
def PLQ (n0 : Nat) (f0 : Nat → Option Nat) (S : Squ) (w : World) (e : Ending) (w' : World) : Prop :=
  ∃ (p : Ls) (c : Nat) (s : SquN), e = .returned (.tuple #[.slice p.A p.n c, s.val]) ∧ p.n = n0 ∧ Gs 24 w' w.heap.size p.A p.n p.xs ∧ Are p f0 ∧ FvSqu s S ∧ w.Since w.heap.size w'
end Go.Proofs.Ytagcepankiinpaa

/- Dynamics: RunSqueeze and DuckSamples of the model. -/
set_option linter.unusedVariables false
set_option linter.unusedSimpArgs false
namespace Go.Proofs.Ytagcepankiinpaa
open Fl Go.RowKit
theorem PLQB.none_ {w w' : World} (s : w.Since w.heap.size w') (f0 : Nat → Option Nat) : PLQB 0 f0 ⟨some 0, some 0, some 0, some 0, some 0⟩ false w (.returned (.tuple #[.slice none 0 0, .agg #[.float .f32 0, .float .f32 0, .float .f32 0, .float .f32 0, .float .f32 0], .bool false])) w' :=
  ⟨⟨none, 0, []⟩, 0, ⟨0, 0, 0, 0, 0⟩, rfl, rfl, Gs.nil_, (fun k hk => by simp at hk), ⟨fv0, fv0, fv0, fv0, fv0⟩, s⟩
end Go.Proofs.Ytagcepankiinpaa

/- Dynamics: DuckSamples and RunSqueeze of the program. -/
set_option linter.unusedVariables false
set_option linter.unusedSimpArgs false
namespace Go.Proofs.Ytagcepankiinpaa
open Fl Go.RowKit
theorem implGain_hc (l t r : Nat) (L T R : O) (w : World) (hl : Hid (Fv .f32 l L)) (ht : Hid (Fv .f32 t T)) (hr : Hid (Fv .f32 r R)) (m : Nat) :
    Calls Try.prog 15 #[.float .f32 l, .float .f32 t, .float .f32 r] (w.drewN m) fun e w' => ∃ q n, e = .returned (.float .f32 q) ∧ Fv .f32 q (gainO L T R) ∧ w' = w.drewN n :=
  (implGain_any l t r L T R _ hl ht hr).mono fun e w' ⟨q, n, h1, h2, h3⟩ => ⟨q, m + n, h1, h2, h3.trans (by simp [World.drewN, Nat.add_assoc])⟩
set_option maxHeartbeats 2000000 in
set_option maxRecDepth 100000 in
theorem duckClos_any (k n gb gy gs l t q : Nat) (L T Q : O) (W : World) (hl : Hid (Fv .f32 l L)) (ht : Hid (Fv .f32 t T)) (hq : Hid (Fv .f32 q Q)) (hk : k < n) (hn : n ≤ 256) (hb : W.cell? ⟨gb, 0, none⟩ = some (.slice (some ⟨gy, 0, none⟩) n n)) (hy : W.cell? ⟨gy, k, none⟩ = some (.float .f32 l)) (h3 : W.cell? ⟨gs, 3, none⟩ = some (.float .f32 t)) (h4 : W.cell? ⟨gs, 4, none⟩ = some (.float .f32 q)) :
    Calls Try.prog 27 #[.int .i64 (k : Int), .pointer (some ⟨gb, 0, none⟩), .pointer (some ⟨gs, 0, none⟩)] W fun e W' => ∃ r m, e = .returned (.float .f32 r) ∧ Hid (Fv .f32 r (gainO L T Q)) ∧ W.drewN m = W' := by
  go_enter Try.func27, Try.ntmps27
  go_wp2_with fail
  refine Lo.wp_loose_all [13,4] (by kernel_rfl) (by kernel_rfl) ?_
  repeat (first
    | (refine Lo.wpL_callF rfl 15 [.tmp 8, .tmp 10, .tmp 12] [.float .f32 l, .float .f32 t, .float .f32 q] _ rfl (by decide) (callsEnter 15 Try.f15 _ (by kernel_rfl) (by kernel_rfl) rfl) .f32 _ (Lo.keeps [8, 10, 12] _ rfl (by decide)) (implGain_hc l t q _ _ _ W hl ht hq) (gainO_ex hl ht hq) ?_; intro rr hrr; simp only [Act.put, List.setIfInBounds_toArray, List.set_cons_succ, List.set_cons_zero])
    | (refine Lo.wpL_move rfl _ (.inl rfl) (by decide) ?_; simp only [Act.put, List.setIfInBounds_toArray, List.set_cons_succ, List.set_cons_zero])
    | (refine Lo.wpL_move rfl _ (.inr rfl) (by decide) ?_; simp only [Act.put, List.setIfInBounds_toArray, List.set_cons_succ, List.set_cons_zero])
    | (refine Lo.wpL_fop rfl _ _ _ _ rfl rfl (by decide) _ _ _ _ _ rfl rfl (by assumption) (by assumption) ?_; intro rr hrr; simp only [Act.put, List.setIfInBounds_toArray, List.set_cons_succ, List.set_cons_zero])
    | (refine Lo.wpL_wide rfl _ _ _ rfl (by decide) _ _ rfl (by kernel_rfl) (by kernel_rfl) (by assumption) ?_; intro rr hrr; simp only [Act.put, List.setIfInBounds_toArray, List.set_cons_succ, List.set_cons_zero])
    | (refine Lo.wpL_quiet rfl (by decide) (fun K hK => ?_); go_big_quiet_op; (refine hK _ ?_; clear hK K)))
  refine Lo.wpL_nil ?_
  refine Lo.after_fl rfl (by assumption) ?_; intro q13 h13; simp only [Act.put, List.setIfInBounds_toArray, List.set_cons_succ, List.set_cons_zero]
  refine Lo.after_fl rfl (by assumption) ?_; intro q4 h4; simp only [Act.put, List.setIfInBounds_toArray, List.set_cons_succ, List.set_cons_zero]
  refine Lo.after_nil ?_; intro nq
  go_wp2
  go_ret
  exact ⟨_, _, rfl, h4, rfl⟩
theorem implPair_b (A C : Option Addr) (n m c c2 : Nat) (b : Bool) (w : World) (hn : n ≤ 9223372036854775807) (h : (decide (n ≤ 256 ∧ m = n)) = b) :
    Calls Try.prog 25 #[.slice A n c, .slice C m c2] w fun e w' => e = .returned (.bool b) ∧ w' = w := by
  by_cases h1 : (n : Int) = (m : Int)
  · have e2 : b = decide ((n : Int) ≤ 256) := by
      rw [← h]
      by_cases h3 : n ≤ 256
      · rw [decide_eq_true ⟨h3, by omega⟩, decide_eq_true (by omega)]
      · rw [decide_eq_false (fun h => h3 h.1), decide_eq_false (by omega)]
    clear h
    cases h5 : decide ((n : Int) ≤ 256)
    all_goals
      rw [h5] at e2
      subst e2
      obtain rfl : m = n := by omega
      go_enter Try.func25, Try.ntmps25
      go_wp2_with (first | (go_at_call 19; refine (implSamples_b _ _ _ _ _ h5).mono ?_; rintro e w' ⟨rfl, rfl⟩))
      go_ret
      exact ⟨rfl, rfl⟩
  · have e2 : b = false := by rw [← h]; exact decide_eq_false (fun h => h1 (by omega))
    subst e2
    clear h
    go_enter Try.func25, Try.ntmps25
    go_wp2
    go_ret
    exact ⟨rfl, rfl⟩
set_option maxHeartbeats 8000000 in
set_option maxRecDepth 100000 in
theorem implDuckSq_ok (d : SquN) (D : Squ) (A C : Option Addr) (n c c2 : Nat) (xs ys : List Nat) (w : World) (hD : FvSqu d D) (hA : Fs w w.heap.size A n xs) (hB : Fs w w.heap.size C n ys) (hn : n ≤ 256) :
    Calls Try.prog 14 #[d.val, .slice A n c, .slice C n c2] w (PLQB n (sqO D (fun k => ab .f32 (wd xs k)) (fun k => ab .f32 (wd ys k))) ⟨D.a, D.r, sqL D (fun k => ab .f32 (wd ys k)) n, D.t, D.q⟩ true w) := by
  obtain ⟨a, r, l, t, q0⟩ := d
  obtain ⟨ha, hr, hl, ht, hq0⟩ := hD
  simp only at ha hr hl ht hq0
  have HA := Lib.hid hA
  have HB := Lib.hid hB
  simp only [SquN.val]
  clear hA hB
  obtain ⟨W1, hW1⟩ : ∃ W, W = w.alloc (.cells #[.float .f32 a, .float .f32 r, .float .f32 l, .float .f32 t, .float .f32 q0] 28) := ⟨_, rfl⟩
  obtain ⟨W2, hW2⟩ : ∃ W, W = W1.alloc (.cells #[.float .f32 0, .float .f32 0, .float .f32 0, .float .f32 0, .float .f32 0] 28) := ⟨_, rfl⟩
  have z1 : W1.heap.size = w.heap.size + 1 := by rw [hW1]; simp
  have z2 : W2.heap.size = w.heap.size + 1 + 1 := by rw [hW2]; simp [z1]
  have f1 : SquB W1 w.heap.size a r l t q0 := by rw [hW1]; exact SquB.new _ _ _ _ _ _
  have F2 : Hid (SquB W2 (w.heap.size + 1) 0 0 0 0 0) := Lib.hid (by rw [hW2, ← z1]; exact SquB.new _ _ _ _ _ _)
  have F1 : Hid (SquB W2 w.heap.size a r l t q0) := Lib.hid (f1.of (by rw [hW2]; exact blk_keep _ (by omega)))
  have S2 : Hid (w.Since w.heap.size W2) := Lib.hid (by rw [hW2, hW1]; exact ((World.Since.refl _ _).alloc (Nat.le_refl _) _).alloc (by simp) _)
  have HW1 := Lib.hid hW1; have HW2 := Lib.hid hW2; have Z2 := Lib.hid z2
  clear hW1 hW2 f1 z1 z2
  go_enter Try.func14, Try.ntmps14
  go_wp2_with (first | (go_at_call 25; refine (implPair_b _ _ _ _ _ _ true _ (by omega) (decide_eq_true ⟨hn, rfl⟩)).mono ?_; rintro e w' ⟨rfl, rfl⟩) | fail)
  rw [← HW1.out, ← HW2.out]
  have hz2 := Z2.out
  refine (results_at C n c2 ys 21 #[.pointer (some ⟨w.heap.size, 0, none⟩)] w.heap.size (fun k W => ∃ q, SquB W w.heap.size a r q t q0 ∧ SquB W (w.heap.size + 1) 0 0 0 0 0 ∧ Hid (Fv .f32 q (sqL D (fun k => ab .f32 (wd ys k)) k))) (fun k => sqL D (fun k => ab .f32 (wd ys k)) (k + 1)) W2 (HB.out.since S2.out) (by omega) hn (fun _ _ => rfl) ?hI ?hst ⟨l, F1.out, F2.out, hl⟩).mono ?_
  case hI =>
    rintro k W W' ⟨q, h1, h2, h3⟩ h4 h5 h6
    exact ⟨q, h1.of (h6 _ (by omega)), h2.of (h6 _ (by omega)), h3⟩
  case hst =>
    rintro k q W hk rfl ⟨q1, h1, h2, h3⟩ hs
    refine (implFollow_any w.heap.size a r q1 (wd ys k) D.a D.r _ _ W h1.at_.f h1.free ha hr h3 (Lib.hid ⟨HB.out.2.1.at_ k, rfl⟩)).mono ?_
    rintro e W' ⟨q2, rfl, hq2, m, rfl⟩
    exact ⟨q2, rfl, hq2, ⟨q2, h1.set, h2.of (Go.Deep.blk_setCell_other _ _ _ _ (show w.heap.size + 1 ≠ w.heap.size by omega)), hq2⟩, ((On.refl _ _).set _ _).drewN _⟩
  rintro e w5 ⟨vs, rfl, hg, hare, ⟨q, h1, h2, h3⟩, ho⟩
  rw [hz2] at hg
  rw [hz2]
  have HG := Lib.hid hg; have HAA := Lib.hid hare; have HO := Lib.hid ho; have HF := Lib.hid h1; have HF2 := Lib.hid h2
  have hz5 := ho.1.size
  rw [hz2] at hz5
  clear hg hare ho h1 h2 hz2
  go_wp2_with fail
  generalize hV : World.alloc _ _ = V
  have zV : Hid (V.heap.size = w5.heap.size + 1) := Lib.hid (by rw [← hV]; simp)
  have VB : Hid (SquB V w.heap.size a r q t q0) := Lib.hid (by rw [← hV]; exact HF.out.of (blk_keep _ (by omega)))
  have VZ0 : Hid (SquB V (w.heap.size + 1) 0 0 0 0 0) := Lib.hid (by rw [← hV]; exact HF2.out.of (blk_keep _ (by omega)))
  have VS0 : Hid (w.Since w.heap.size V) := Lib.hid (by rw [← hV]; exact (S2.out.trans (HO.out.since (Nat.le_refl _))).alloc (by omega) _)
  have VG0 : Hid (Gs 24 V (w.heap.size + 1 + 1) (some ⟨w.heap.size + 1 + 1, 0, none⟩) n vs) := Lib.hid (by rw [← hV]; exact HG.out.since ((World.Since.refl _ _).alloc (Nat.le_refl _) _))
  have VL : Hid (V.cell? ⟨w5.heap.size, 0, none⟩ = some (.slice (some ⟨w.heap.size + 1 + 1, 0, none⟩) n n)) := Lib.hid (by rw [← hV]; simp [go_sem])
  clear hV
  have hzV := zV.out
  refine (gains_any A n c xs 27 #[.pointer (some ⟨w5.heap.size, 0, none⟩), .pointer (some ⟨w.heap.size, 0, none⟩)] w.heap.size (fun _ W => ∀ b, b < V.heap.size → W.heap[b]? = V.heap[b]?) (fun k => gainO (sqL D (fun k => ab .f32 (wd ys k)) (k + 1)) D.t D.q) V (HA.out.since VS0.out) (by omega) hn (fun _ _ => rfl) ?hI2 ?hst2 (fun _ _ => rfl)).mono ?_
  case hI2 => exact fun k W W' h1 h2 h3 h4 b hb => (h4 b hb).trans (h1 b hb)
  case hst2 =>
    rintro k W hk hi hs
    obtain ⟨g, cs, eg, hgl, hgb, hgc⟩ := VG0.out.2.2 (by omega)
    injection eg with eg; injection eg with eg _ _; subst eg
    have hlt2 : w.heap.size + 1 + 1 < V.heap.size := (Array.getElem?_eq_some_iff.1 hgb).1
    have y1 : W.cell? ⟨w.heap.size + 1 + 1, k, none⟩ = some (.float .f32 (wd vs k)) := (cell_of_block (hi _ hlt2) _).trans (by simp only [World.cell?, hgb]; simpa [fv] using hgc k hk)
    refine (duckClos_any k n w5.heap.size (w.heap.size + 1 + 1) w.heap.size (wd vs k) t q0 (sqL D (fun k => ab .f32 (wd ys k)) (k + 1)) D.t D.q W ?_ ht hq0 hk hn ((cell_of_block (hi _ (by omega)) _).trans VL.out) y1 ((cell_of_block (hi _ (by omega)) _).trans VB.out.at_.t) ((cell_of_block (hi _ (by omega)) _).trans VB.out.at_.q)).mono ?_
    · exact Lib.hid ⟨VG0.out.2.1.at_ k, HAA.out k hk⟩
    · rintro e W' ⟨r2, m, rfl, hr2, rfl⟩
      exact ⟨r2, rfl, hr2, hi, (On.refl _ _).drewN m⟩
  rintro e w6 ⟨zs, rfl, hg, hare, hi, ho⟩
  have HG6 := Lib.hid hg; have HAR0 := Lib.hid hare; have HO6 := Lib.hid ho; have HI6 := Lib.hid hi
  have hz6 := ho.1.size
  clear hg hare ho hi
  obtain ⟨p, hp⟩ : ∃ p : Ls, p = ⟨some ⟨V.heap.size, 0, none⟩, n, zs⟩ := ⟨_, rfl⟩
  have HPN : Hid (p.n = n) := Lib.hid (by rw [hp])
  have HAR : Hid (Are p (sqO D (fun k => ab .f32 (wd xs k)) (fun k => ab .f32 (wd ys k)))) := Lib.hid (by rw [hp]; exact HAR0.out)
  have HFV : Hid (FvSqu ⟨a, r, q, t, q0⟩ ⟨D.a, D.r, sqL D (fun k => ab .f32 (wd ys k)) n, D.t, D.q⟩) := Lib.hid ⟨ha, hr, h3, ht, hq0⟩
  have WB : Hid (SquB w6 w.heap.size a r q t q0) := Lib.hid (VB.out.of (HI6.out _ (by omega)))
  have VZ : Hid (SquB w6 (w.heap.size + 1) 0 0 0 0 0) := Lib.hid (VZ0.out.of (HI6.out _ (by omega)))
  have VS : Hid (w.Since w.heap.size w6) := Lib.hid (VS0.out.trans (HO6.out.since (Nat.le_refl _)))
  have VG : Hid (Gs 24 w6 (w.heap.size + 1 + 1) p.A p.n p.xs) := Lib.hid (by rw [hp]; exact HG6.out.less (by omega))
  have hpA : (Value.slice (some ⟨V.heap.size, 0, none⟩) n n) = .slice p.A p.n n := by rw [hp]
  rw [hpA]
  clear hp hpA
  have c1 := WB.out.at_.f.a
  have c2' := WB.out.at_.f.r
  have c3 := WB.out.at_.f.l
  have c4 := WB.out.at_.t
  have c5 := WB.out.at_.q
  have d1 := VZ.out.at_.f.a
  have d2 := VZ.out.at_.f.r
  have d3 := VZ.out.at_.f.l
  have d4 := VZ.out.at_.t
  have d5 := VZ.out.at_.q
  have e0 := fun o => VZ.out.free (o := o)
  go_wp2_with fail
  go_region
  all_goals
    have G9 : SquB _ (w.heap.size + 1) a r q t q0 := VZ.out.set5 (a := a) (r := r) (l := q) (t := t) (q := q0)
    have S9 := ((((VS.out.setCell (a := ⟨w.heap.size + 1, 0, none⟩) (by simp) (.float .f32 a)).setCell (a := ⟨w.heap.size + 1, 1, none⟩) (by simp) (.float .f32 r)).setCell (a := ⟨w.heap.size + 1, 2, none⟩) (by simp) (.float .f32 q)).setCell (a := ⟨w.heap.size + 1, 3, none⟩) (by simp) (.float .f32 t)).setCell (a := ⟨w.heap.size + 1, 4, none⟩) (by simp) (.float .f32 q0)
    have O9 : Gs 24 _ (w.heap.size + 1 + 1) p.A p.n p.xs := VG.out.onLow (((On.refl (w.heap.size + 1) w6).set 0 (.float .f32 a)).set 1 (.float .f32 r) |>.set 2 (.float .f32 q) |>.set 3 (.float .f32 t) |>.set 4 (.float .f32 q0)) (by omega)
    generalize World.setCell _ _ _ = W9 at *
    have g1 := G9.at_.f.a
    have g2 := G9.at_.f.r
    have g3 := G9.at_.f.l
    have g4 := G9.at_.t
    have g5 := G9.at_.q
    have S10 := Lib.hid S9; have O10 := Lib.hid O9; clear S9 O9 d1 d2 d3 d4 d5 c1 c2' c3 c4 c5 e0 G9
    go_wp2
    exact bodyPost_ret (v := .tuple #[.slice p.A p.n n, .agg #[.float .f32 a, .float .f32 r, .float .f32 q, .float .f32 t, .float .f32 q0], .bool true]) (by simp [results, Try.results14, go_sem, g1, g2, g3, g4, g5]) rfl
      ⟨p, n, ⟨a, r, q, t, q0⟩, rfl, HPN.out, O10.out.less (by omega), HAR.out, HFV.out, (by first | exact since_drewN S10.out 1 | exact S10.out)⟩
theorem implDuckSq_no (d : SquN) (A C : Option Addr) (n m c c2 : Nat) (w : World) (hs : n ≤ 9223372036854775807) (hn : ¬ (n ≤ 256 ∧ m = n)) (f : Nat → O) : Calls Try.prog 14 #[d.val, .slice A n c, .slice C m c2] w (PLQB 0 f ⟨some 0, some 0, some 0, some 0, some 0⟩ false w) := by
  obtain ⟨a, r, l, t, q0⟩ := d
  simp only [SquN.val]
  go_enter Try.func14, Try.ntmps14
  go_wp2_with (first | (go_at_call 25; refine (implPair_b _ _ _ _ _ _ false _ hs (decide_eq_false hn)).mono ?_; rintro e w' ⟨rfl, rfl⟩))
  exact bodyPost_ret (v := .tuple #[.slice none 0 0, .agg #[.float .f32 0, .float .f32 0, .float .f32 0, .float .f32 0, .float .f32 0], .bool false]) (by simp [results, Try.results14, go_sem]) rfl (PLQB.none_ (by (repeat (first | (with_reducible refine Fl.sinDrew ?_) | (with_reducible refine World.Since.drew ?_) | (with_reducible refine Fl.sinSet ?_ ?_; rotate_left) | (with_reducible refine Fl.sinAlloc ?_ ?_; rotate_left) | with_reducible exact World.Since.refl _ _ | with_reducible assumption | (with_reducible refine Fl.sinStep (by with_reducible assumption) ?_))); all_goals (first | omega | (simp; done) | (simp; omega) | (simp [go_sem]; done) | (simp [go_sem]; omega))) _)
theorem PLQB.later {n0 : Nat} {f0 : Nat → O} {S : Squ} {b : Bool} {w w1 w2 : World} {e : Ending} (h : PLQB n0 f0 S b w1 e w2) (s : w.Since w.heap.size w1) : PLQB n0 f0 S b w e w2 := by
  obtain ⟨p, c, d, h1, h2, h3, h4, h5, h6⟩ := h
  exact ⟨p, c, d, h1, h2, h3.less s.size, h4, h5, since_step s h6⟩
set_option maxHeartbeats 4000000 in
set_option maxRecDepth 100000 in
theorem implRunSq_of (d : SquN) (A : Option Addr) (n c : Nat) (w : World) (n0 : Nat) (f0 : Nat → O) (S : Squ) (b : Bool) (h : ∀ W, w.Since w.heap.size W → Calls Try.prog 14 #[d.val, .slice A n c, .slice A n c] W (PLQB n0 f0 S b W)) :
    Calls Try.prog 13 #[d.val, .slice A n c] w (PLQB n0 f0 S b w) := by
  have H := Lib.hid h
  clear h
  obtain ⟨a, r, l, t, q0⟩ := d
  simp only [SquN.val] at H ⊢
  obtain ⟨W1, hW1⟩ : ∃ W, W = w.alloc (.cells #[.float .f32 a, .float .f32 r, .float .f32 l, .float .f32 t, .float .f32 q0] 28) := ⟨_, rfl⟩
  obtain ⟨W2, hW2⟩ : ∃ W, W = W1.alloc (.cells #[.float .f32 0, .float .f32 0, .float .f32 0, .float .f32 0, .float .f32 0] 28) := ⟨_, rfl⟩
  have z1 : W1.heap.size = w.heap.size + 1 := by rw [hW1]; simp
  have z2 : W2.heap.size = w.heap.size + 1 + 1 := by rw [hW2]; simp [z1]
  have f1 : SquB W1 w.heap.size a r l t q0 := by rw [hW1]; exact SquB.new _ _ _ _ _ _
  have F2 : Hid (SquB W2 (w.heap.size + 1) 0 0 0 0 0) := Lib.hid (by rw [hW2, ← z1]; exact SquB.new _ _ _ _ _ _)
  have F1 : Hid (SquB W2 w.heap.size a r l t q0) := Lib.hid (f1.of (by rw [hW2]; exact blk_keep _ (by omega)))
  have S2 : Hid (w.Since w.heap.size W2) := Lib.hid (by rw [hW2, hW1]; exact ((World.Since.refl _ _).alloc (Nat.le_refl _) _).alloc (by simp) _)
  have HW1 := Lib.hid hW1; have HW2 := Lib.hid hW2; have Z2 := Lib.hid z2
  clear hW1 hW2 f1 z1 z2
  go_enter Try.func13, Try.ntmps13
  go_wp2_with fail
  rw [← HW1.out, ← HW2.out]
  refine (H.out W2 S2.out).mono ?_
  rintro e w3 ⟨p, cp, s, rfl, hpn, hg, har, hfv, hs⟩
  obtain ⟨b0, b1, b2, b3, b4⟩ := s
  simp only [SquN.val]
  rw [Z2.out] at hg
  have HPN := Lib.hid hpn; have VG := Lib.hid hg; have HAR := Lib.hid har; have HFV := Lib.hid hfv; have VS := Lib.hid (since_step S2.out hs)
  have VZ : Hid (SquB w3 (w.heap.size + 1) 0 0 0 0 0) := Lib.hid (F2.out.of (hs.block _ (by rw [Z2.out]; omega)))
  clear hpn hg har hfv hs
  have d1 := VZ.out.at_.f.a
  have d2 := VZ.out.at_.f.r
  have d3 := VZ.out.at_.f.l
  have d4 := VZ.out.at_.t
  have d5 := VZ.out.at_.q
  have e0 := fun o => VZ.out.free (o := o)
  go_wp2
  have G9 : SquB _ (w.heap.size + 1) b0 b1 b2 b3 b4 := VZ.out.set5 (a := b0) (r := b1) (l := b2) (t := b3) (q := b4)
  have S9 := ((((VS.out.setCell (a := ⟨w.heap.size + 1, 0, none⟩) (by simp) (.float .f32 b0)).setCell (a := ⟨w.heap.size + 1, 1, none⟩) (by simp) (.float .f32 b1)).setCell (a := ⟨w.heap.size + 1, 2, none⟩) (by simp) (.float .f32 b2)).setCell (a := ⟨w.heap.size + 1, 3, none⟩) (by simp) (.float .f32 b3)).setCell (a := ⟨w.heap.size + 1, 4, none⟩) (by simp) (.float .f32 b4)
  have O9 : Gs 24 _ (w.heap.size + 1 + 1) p.A p.n p.xs := VG.out.onLow (((On.refl (w.heap.size + 1) w3).set 0 (.float .f32 b0)).set 1 (.float .f32 b1) |>.set 2 (.float .f32 b2) |>.set 3 (.float .f32 b3) |>.set 4 (.float .f32 b4)) (by omega)
  generalize World.setCell _ _ _ = W9 at *
  have g1 := G9.at_.f.a
  have g2 := G9.at_.f.r
  have g3 := G9.at_.f.l
  have g4 := G9.at_.t
  have g5 := G9.at_.q
  have S10 := Lib.hid S9; have O10 := Lib.hid O9; clear S9 O9 d1 d2 d3 d4 d5 e0 G9
  exact bodyPost_ret (v := .tuple #[.slice p.A p.n cp, .agg #[.float .f32 b0, .float .f32 b1, .float .f32 b2, .float .f32 b3, .float .f32 b4], .bool b]) (by simp [results, Try.results13, go_sem, g1, g2, g3, g4, g5]) rfl
    ⟨p, cp, ⟨b0, b1, b2, b3, b4⟩, rfl, HPN.out, O10.out.less (by omega), HAR.out, HFV.out, (by first | exact since_drewN S10.out 1 | exact S10.out)⟩
end Go.Proofs.Ytagcepankiinpaa

/- Squeezes of a law. -/
set_option linter.unusedVariables false
set_option linter.unusedSimpArgs false
namespace Go.Proofs.Ytagcepankiinpaa
open Fl Go.RowKit
theorem SquB.setA {w : World} {g a r l x0 x1 x2 x3 x4 : Nat} (h : SquB w g x0 x1 x2 x3 x4) : SquB (((w.setCell ⟨g, 0, none⟩ (.float .f32 a)).setCell ⟨g, 1, none⟩ (.float .f32 r)).setCell ⟨g, 2, none⟩ (.float .f32 l)) g a r l x3 x4 := by
  unfold SquB at h ⊢
  simp [World.setCell, Array.getElem?_modify, h]
theorem SquB.setT {w : World} {g t x0 x1 x2 x3 x4 : Nat} (h : SquB w g x0 x1 x2 x3 x4) : SquB (w.setCell ⟨g, 3, none⟩ (.float .f32 t)) g x0 x1 x2 t x4 := by
  unfold SquB at h ⊢
  simp [World.setCell, Array.getElem?_modify, h]
theorem SquB.setQ {w : World} {g q x0 x1 x2 x3 x4 : Nat} (h : SquB w g x0 x1 x2 x3 x4) : SquB (w.setCell ⟨g, 4, none⟩ (.float .f32 q)) g x0 x1 x2 x3 q := by
  unfold SquB at h ⊢
  simp [World.setCell, Array.getElem?_modify, h]
theorem implRunSq_ok (d : SquN) (D : Squ) (A : Option Addr) (n c : Nat) (xs : List Nat) (w : World) (hD : FvSqu d D) (hA : Fs w w.heap.size A n xs) (hn : n ≤ 256) :
    Calls Try.prog 13 #[d.val, .slice A n c] w (PLQB n (sqO D (fun k => ab .f32 (wd xs k)) (fun k => ab .f32 (wd xs k))) ⟨D.a, D.r, sqL D (fun k => ab .f32 (wd xs k)) n, D.t, D.q⟩ true w) :=
  implRunSq_of d A n c w _ _ _ _ (fun W s => implDuckSq_ok d D A A n c c xs xs W hD (hA.now s) (hA.now s) hn)
theorem implRunSq_no (d : SquN) (A : Option Addr) (n c : Nat) (w : World) (hs : n ≤ 9223372036854775807) (hn : ¬ n ≤ 256) (f : Nat → O) : Calls Try.prog 13 #[d.val, .slice A n c] w (PLQB 0 f ⟨some 0, some 0, some 0, some 0, some 0⟩ false w) :=
  implRunSq_of d A n c w _ _ _ _ (fun W s => implDuckSq_no d A A n n c c W hs (fun h => hn h.1) f)
end Go.Proofs.Ytagcepankiinpaa

/- Gains are at most 1; a squeeze that is drawn. -/
set_option linter.unusedVariables false
set_option linter.unusedSimpArgs false
namespace Go.Proofs.Ytagcepankiinpaa
open Fl Go.RowKit Ieee
def tL : List Nat := [0, 1031798784, 1040187392, 1044381696, 1048576000, 1050673152, 1052770304, 1054867456, 1056964608, 1058013184, 1059061760, 1060110336, 1061158912, 1062207488, 1063256064, 1064304640, 1065353216]
def tW (k : Nat) : Nat := tL.getD k 0
theorem tW_tab : ∀ k : Nat, k < 17 → opO .quo .f32 (some (fI (k : Int))) (some 1098907648) = some (tW k) ∧ zv .f32 (rung .f32 (tW k)) = k * 2 ^ 145 ∧ tW k < 4294967296 ∧ rung .f32 (tW k) ≤ 1065353216 ∧ sgn .f32 (tW k) = false := by decide +kernel
theorem tW_nn {k : Nat} (h : k < 17) : Nn 1065353216 (tW k) := by
  obtain ⟨_, _, h1, h2, h3⟩ := tW_tab k h
  exact ⟨h1, Nat.lt_of_le_of_lt h2 (by decide), h3, h2⟩
theorem rW_tab : ∀ j : Nat, j < 8 → ab .f32 (fI (1 + (j : Int))) = some (fI (1 + (j : Int))) ∧ fI (1 + (j : Int)) < 4294967296 ∧ 2 ^ 149 ≤ zv .f32 (rung .f32 (fI (1 + (j : Int)))) ∧ sgn .f32 (fI (1 + (j : Int))) = false ∧ rung .f32 (fI (1 + (j : Int))) ≠ 0 ∧ rung .f32 (fI (1 + (j : Int))) < 2139095040 := by decide +kernel
/-- a gain is from 0 to 1 -/
theorem gain_le {l k j : Nat} (hl : Nn 1092000000 l) (hk : k < 17) (hj : j < 8) :
    ∃ g, gainO (some l) (some (tW k)) (some (fI (1 + (j : Int)))) = some g ∧ Nn 1065353216 g ∧ (gtO (some l) (some (tW k)) = false → g = 1065353216) := by
  have ht := tW_nn hk
  obtain ⟨_, zt, _⟩ := tW_tab k hk
  obtain ⟨_, rl, rz, rs, r0, rf⟩ := rW_tab j hj
  have fr : Fl.Fin .f32 (fI (1 + (j : Int))) := by show rung .f32 _ < _; rw [ir_f32]; exact rf
  generalize fI (1 + (j : Int)) = r at *
  generalize tW k = t at *
  unfold gainO
  cases hg : gtO (some l) (some t)
  · exact ⟨1065353216, rfl, ⟨by decide, by show rung .f32 1065353216 < _; decide, by decide, by decide⟩, fun _ => rfl⟩
  · rw [nn_gt hl ht] at hg
    have hlt := of_decide_eq_true hg
    obtain ⟨m, e, hz, hform, hm⟩ := rung_form .f32 (rung .f32 l)
    have he := form_e (C := 1092000001) (E := 145) hform (by have := hl.le; omega) (by decide)
    have zle := (zv_lt .f32).2 hlt
    -- the difference is a number of the format
    obtain ⟨u, hu⟩ : ∃ u, u + e = 145 := ⟨145 - e, by omega⟩
    have ztu : zv .f32 (rung .f32 t) = k * 2 ^ u * 2 ^ e := by rw [zt, ← hu, Nat.pow_add, Nat.mul_assoc]
    have hkm : k * 2 ^ u ≤ m := by
      rw [ztu, hz] at zle
      exact Nat.le_of_lt (Nat.lt_of_mul_lt_mul_right zle)
    obtain ⟨q, hq, hzq⟩ := rep .f32 (m := m - k * 2 ^ u) (e := e) (Nat.lt_of_le_of_lt (Nat.sub_le _ _) hm) (by
      rw [ir_f32, show FloatKind.f32.format.binade = 8388608 from by decide]; omega)
    obtain ⟨d, hd, fd, vd⟩ := sub_exact .f32 hl.fin ht.fin hq (by
      rw [sv_nn hl, sv_nn ht, hzq, Nat.sub_mul, ← hz, ← ztu]; omega)
    rw [sv_nn hl, sv_nn ht] at vd
    have ld := opw_lt rfl hl.lt ht.lt hl.fin ht.fin hd
    have sd : sgn .f32 d = false := by
      cases h : sgn .f32 d
      · rfl
      · unfold sv sg at vd
        rw [h, if_pos rfl] at vd
        omega
    have nd : Nn (rung .f32 d) d := ⟨ld, fd, sd, Nat.le_refl _⟩
    rw [sv_nn nd] at vd
    obtain ⟨x, hx, hxle⟩ := div_size .f32 fd fr fd r0 149 (by decide) (Nat.mul_le_mul_left _ rz)
    obtain ⟨x', hx', sx⟩ := div_sign .f32 fd fr r0
    rw [hx] at hx'; injection hx' with hx'; subst hx'
    have nx : Nn (rung .f32 d) x := ⟨opw_lt rfl ld rl fd fr hx, Nat.lt_of_le_of_lt hxle fd, by rw [sx, sd, rs]; rfl, hxle⟩
    obtain ⟨s, hs, hR, h0⟩ := add_val .f32 ht.fin nx.fin
    rw [sv_nn ht, sv_nn nx] at hR h0
    have z1 := (zv_le .f32).2 hxle
    have hsl : rung .f32 s ≤ rung .f32 l := hR.le _ hl.fin (by omega)
    have ls := opw_lt rfl ht.lt nx.lt ht.fin nx.fin hs
    have ns : Nn (rung .f32 l) s := ⟨ls, Nat.lt_of_le_of_lt hsl hl.fin, by
      by_cases hv : (zv .f32 (rung .f32 t) : Int) + (zv .f32 (rung .f32 x) : Int) = 0
      · rw [h0 hv, ht.sgn]; rfl
      · rw [hR.sgn hv]; exact decide_eq_false (by omega), hsl⟩
    have l0 : rung .f32 l ≠ 0 := by omega
    have one : Fl.Fin .f32 1065353216 := by show rung .f32 1065353216 < _; decide
    obtain ⟨g, hgq, hgle⟩ := div_size .f32 ns.fin hl.fin one l0 149 (by decide) (by
      rw [show rung .f32 1065353216 = 1065353216 from by decide, zv_one, Nat.mul_comm]
      exact Nat.mul_le_mul_left _ ((zv_le .f32).2 hsl))
    obtain ⟨g', hg', sg'⟩ := div_sign .f32 ns.fin hl.fin l0
    rw [hgq] at hg'; injection hg' with hg'; subst hg'
    rw [show rung .f32 1065353216 = 1065353216 from by decide] at hgle
    refine ⟨g, ?_, ⟨opw_lt rfl ls hl.lt ns.fin hl.fin hgq, Nat.lt_of_le_of_lt hgle (by decide), by rw [sg', ns.sgn, hl.sgn]; rfl, hgle⟩, fun h => absurd h (by decide)⟩
    show opO .quo .f32 (opO .add .f32 (some t) (opO .quo .f32 (opO .sub .f32 (some l) (some t)) (some r))) (some l) = _
    rw [show opO .sub .f32 (some l) (some t) = some d from hd, show opO .quo .f32 (some d) (some r) = some x from hx, show opO .add .f32 (some t) (some x) = some s from hs]
    exact hgq
theorem SquB.setR {w : World} {g r x0 x1 x2 x3 x4 : Nat} (h : SquB w g x0 x1 x2 x3 x4) : SquB (w.setCell ⟨g, 1, none⟩ (.float .f32 r)) g x0 r x2 x3 x4 := by
  unfold SquB at h ⊢
  simp [World.setCell, Array.getElem?_modify, h]
theorem sinceSetQ {w a : World} (h : w.Since w.heap.size a) (o : Nat) (v : Value) : w.Since w.heap.size (a.setCell ⟨w.heap.size, o, none⟩ v) := h.setCell (Nat.le_refl _) _
theorem srcOwn {B b K g : Nat} {w : World} (h : Src B b K w) (hg : b < g) (o : Nat) (v : Value) : Src B b K (w.setCell ⟨g, o, none⟩ v) :=
  h.on ((World.Since.refl _ _).setCell (show b + 1 ≤ g by omega) _)
/-- a squeeze with shares from 0 to 1, a threshold of at least 0 and a ratio of at least 1 -/
def PSqu (w : World) (e : Ending) (w' : World) : Prop := ∃ (i1 i2 i3 j : Nat) (d : SquN), e = .returned d.val ∧ i1 < 17 ∧ i2 < 17 ∧ i3 < 17 ∧ j < 8 ∧ FvSqu d ⟨some (tW i1), some (tW i2), some 0, some (tW i3), some (fI (1 + (j : Int)))⟩ ∧ w.Since w.heap.size w'
set_option maxHeartbeats 4000000 in
set_option maxRecDepth 100000 in
theorem r8Squeeze_any (A : Option Addr) (n c : Nat) (xs : List Int) (w : World) (h : Bs w w.heap.size A n xs) (hn : n ≤ 1048576) :
    Calls Try.prog 6 #[.slice A n c] w (PSqu w) := by
  have HH := Lib.hid h; clear h
  have q16 : Hid (Fv .f32 1098907648 (some 1098907648)) := fvc (by decide) (by decide)
  go_enter Try.func6, Try.ntmps6
  go_wp2_with fail
  generalize hW : World.alloc w _ = W0
  have z0 : Hid (W0.heap.size = w.heap.size + 1) := Lib.hid (by rw [← hW]; simp)
  have R0 : Hid (SquB W0 w.heap.size 0 0 0 0 0) := Lib.hid (by rw [← hW]; exact SquB.new _ _ _ _ _ _)
  have T0 : Hid (w.Since w.heap.size W0) := Lib.hid (by rw [← hW]; exact (World.Since.refl _ _).alloc (Nat.le_refl _) _)
  clear hW
  refine (source_any A n c xs W0 ((HH.out.since T0.out (Nat.le_refl _)).more (by have := z0.out; omega)) hn).mono ?_
  rintro e w1 ⟨rfl, s1, t1⟩
  have S1 := Lib.hid s1; have T1 := Lib.hid (since_step T0.out t1); have R1 := Lib.hid (R0.out.of (t1.block _ (by have := z0.out; omega))); clear s1 t1
  obtain ⟨b, hb⟩ : ∃ b, Hid (b = W0.heap.size) := ⟨_, Lib.hid rfl⟩
  rw [← hb.out] at S1 ⊢
  have hbw : Hid (w.heap.size < b) := Lib.hid (by rw [hb.out, z0.out]; omega)
  clear hb z0 T0 R0
  go_wp2_with fail
  refine (pick_any b b 0 17 w1 S1.out (by omega) (by omega)).mono ?_
  rintro e w2 ⟨v2, rfl, a1, a2, s, o⟩
  have a3 := a2 (by omega)
  obtain ⟨i1, rfl⟩ := Int.eq_ofNat_of_zero_le a1
  have S2 := Lib.hid s; have T2 := Lib.hid (T1.out.trans (o.since (lo := w.heap.size) (by have := hbw.out; omega))); have R2 := Lib.hid (R1.out.of (o.2 _ R1.out.at_.f.lt (by have := hbw.out; omega)))
  have h1 : Hid (i1 < 17) := Lib.hid (by omega)
  clear s o a1 a2 a3 S1 T1 R1
  have q1 := fI_fv (i1 : Int)
  go_wp2_with (with_reducible_and_instances refine Lo.wpList_fo _ rfl _ _ _ _ _ rfl _ _ _ _ _ rfl rfl rfl (by assumption) (by assumption) ?_; intro rr nn hrr)
  generalize hW : World.drewN _ nn = W2
  obtain ⟨ra, hra⟩ : ∃ q, q = rr := ⟨_, rfl⟩
  subst hra
  obtain ⟨bx, hbx⟩ : ∃ q, Hid (q = w2.heap.size) := ⟨_, Lib.hid rfl⟩
  have hlt := S2.out.lt
  have X2 : Hid (SquB W2 bx ra 0 0 0 0) := Lib.hid (by rw [← hW, hbx.out]; exact SquB.new _ _ _ _ _ _)
  have S3 : Hid (Src b b 2 W2) := Lib.hid (by rw [← hW]; exact (S2.out.on ((World.Since.refl (b + 1) w2).alloc (by omega) _)).drewN _)
  have R3 : Hid (SquB W2 w.heap.size 0 0 0 0 0) := Lib.hid (by rw [← hW]; exact R2.out.of (blk_keep _ R2.out.at_.f.lt))
  have T3 : Hid (w.Since w.heap.size W2) := Lib.hid (by rw [← hW]; exact since_drewN (T2.out.alloc T2.out.size _) _)
  have hbb : Hid (b < bx) := Lib.hid (by rw [hbx.out]; exact hlt)
  have hrr1 : Hid (Fv .f32 ra (some (tW i1))) := Lib.hid (by rw [← (tW_tab i1 h1.out).1]; exact hrr.out)
  rw [← hbx.out]
  clear hW S2 R2 T2 hbx hlt hrr q1
  refine (pick_any b b 2 17 W2 S3.out (by omega) (by omega)).mono ?_
  rintro e w4 ⟨v4, rfl, a1, a2, s, o⟩
  have a3 := a2 (by omega)
  obtain ⟨i2, rfl⟩ := Int.eq_ofNat_of_zero_le a1
  have S4 := Lib.hid s; have T4 := Lib.hid (T3.out.trans (o.since (lo := w.heap.size) (by have := hbw.out; omega))); have R4 := Lib.hid (R3.out.of (o.2 _ R3.out.at_.f.lt (by have := hbw.out; omega)))
  have X4 := Lib.hid (X2.out.of (o.2 _ X2.out.at_.f.lt (by have := hbb.out; omega)))
  have h2 : Hid (i2 < 17) := Lib.hid (by omega)
  clear s o a1 a2 a3 S3 T3 R3 X2
  have q1 := fI_fv (i2 : Int)
  have x1 := X4.out.at_.f.r
  have e0 := X4.out.free (o := 1)
  go_wp2_with (with_reducible_and_instances refine Lo.wpList_fo _ rfl _ _ _ _ _ rfl _ _ _ _ _ rfl rfl rfl (by assumption) (by assumption) ?_; intro rr nn hrr)
  generalize hW : World.drewN _ nn = W5
  obtain ⟨rb, hrb⟩ : ∃ q, q = rr := ⟨_, rfl⟩
  subst hrb
  have X5 : Hid (SquB W5 bx ra rb 0 0 0) := Lib.hid (by rw [← hW]; exact X4.out.setR)
  have S5 : Hid (Src b b 4 W5) := Lib.hid (by rw [← hW]; exact (srcOwn S4.out hbb.out _ _).drewN _)
  have R5 : Hid (SquB W5 w.heap.size 0 0 0 0 0) := Lib.hid (by rw [← hW]; exact R4.out.of (Go.Deep.blk_setCell_other _ _ _ _ (by have := hbw.out; have := hbb.out; show w.heap.size ≠ bx; omega)))
  have T5 : Hid (w.Since w.heap.size W5) := Lib.hid (by rw [← hW]; exact since_drewN (T4.out.setCell (a := ⟨bx, 1, none⟩) (by have := hbw.out; have := hbb.out; show w.heap.size ≤ bx; omega) _) _)
  have hrr2 : Hid (Fv .f32 rb (some (tW i2))) := Lib.hid (by rw [← (tW_tab i2 h2.out).1]; exact hrr.out)
  clear hW S4 R4 T4 X4 hrr q1 x1 e0
  refine (pick_any b b 4 17 W5 S5.out (by omega) (by omega)).mono ?_
  rintro e w6 ⟨v6, rfl, a1, a2, s, o⟩
  have a3 := a2 (by omega)
  obtain ⟨i3, rfl⟩ := Int.eq_ofNat_of_zero_le a1
  have S6 := Lib.hid s; have T6 := Lib.hid (T5.out.trans (o.since (lo := w.heap.size) (by have := hbw.out; omega))); have R6 := Lib.hid (R5.out.of (o.2 _ R5.out.at_.f.lt (by have := hbw.out; omega)))
  have X6 := Lib.hid (X5.out.of (o.2 _ X5.out.at_.f.lt (by have := hbb.out; omega)))
  have h3 : Hid (i3 < 17) := Lib.hid (by omega)
  clear s o a1 a2 a3 S5 T5 R5 X5
  have q1 := fI_fv (i3 : Int)
  have x1 := X6.out.at_.t
  have e0 := X6.out.free (o := 3)
  go_wp2_with (with_reducible_and_instances refine Lo.wpList_fo _ rfl _ _ _ _ _ rfl _ _ _ _ _ rfl rfl rfl (by assumption) (by assumption) ?_; intro rr nn hrr)
  generalize hW : World.drewN _ nn = W7
  obtain ⟨rc, hrc⟩ : ∃ q, q = rr := ⟨_, rfl⟩
  subst hrc
  have X7 : Hid (SquB W7 bx ra rb 0 rc 0) := Lib.hid (by rw [← hW]; exact X6.out.setT)
  have S7 : Hid (Src b b 6 W7) := Lib.hid (by rw [← hW]; exact (srcOwn S6.out hbb.out _ _).drewN _)
  have R7 : Hid (SquB W7 w.heap.size 0 0 0 0 0) := Lib.hid (by rw [← hW]; exact R6.out.of (Go.Deep.blk_setCell_other _ _ _ _ (by have := hbw.out; have := hbb.out; show w.heap.size ≠ bx; omega)))
  have T7 : Hid (w.Since w.heap.size W7) := Lib.hid (by rw [← hW]; exact since_drewN (T6.out.setCell (a := ⟨bx, 3, none⟩) (by have := hbw.out; have := hbb.out; show w.heap.size ≤ bx; omega) _) _)
  have hrr3 : Hid (Fv .f32 rc (some (tW i3))) := Lib.hid (by rw [← (tW_tab i3 h3.out).1]; exact hrr.out)
  clear hW S6 R6 T6 X6 hrr q1 x1 e0
  refine (pick_any b b 6 8 W7 S7.out (by omega) (by omega)).mono ?_
  rintro e w8 ⟨v8, rfl, a1, a2, s, o⟩
  have a3 := a2 (by omega)
  obtain ⟨j, rfl⟩ := Int.eq_ofNat_of_zero_le a1
  have T8 := Lib.hid (T7.out.trans (o.since (lo := w.heap.size) (by have := hbw.out; omega))); have R8 := Lib.hid (R7.out.of (o.2 _ R7.out.at_.f.lt (by have := hbw.out; omega)))
  have X8 := Lib.hid (X7.out.of (o.2 _ X7.out.at_.f.lt (by have := hbb.out; omega)))
  have h4 : j < 8 := by omega
  have q1 := fI_fv (1 + (j : Int))
  have q2 : Hid (Fv .f32 (floatOfInt .f32 (1 + (j : Int))) (some (fI (1 + (j : Int))))) := q1
  clear s o a1 a2 S7 T7 R7 X7
  have x0 := X8.out.at_.f.a; have x1 := X8.out.at_.f.r; have x2 := X8.out.at_.f.l; have x3 := X8.out.at_.t; have x4 := X8.out.at_.q
  have e0 := X8.out.free (o := 4)
  have n1 : w.heap.size ≠ bx := by have := hbw.out; have := hbb.out; omega
  have n2 : bx ≠ w.heap.size := fun h => n1 h.symm
  have r0 := R8.out.at_.f.a; have r1 := R8.out.at_.f.r; have r2 := R8.out.at_.f.l; have r3 := R8.out.at_.t; have r4 := R8.out.at_.q
  have f0 := fun o => R8.out.free (o := o)
  have NB := Lib.hid fun (a r l t q : Nat) => (show SquB (w8.setCell ⟨bx, 4, none⟩ (.float .f32 q)) w.heap.size 0 0 0 0 0 from R8.out.of (Go.Deep.blk_setCell_other _ _ _ _ n1)).set5 (a := a) (r := r) (l := l) (t := t) (q := q)
  have SS := Lib.hid fun (q : Nat) => T8.out.setCell (a := ⟨bx, 4, none⟩) (by have := hbw.out; have := hbb.out; show w.heap.size ≤ bx; omega) (.float .f32 q)
  go_wp2_with fail
  have NB := NB.out ra rb 0 rc (floatOfInt .f32 (1 + (j : Int)))
  have g0 := NB.at_.f.a; have g1 := NB.at_.f.r; have g2 := NB.at_.f.l; have g3 := NB.at_.t; have g4 := NB.at_.q
  have SS := Lib.hid (sinceSetQ (sinceSetQ (sinceSetQ (sinceSetQ (sinceSetQ (SS.out (floatOfInt .f32 (1 + (j : Int)))) 0 (.float .f32 ra)) 1 (.float .f32 rb)) 2 (.float .f32 0)) 3 (.float .f32 rc)) 4 (.float .f32 (floatOfInt .f32 (1 + (j : Int)))))
  generalize World.setCell _ _ _ = V at *
  exact bodyPost_ret (v := .agg #[.float .f32 ra, .float .f32 rb, .float .f32 0, .float .f32 rc, .float .f32 (floatOfInt .f32 (1 + (j : Int)))]) (by simp [results, Try.results6, go_sem, g0, g1, g2, g3, g4]) rfl ⟨i1, i2, i3, j, ⟨ra, rb, 0, rc, floatOfInt .f32 (1 + (j : Int))⟩, rfl, h1.out, h2.out, h3.out, h4, ⟨hrr1, hrr2, fv0, hrr3, q2⟩, SS.out⟩
end Go.Proofs.Ytagcepankiinpaa

/- Statements whose order is open, and which make memory and store into it: one walk in the order of the text serves every order. Of a slot it is known what it is, or only what is true of it and of the blocks that it speaks of. -/
set_option linter.unusedVariables false
set_option linter.unusedSimpArgs false
namespace Go.Proofs.Ytagcepankiinpaa
namespace Lk
open Fl Ieee
/-- blocks -/
abbrev Fp := Nat → Prop
/-- what is known of a slot: of its value, of blocks, of a world; bx: these blocks are its own -/
structure Kd where
  p : Value → Fp → World → Prop
  stable : ∀ u S (w w' : World), (∀ g, S g → w'.heap[g]? = w.heap[g]?) → p u S w → p u S w'
  bx : Bool
inductive Va where
  | v (u : Value)
  | k (K : Kd)
def Va.val : Va → Value
  | .v u => u
  | .k _ => undef
def Va.kd : Va → Option Kd
  | .v _ => none
  | .k K => some K
/-- what an operation leaves: in its slot, and of the box into which it stores -/
structure Ef where
  x : Va
  st : Option (Nat × Kd)
def ev (u : Value) : Ef := ⟨.v u, none⟩
structure Fa where
  a : Act
  κ : Nat → Option Kd
def nb : Value → Prop
  | .bool _ => False
  | _ => True
def upd (κ : Nat → Option Kd) (d : Nat) (k : Option Kd) : Nat → Option Kd := fun i => if i = d then k else κ i
def k1 (A : Fa) (dst : Option Tmp) (x : Va) : Nat → Option Kd :=
  match dst with
  | some d => if d < A.a.tmps.size then upd A.κ d x.kd else A.κ
  | none => A.κ
def k2 (κ : Nat → Option Kd) : Option (Nat × Kd) → Nat → Option Kd
  | some q => upd κ q.1 (some q.2)
  | none => κ
def Fa.put (A : Fa) (dst : Option Tmp) (e : Ef) : Fa := ⟨A.a.put dst e.x.val, k2 (k1 A dst e.x) e.st⟩
/-- the box into which an operation stores -/
def stOf (o : Oper) : Option Nat :=
  match o.op with
  | .store _ (.tmp p) _ => some p
  | _ => none
theorem put_size (a : Act) (dst : Option Tmp) (v : Value) : (a.put dst v).tmps.size = a.tmps.size := by cases dst <;> simp [Act.put]
def R (N : Nat) (A : Fa) (i : Nat) (b : Act) (fp : Nat → Fp) (w : World) : Prop :=
  match A.κ i with
  | none => b.tmps.getD i undef = A.a.tmps.getD i undef
  | some K => nb (A.a.tmps.getD i undef) ∧ nb (b.tmps.getD i undef) ∧ K.p (b.tmps.getD i undef) (fp i) w ∧ (∀ g, fp i g → g < w.heap.size) ∧ (K.bx = true → ∀ g, fp i g → N ≤ g)
def AR (N : Nat) (A : Fa) (b : Act) (fp : Nat → Fp) (w : World) : Prop :=
  b.defers = A.a.defers ∧ b.tmps.size = A.a.tmps.size ∧ (∀ i, R N A i b fp w) ∧ ∀ i j K K', i ≠ j → A.κ i = some K → A.κ j = some K' → K.bx = true → ∀ g, fp i g → ¬ fp j g
theorem R.none_ {N : Nat} {A : Fa} {i : Nat} {b : Act} {fp : Nat → Fp} {w : World} (h : R N A i b fp w) (hk : A.κ i = none) : b.tmps.getD i undef = A.a.tmps.getD i undef := by
  unfold R at h; rw [hk] at h; exact h
theorem R.some_ {N : Nat} {A : Fa} {i : Nat} {b : Act} {fp : Nat → Fp} {w : World} {K : Kd} (h : R N A i b fp w) (hk : A.κ i = some K) : nb (A.a.tmps.getD i undef) ∧ nb (b.tmps.getD i undef) ∧ K.p (b.tmps.getD i undef) (fp i) w ∧ (∀ g, fp i g → g < w.heap.size) ∧ (K.bx = true → ∀ g, fp i g → N ≤ g) := by
  unfold R at h; rw [hk] at h; exact h
theorem R_of_none {N : Nat} {A : Fa} {i : Nat} {b : Act} {fp : Nat → Fp} {w : World} (hk : A.κ i = none) (h : b.tmps.getD i undef = A.a.tmps.getD i undef) : R N A i b fp w := by
  unfold R; rw [hk]; exact h
theorem R_of_some {N : Nat} {A : Fa} {i : Nat} {b : Act} {fp : Nat → Fp} {w : World} {K : Kd} (hk : A.κ i = some K) (h : nb (A.a.tmps.getD i undef) ∧ nb (b.tmps.getD i undef) ∧ K.p (b.tmps.getD i undef) (fp i) w ∧ (∀ g, fp i g → g < w.heap.size) ∧ (K.bx = true → ∀ g, fp i g → N ≤ g)) : R N A i b fp w := by
  unfold R; rw [hk]; exact h
/-- the operation has left this -/
def good (ops : Array Oper) (N : Nat) (o : Oper) (A : Fa) (b : Act) (fp : Nat → Fp) (w : World) (e : Ef) (u : Value) (w' : World) : Prop :=
  (match e.x with
   | .v z => u = z
   | .k K => nb u ∧ ∃ S : Fp, K.p u S w' ∧ (K.bx = true → ∀ g, S g → w.heap.size ≤ g) ∧ ∀ g, S g → g < w'.heap.size ∧ (w.heap.size ≤ g ∨ g < N ∨ ∃ j K', j ∈ o.looksAt ops ∧ A.κ j = some K' ∧ K'.bx = false ∧ fp j g)) ∧
  (match e.st with
   | none => w.Since w.heap.size w'
   | some q => w.Since N w' ∧ w'.heap.size = w.heap.size ∧ (∃ K0, A.κ q.1 = some K0 ∧ K0.bx = true) ∧ q.2.bx = true ∧ q.2.p (b.tmps.getD q.1 undef) (fp q.1) w' ∧ ∀ k, ¬ fp q.1 k → w'.heap[k]? = w.heap[k]?)
theorem since_of {N : Nat} {w0 w w' : World} (h : w0.Since N w) (hs : w.Since w.heap.size w') (hN : N ≤ w.heap.size) : w0.Since N w' := h.trans (since_mono hs hN)
section
variable {P : Program} {ops : Array Oper} {md : Region.Mode} {w0 : World}
/-- one step keeps the relation -/
theorem AR.step {N : Nat} {o : Oper} {A : Fa} {b : Act} {fp : Nat → Fp} {w w' : World} {e : Ef} {u : Value} (h : AR N A b fp w) (hd : ∀ q, e.st = some q → o.dst = none) (hN : N ≤ w.heap.size) (hg : good ops N o A b fp w e u w') :
    ∃ fp', AR N (A.put o.dst e) (b.put o.dst u) fp' w' := by
  obtain ⟨h1, h2, h3, h4⟩ := h
  obtain ⟨x, st⟩ := e
  obtain ⟨hx, hst⟩ := hg
  simp only at hx hst hd
  cases st with
  | some q =>
    obtain ⟨p, K⟩ := q
    have hdn := hd _ rfl
    simp only at hst
    obtain ⟨s1, s2, ⟨K0, hK0, hb0⟩, hb, hp, hoth⟩ := hst
    rw [hdn]
    refine ⟨fp, h1, h2, fun i => ?_, fun i j Ki Kj hij hi hj hbi => ?_⟩
    · by_cases e : i = p
      · subst e
        have := (h3 i).some_ hK0
        exact R_of_some (K := K) (by simp [Fa.put, k2, upd]) ⟨this.1, this.2.1, hp, fun g hg => by rw [s2]; exact this.2.2.2.1 g hg, fun _ => this.2.2.2.2 hb0⟩
      · have hk : (A.put none ⟨x, some (p, K)⟩).κ i = A.κ i := by simp [Fa.put, k2, k1, upd, e]
        cases hki : A.κ i with
        | none => exact R_of_none (hk.trans hki) ((h3 i).none_ hki)
        | some Ki =>
          have := (h3 i).some_ hki
          exact R_of_some (hk.trans hki) ⟨this.1, this.2.1, Ki.stable _ _ w w' (fun g hg => hoth g fun hpg => h4 p i K0 Ki (Ne.symm e) hK0 hki hb0 g hpg hg) this.2.2.1, fun g hg => by rw [s2]; exact this.2.2.2.1 g hg, this.2.2.2.2⟩
    · have hk : ∀ i K', (A.put none ⟨x, some (p, K)⟩).κ i = some K' → ∃ K'', A.κ i = some K'' ∧ (K'.bx = true → K''.bx = true) := by
        intro i K' hi
        by_cases e : i = p
        · subst e; exact ⟨K0, hK0, fun _ => hb0⟩
        · exact ⟨K', by simpa [Fa.put, k2, k1, upd, e] using hi, id⟩
      obtain ⟨K1, hi1, hb1⟩ := hk i Ki hi
      obtain ⟨K2, hj2, _⟩ := hk j Kj hj
      exact h4 i j K1 K2 hij hi1 hj2 (hb1 hbi)
  | none =>
    simp only at hst
    have keep : ∀ i K, A.κ i = some K → K.p (b.tmps.getD i undef) (fp i) w' ∧ ∀ g, fp i g → g < w'.heap.size := fun i K hi => by
      have := (h3 i).some_ hi
      exact ⟨K.stable _ _ w w' (fun g hg => hst.block g (this.2.2.2.1 g hg)) this.2.2.1, fun g hg => Nat.lt_of_lt_of_le (this.2.2.2.1 g hg) hst.size⟩
    have stay : ∀ i, R N A i b fp w → R N A i b fp w' := fun i hi => by
      cases hki : A.κ i with
      | none => exact R_of_none hki (hi.none_ hki)
      | some K =>
        have := hi.some_ hki
        have k := keep i K hki
        exact R_of_some hki ⟨this.1, this.2.1, k.1, k.2, this.2.2.2.2⟩
    cases hdst : o.dst with
    | none => exact ⟨fp, h1, h2, fun i => stay i (h3 i), h4⟩
    | some d =>
      by_cases hsz : d < A.a.tmps.size
      · have hbs : d < b.tmps.size := by rw [h2]; exact hsz
        have gA : ∀ i, (A.a.put (some d) x.val).tmps.getD i undef = if d = i then x.val else A.a.tmps.getD i undef := fun i => by
          simp only [Act.put]; rw [Lo.getD_put]
          by_cases e : d = i
          · rw [if_pos ⟨e, hsz⟩, if_pos e]
          · rw [if_neg (fun h => e h.1), if_neg e]
        have gB : ∀ i, (b.put (some d) u).tmps.getD i undef = if d = i then u else b.tmps.getD i undef := fun i => by
          simp only [Act.put]; rw [Lo.getD_put]
          by_cases e : d = i
          · rw [if_pos ⟨e, hbs⟩, if_pos e]
          · rw [if_neg (fun h => e h.1), if_neg e]
        have hκ : ∀ i, (A.put (some d) ⟨x, none⟩).κ i = if i = d then x.kd else A.κ i := fun i => by simp [Fa.put, k2, k1, hsz, upd]
        have oth : ∀ (fp' : Nat → Fp), (∀ i, i ≠ d → fp' i = fp i) → ∀ i, i ≠ d → R N (A.put (some d) ⟨x, none⟩) i (b.put (some d) u) fp' w' := fun fp' hfp i hi => by
          have hk := hκ i
          rw [if_neg hi] at hk
          have s := stay i (h3 i)
          have ea : (A.put (some d) ⟨x, none⟩).a.tmps.getD i undef = A.a.tmps.getD i undef := by show (A.a.put (some d) x.val).tmps.getD i undef = _; rw [gA, if_neg (Ne.symm hi)]
          have eb : (b.put (some d) u).tmps.getD i undef = b.tmps.getD i undef := by rw [gB, if_neg (Ne.symm hi)]
          cases hki : A.κ i with
          | none => exact R_of_none (hk.trans hki) (by rw [ea, eb]; exact s.none_ hki)
          | some K => exact R_of_some (hk.trans hki) (by rw [ea, eb, hfp i hi]; exact s.some_ hki)
        cases x with
        | v z =>
          simp only at hx
          subst hx
          refine ⟨fp, by simpa [Act.put, Fa.put] using h1, by simpa [Act.put, Fa.put] using h2, fun i => ?_, fun i j Ki Kj hij hi hj hbi => ?_⟩
          · by_cases e : i = d
            · subst e
              refine R_of_none (by rw [hκ, if_pos rfl]; rfl) ?_
              show _ = (A.a.put (some i) _).tmps.getD i undef
              rw [gA, gB, if_pos rfl, if_pos rfl]
              rfl
            · exact oth fp (fun _ _ => rfl) i e
          · rw [hκ] at hi hj
            by_cases e : i = d
            · rw [if_pos e] at hi; cases hi
            · by_cases e2 : j = d
              · rw [if_pos e2] at hj; cases hj
              · rw [if_neg e] at hi; rw [if_neg e2] at hj
                exact h4 i j Ki Kj hij hi hj hbi
        | k K =>
          simp only at hx
          obtain ⟨hnb, S, hp, hfr, hS⟩ := hx
          refine ⟨fun i => if i = d then S else fp i, by simpa [Act.put, Fa.put] using h1, by simpa [Act.put, Fa.put] using h2, fun i => ?_, fun i j Ki Kj hij hi hj hbi => ?_⟩
          · by_cases e : i = d
            · subst e
              refine R_of_some (K := K) (by rw [hκ, if_pos rfl]; rfl) ?_
              rw [gB, if_pos rfl]
              refine ⟨?_, hnb, by simpa using hp, fun g hg => (hS g (by simpa using hg)).1, fun hb g hg => Nat.le_trans hN (hfr hb g (by simpa using hg))⟩
              show nb ((A.a.put (some i) _).tmps.getD i undef)
              rw [gA, if_pos rfl]
              exact trivial
            · exact oth _ (fun i hi => if_neg hi) i e
          · rw [hκ] at hi hj
            intro g hgi hgj
            by_cases e : i = d
            · rw [if_pos e] at hi
              injection hi with hi
              subst hi
              have hne : j ≠ d := fun h => hij (e.trans h.symm)
              rw [if_neg hne] at hj
              simp only [e, if_true, if_neg hne] at hgi hgj
              have := hfr hbi g hgi
              have := ((h3 j).some_ hj).2.2.2.1 g hgj
              omega
            · rw [if_neg e] at hi
              simp only [if_neg e] at hgi
              have bi := (h3 i).some_ hi
              have hlt := bi.2.2.2.1 g hgi
              have hge := bi.2.2.2.2 hbi g hgi
              by_cases e2 : j = d
              · simp only [if_pos e2] at hgj
                rcases (hS g hgj).2 with h5 | h5 | ⟨j', K', _, hj', hb', hg'⟩
                · omega
                · omega
                · refine h4 i j' Ki K' (fun e3 => ?_) hi hj' hbi g hgi hg'
                  subst e3
                  rw [hi] at hj'
                  injection hj' with hj'
                  subst hj'
                  rw [hbi] at hb'
                  cases hb'
              · rw [if_neg e2] at hj
                simp only [if_neg e2] at hgj
                exact h4 i j Ki Kj hij hi hj hbi g hgi hgj
      · have ea : ∀ z, A.a.put (some d) z = A.a := fun z => by
          obtain ⟨⟨ts, ds⟩, κ⟩ := A
          simp only [Act.put]
          congr 1
          exact Array.setIfInBounds_eq_of_size_le (by simpa using hsz)
        have eb : b.put (some d) u = b := by
          obtain ⟨ts, ds⟩ := b
          simp only [Act.put]
          congr 1
          exact Array.setIfInBounds_eq_of_size_le (by simp only at h2; rw [h2]; exact Nat.le_of_not_lt hsz)
        have eA : A.put (some d) ⟨x, none⟩ = A := by
          obtain ⟨a, κ⟩ := A
          simp only [Fa.put, k2, k1]
          rw [if_neg hsz, ea]
        rw [eA, eb]
        exact ⟨fp, h1, h2, fun i => stay i (h3 i), h4⟩
theorem good.world {N : Nat} {o : Oper} {A : Fa} {b : Act} {fp : Nat → Fp} {w w' : World} {e : Ef} {u : Value} (hw : w0.Since N w) (hN : N ≤ w.heap.size) (hg : good ops N o A b fp w e u w') : w0.Since N w' ∧ N ≤ w'.heap.size := by
  obtain ⟨x, st⟩ := e
  have h := hg.2
  cases st with
  | none => exact ⟨since_of hw h hN, Nat.le_trans hN h.size⟩
  | some q => exact ⟨hw.trans h.1, by rw [h.2.1]; exact hN⟩
def upon (P : Program) (G : Value → World → Prop) : Result Next → Prop
  | .ok (.value u) w' => G u w'
  | .ok .skip w' => G undef w'
  | .ok (.enter f args) w' => Calls P f args w' fun e w2 => ∃ u, e = .returned u ∧ G u w2
  | _ => False
/-- From every frame alike and in every world behind w0 the operation leaves this. -/
def loose (P : Program) (ops : Array Oper) (w0 : World) (o : Oper) (A : Fa) (e : Ef) : Prop :=
  (∀ q, e.st = some q → o.dst = none ∧ stOf o = some q.1) ∧ ∀ b fp w, w0.Since w0.heap.size w → w0.heap.size ≤ w.heap.size → b.tmps.size = A.a.tmps.size → (∀ i ∈ o.looksAt ops, R w0.heap.size A i b fp w) →
    upon P (good ops w0.heap.size o A b fp w e) ((execOp b.eval o).run P w)
def wpK (P : Program) (ops : Array Oper) (w0 : World) (Q : Fa → Prop) : List Oper → Fa → Prop
  | [], A => Q A
  | o :: rest, A => if Region.wanted o (yielded ops A.a.tmps) then ∃ e, loose P ops w0 o A e ∧ wpK P ops w0 Q rest (A.put o.dst e) else wpK P ops w0 Q rest (A.put o.dst (ev undef))
def at1 (P : Program) (ops : Array Oper) (w0 : World) (i : Nat) (K : Fa → Prop) (A : Fa) : Prop :=
  match ops[i]? with
  | none => K A
  | some o => if Region.wanted o (yielded ops A.a.tmps) then ∃ e, loose P ops w0 o A e ∧ K (A.put o.dst e) else K (A.put o.dst (ev undef))
theorem at1_mono {i : Nat} {A : Fa} {K K2 : Fa → Prop} (h : ∀ A, K A → K2 A) (hh : at1 P ops w0 i K A) : at1 P ops w0 i K2 A := by
  unfold at1 at *
  cases ho : ops[i]? with
  | none => rw [ho] at hh; exact h _ hh
  | some o =>
    rw [ho] at hh
    simp only at hh ⊢
    by_cases hw : Region.wanted o (yielded ops A.a.tmps) = true
    · rw [if_pos hw] at hh ⊢
      obtain ⟨v, h1, h2⟩ := hh
      exact ⟨v, h1, h _ h2⟩
    · rw [if_neg hw] at hh ⊢
      exact h _ hh
theorem nb_yield {ops : Array Oper} {a b : Act} (hs : b.tmps.size = a.tmps.size) (h : ∀ i, b.tmps.getD i undef = a.tmps.getD i undef ∨ nb (a.tmps.getD i undef) ∧ nb (b.tmps.getD i undef)) : yielded ops b.tmps = yielded ops a.tmps := by
  funext j
  unfold yielded
  cases ht : (ops[j]?).bind (·.dst) with
  | none => rfl
  | some t =>
    simp only [Option.bind_some]
    by_cases hs2 : t < a.tmps.size
    · rw [Lo.getD_of_lt b.tmps t (by rw [hs]; exact hs2), Lo.getD_of_lt a.tmps t hs2]
      rcases h t with e | ⟨e1, e2⟩
      · rw [e]
      · generalize a.tmps.getD t undef = x at *
        generalize b.tmps.getD t undef = y at *
        cases x <;> cases y <;> simp_all [nb]
    · have e1 : a.tmps[t]? = none := Array.getElem?_eq_none (Nat.le_of_not_lt hs2)
      have e2 : b.tmps[t]? = none := Array.getElem?_eq_none (by rw [hs]; exact Nat.le_of_not_lt hs2)
      rw [e1, e2]
theorem AR.yield {N : Nat} {A : Fa} {b : Act} {fp : Nat → Fp} {w : World} (h : AR N A b fp w) : yielded ops b.tmps = yielded ops A.a.tmps :=
  nb_yield h.2.1 fun i => by
    cases hk : A.κ i with
    | none => exact .inl ((h.2.2.1 i).none_ hk)
    | some K => have := (h.2.2.1 i).some_ hk; exact .inr ⟨this.1, this.2.1⟩
def anyL (P : Program) (md : Region.Mode) (ops : Array Oper) (w0 : World) (Q : Fa → Prop) : Nat → Array Bool → Fa → Prop
  | 0, listed, A => Region.ready md ops listed = [] ∧ Q A
  | n + 1, listed, A => (Region.ready md ops listed = [] → Q A) ∧ ∀ i ∈ Region.ready md ops listed, at1 P ops w0 i (anyL P md ops w0 Q n (listed.setIfInBounds i true)) A
theorem wp_of_at1 {i : Nat} {A : Fa} {b : Act} {fp : Nat → Fp} {K : Fa → Prop} {K2 : Act → World → Prop} {Q2 : Exit → Act → World → Prop} {w : World} (hw : w0.Since w0.heap.size w) (hN : w0.heap.size ≤ w.heap.size) (hab : AR w0.heap.size A b fp w)
    (h : ∀ A b fp w, w0.Since w0.heap.size w → w0.heap.size ≤ w.heap.size → AR w0.heap.size A b fp w → K A → K2 b w) (hh : at1 P ops w0 i K A) : wpOp P ops Q2 i K2 b w := by
  unfold at1 at hh
  unfold wpOp
  cases ho : ops[i]? with
  | none => rw [ho] at hh; exact h _ _ _ _ hw hN hab hh
  | some o =>
    rw [ho] at hh
    simp only at hh ⊢
    rw [hab.yield]
    by_cases hwt : Region.wanted o (yielded ops A.a.tmps) = true
    · rw [if_pos hwt] at hh ⊢
      obtain ⟨e, ⟨hd, h1⟩, h2⟩ := hh
      refine .inl ?_
      have h3 := h1 b fp w hw hN hab.2.1 (fun i _ => hab.2.2.1 i)
      have fin : ∀ u w', good ops w0.heap.size o A b fp w e u w' → K2 (b.put o.dst u) w' := fun u w' hg => by
        obtain ⟨fp', hab'⟩ := hab.step (fun q hq => (hd q hq).1) hN hg
        have hw' := hg.world hw hN
        exact h _ _ fp' w' hw'.1 hw'.2 hab' h2
      unfold Oper.wp
      generalize (execOp b.eval o).run P w = r at h3
      cases r with
      | ok n w2 =>
        cases n <;> simp only [upon] at h3 <;> simp only [Oper.upon]
        case value u => exact fin _ _ h3
        case skip => exact fin _ _ h3
        case enter f args =>
          refine h3.mono fun e w3 ⟨u, he, hu⟩ => ?_
          subst he
          exact fin _ _ hu
      | halt x w2 => simp only [upon] at h3
    · rw [if_neg hwt] at hh ⊢
      obtain ⟨fp', hab'⟩ := hab.step (ops := ops) (o := o) (e := ev undef) (u := undef) (fun q hq => by cases hq) hN ⟨rfl, World.Since.refl _ _⟩
      exact h _ _ fp' w hw hN hab' hh
theorem wpAny_of_anyL {Q : Fa → Prop} {Q2 : Exit → Act → World → Prop} (hQ : ∀ A b fp w, w0.Since w0.heap.size w → w0.heap.size ≤ w.heap.size → AR w0.heap.size A b fp w → Q A → Q2 .normal b w) : ∀ (n : Nat) (listed : Array Bool) (A : Fa) (b : Act) (fp : Nat → Fp) (w : World), w0.Since w0.heap.size w → w0.heap.size ≤ w.heap.size → AR w0.heap.size A b fp w →
    anyL P md ops w0 Q n listed A → wpAny P md ops Q2 n listed b w
  | 0, _, _, _, _, _, hw, hN, hab, h => ⟨h.1, hQ _ _ _ _ hw hN hab h.2⟩
  | n + 1, _, _, _, _, _, hw, hN, hab, h => ⟨fun h0 => hQ _ _ _ _ hw hN hab (h.1 h0), fun i hi => wp_of_at1 hw hN hab (fun A2 b2 fp2 w2 hw2 hN2 hab2 => wpAny_of_anyL hQ n _ A2 b2 fp2 w2 hw2 hN2 hab2) (h.2 i hi)⟩
/-! ### what an operation does not look at -/
def notIn (dst : Option Tmp) (e : Ef) (L : List Nat) : Prop := (∀ d, dst = some d → d ∉ L) ∧ ∀ q, e.st = some q → q.1 ∉ L
theorem put_κ {A : Fa} {dst : Option Tmp} {e : Ef} {i : Nat} (h1 : ∀ d, dst = some d → i ≠ d) (h2 : ∀ q, e.st = some q → i ≠ q.1) : (A.put dst e).κ i = A.κ i := by
  obtain ⟨x, st⟩ := e
  have hk : k1 A dst x i = A.κ i := by
    cases dst with
    | none => rfl
    | some d =>
      simp only [k1]
      by_cases hs : d < A.a.tmps.size
      · rw [if_pos hs]; simp [upd, h1 d rfl]
      · rw [if_neg hs]
  cases st with
  | none => exact hk
  | some q => simp only [Fa.put, k2, upd]; rw [if_neg (h2 q rfl)]; exact hk
theorem put_val {A : Fa} {dst : Option Tmp} {e : Ef} {i : Nat} (h1 : ∀ d, dst = some d → i ≠ d) : (A.put dst e).a.tmps.getD i undef = A.a.tmps.getD i undef := by
  cases dst with
  | none => rfl
  | some d =>
    show (A.a.tmps.setIfInBounds d e.x.val).getD i undef = _
    rw [Lo.getD_put, if_neg (fun h => h1 d rfl h.1.symm)]
theorem R_put {N : Nat} {A : Fa} {dst : Option Tmp} {e : Ef} {L : List Nat} (h : notIn dst e L) {i : Nat} (hi : i ∈ L) {b : Act} {fp : Nat → Fp} {w : World} : R N (A.put dst e) i b fp w ↔ R N A i b fp w := by
  unfold R
  have h1 : ∀ d, dst = some d → i ≠ d := fun d hd e => h.1 d hd (e ▸ hi)
  rw [put_κ h1 (fun q hq e => h.2 q hq (e ▸ hi)), put_val h1]
theorem good_put {N : Nat} {o : Oper} {A : Fa} {dst : Option Tmp} {e e2 : Ef} (h : notIn dst e (o.looksAt ops)) (hst : ∀ q, e2.st = some q → q.1 ∈ o.looksAt ops) {b : Act} {fp : Nat → Fp} {w : World} {u : Value} {w' : World} :
    good ops N o (A.put dst e) b fp w e2 u w' ↔ good ops N o A b fp w e2 u w' := by
  have hκ : ∀ j, j ∈ o.looksAt ops → (A.put dst e).κ j = A.κ j := fun j hj => put_κ (fun d hd e => h.1 d hd (e ▸ hj)) (fun q hq e => h.2 q hq (e ▸ hj))
  obtain ⟨x, st⟩ := e2
  unfold good
  refine and_congr ?_ ?_
  · cases x with
    | v z => exact Iff.rfl
    | k K =>
      refine and_congr Iff.rfl (exists_congr fun S => and_congr Iff.rfl (and_congr Iff.rfl (forall_congr' fun g => imp_congr Iff.rfl (and_congr Iff.rfl (or_congr Iff.rfl (or_congr Iff.rfl ?_))))))
      refine exists_congr fun j => exists_congr fun K' => ⟨fun ⟨a, b, c⟩ => ⟨a, (hκ j a).symm.trans b, c⟩, fun ⟨a, b, c⟩ => ⟨a, (hκ j a).trans b, c⟩⟩
  · cases st with
    | none => exact Iff.rfl
    | some q =>
      have := hκ q.1 (hst q rfl)
      simp only
      rw [this]
theorem stOf_looks {o : Oper} {p : Nat} (h : stOf o = some p) : p ∈ o.looksAt ops := by
  unfold stOf at h
  split at h
  · rename_i ho
    injection h with h
    subst h
    unfold Oper.looksAt
    rw [ho]
    simp [Op.operands]
  · cases h
theorem loose_put {o : Oper} {A : Fa} {dst : Option Tmp} {e e2 : Ef} (h : notIn dst e (o.looksAt ops)) : loose P ops w0 o (A.put dst e) e2 ↔ loose P ops w0 o A e2 := by
  have hsz : (A.put dst e).a.tmps.size = A.a.tmps.size := put_size _ _ _
  unfold loose
  refine and_congr_right fun hq => ?_
  have hst : ∀ q, e2.st = some q → q.1 ∈ o.looksAt ops := fun q hq2 => stOf_looks (hq q hq2).2
  have up : ∀ b fp w r, upon P (good ops w0.heap.size o (A.put dst e) b fp w e2) r ↔ upon P (good ops w0.heap.size o A b fp w e2) r := fun b fp w r => by
    have : good ops w0.heap.size o (A.put dst e) b fp w e2 = good ops w0.heap.size o A b fp w e2 := funext fun u => funext fun w' => propext (good_put h hst)
    rw [this]
  constructor
  · intro hl b fp w h1 h2 h3 h4
    exact (up b fp w _).1 (hl b fp w h1 h2 (h3.trans hsz.symm) fun i hi => (R_put h hi).2 (h4 i hi))
  · intro hl b fp w h1 h2 h3 h4
    exact (up b fp w _).2 (hl b fp w h1 h2 (h3.trans hsz) fun i hi => (R_put h hi).1 (h4 i hi))
def Yl (P : Program) (ops : Array Oper) (w0 : World) (o : Oper) (e : Ef) (A : Fa) : Prop :=
  (Region.wanted o (yielded ops A.a.tmps) = true ∧ loose P ops w0 o A e) ∨ (Region.wanted o (yielded ops A.a.tmps) = false ∧ e = ev undef)
theorem Yl.st {o : Oper} {e : Ef} {A : Fa} (h : Yl P ops w0 o e A) : ∀ q, e.st = some q → o.dst = none ∧ stOf o = some q.1 := by
  rcases h with ⟨_, h⟩ | ⟨_, rfl⟩
  · exact h.1
  · intro q hq; cases hq
theorem at1_of_Yl {i : Nat} {o : Oper} {e : Ef} {A : Fa} (hi : ops[i]? = some o) (hy : Yl P ops w0 o e A) {K : Fa → Prop} (h : K (A.put o.dst e)) : at1 P ops w0 i K A := by
  unfold at1
  rw [hi]
  simp only
  rcases hy with ⟨hw, hv⟩ | ⟨hw, rfl⟩
  · rw [if_pos hw]; exact ⟨e, hv, h⟩
  · rw [if_neg (by rw [hw]; decide)]; exact h
theorem Yl_of_at1 {i : Nat} {o : Oper} {A : Fa} {K : Fa → Prop} (hi : ops[i]? = some o) (h : at1 P ops w0 i K A) : ∃ e, Yl P ops w0 o e A ∧ K (A.put o.dst e) := by
  unfold at1 at h
  rw [hi] at h
  simp only at h
  by_cases hw : Region.wanted o (yielded ops A.a.tmps) = true
  · rw [if_pos hw] at h
    obtain ⟨v, h1, h2⟩ := h
    exact ⟨v, .inl ⟨hw, h1⟩, h2⟩
  · rw [if_neg hw] at h
    exact ⟨ev undef, .inr ⟨by simpa using hw, rfl⟩, h⟩
theorem put_comm (A : Fa) {x y : Option Tmp} (e f : Ef) (h : ∀ d, x = some d → y ≠ some d) (h1 : ∀ q d, e.st = some q → y = some d → q.1 ≠ d) (h2 : ∀ q d, f.st = some q → x = some d → q.1 ≠ d) (h3 : ∀ q r, e.st = some q → f.st = some r → q.1 ≠ r.1) :
    (A.put x e).put y f = (A.put y f).put x e := by
  have ea := Act.put_comm A.a (x := x) (y := y) e.x.val f.x.val h
  have s1 : ∀ z v, (A.a.put z v).tmps.size = A.a.tmps.size := fun z v => put_size _ _ _
  show Fa.mk _ _ = Fa.mk _ _
  congr 1
  funext i
  simp only [Fa.put]
  have hk : ∀ (κ : Nat → Option Kd) (d : Option Tmp) (v : Va) (i : Nat), k1 ⟨A.a, κ⟩ d v i = if (d = some i ∧ i < A.a.tmps.size) then v.kd else κ i := fun κ d v i => by
    cases d with
    | none => simp [k1]
    | some d =>
      simp only [k1]
      by_cases hs : d < A.a.tmps.size
      · rw [if_pos hs]
        simp only [upd]
        by_cases e : i = d
        · subst e; simp [hs]
        · rw [if_neg e, if_neg (fun h => e (by injection h.1 with h; exact h.symm))]
      · rw [if_neg hs]
        split
        · rename_i h
          obtain ⟨h, h'⟩ := h
          injection h with h
          subst h
          exact absurd h' hs
        · rfl
  have hk' : ∀ (z : Option Tmp) (u : Value) (κ : Nat → Option Kd) (d : Option Tmp) (v : Va) (i : Nat), k1 ⟨A.a.put z u, κ⟩ d v i = if (d = some i ∧ i < A.a.tmps.size) then v.kd else κ i := fun z u κ d v i => by
    rw [← hk κ d v i]
    cases d with
    | none => rfl
    | some d => simp only [k1, s1]
  have hA : ∀ (d : Option Tmp) (v : Va) (i : Nat), k1 A d v i = if (d = some i ∧ i < A.a.tmps.size) then v.kd else A.κ i := fun d v i => hk A.κ d v i
  have hk2 : ∀ (κ : Nat → Option Kd) (q : Option (Nat × Kd)) (i : Nat), k2 κ q i = match q with | some q => (if i = q.1 then some q.2 else κ i) | none => κ i := fun κ q i => by cases q <;> rfl
  obtain ⟨ex, es⟩ := e
  obtain ⟨fx, fs⟩ := f
  simp only at h1 h2 h3 ⊢
  rw [hk2, hk2]
  simp only [hk', hk2, hA]
  cases es with
  | none =>
    cases fs with
    | none =>
      simp only
      by_cases c1 : x = some i ∧ i < A.a.tmps.size
      · by_cases c2 : y = some i ∧ i < A.a.tmps.size
        · exact absurd c2.1 (h i c1.1)
        · have hy' : ¬ y = some i := fun e => c2 ⟨e, c1.2⟩
          simp [c1, hy']
      · simp [c1]
    | some r =>
      simp only
      by_cases c : i = r.1
      · subst c
        by_cases c1 : x = some r.1 ∧ r.1 < A.a.tmps.size
        · exact absurd rfl (h2 r r.1 rfl c1.1)
        · simp [c1]
      · simp only [if_neg c]
        by_cases c1 : x = some i ∧ i < A.a.tmps.size
        · by_cases c2 : y = some i ∧ i < A.a.tmps.size
          · exact absurd c2.1 (h i c1.1)
          · have hy' : ¬ y = some i := fun e => c2 ⟨e, c1.2⟩
            simp [c1, hy']
        · simp [c1]
  | some q =>
    cases fs with
    | none =>
      simp only
      by_cases c : i = q.1
      · subst c
        by_cases c1 : y = some q.1 ∧ q.1 < A.a.tmps.size
        · exact absurd rfl (h1 q q.1 rfl c1.1)
        · simp [c1]
      · simp only [if_neg c]
        by_cases c1 : x = some i ∧ i < A.a.tmps.size
        · by_cases c2 : y = some i ∧ i < A.a.tmps.size
          · exact absurd c2.1 (h i c1.1)
          · have hy' : ¬ y = some i := fun e => c2 ⟨e, c1.2⟩
            simp [c1, hy']
        · simp [c1]
    | some r =>
      have hqr := h3 q r rfl rfl
      simp only
      by_cases c : i = r.1
      · subst c
        have c3 : ¬ r.1 = q.1 := fun e => hqr e.symm
        by_cases c1 : x = some r.1 ∧ r.1 < A.a.tmps.size
        · exact absurd rfl (h2 r r.1 rfl c1.1)
        · simp [c1, c3]
      · by_cases c' : i = q.1
        · subst c'
          by_cases c1 : y = some q.1 ∧ q.1 < A.a.tmps.size
          · exact absurd rfl (h1 q q.1 rfl c1.1)
          · simp [c1, c]
        · simp only [if_neg c, if_neg c']
          by_cases c1 : x = some i ∧ i < A.a.tmps.size
          · by_cases c2 : y = some i ∧ i < A.a.tmps.size
            · exact absurd c2.1 (h i c1.1)
            · have hy' : ¬ y = some i := fun e => c2 ⟨e, c1.2⟩
              simp [c1, hy']
          · simp [c1]
/-- no operation but the store itself looks at the box into which it stores -/
def stB (ops : Array Oper) : Bool := (List.range ops.size).all fun i => (List.range ops.size).all fun j => i == j || match ops[i]?, ops[j]? with
  | some oi, some oj => (match stOf oi with | some p => !(oj.looksAt ops).contains p | none => true)
  | _, _ => true
theorem stB_spec (h : stB ops = true) {i j : Nat} {oi oj : Oper} (hi : ops[i]? = some oi) (hj : ops[j]? = some oj) (hne : i ≠ j) {p : Nat} (hp : stOf oi = some p) : p ∉ oj.looksAt ops := by
  unfold stB at h
  have h1 := List.all_eq_true.1 h i (List.mem_range.2 (Array.getElem?_eq_some_iff.1 hi).1)
  have h2 := List.all_eq_true.1 h1 j (List.mem_range.2 (Array.getElem?_eq_some_iff.1 hj).1)
  simp only [hi, hj, hp, Bool.or_eq_true, beq_iff_eq, hne, false_or, Bool.not_eq_true', List.contains_eq_mem, decide_eq_false_iff_not] at h2
  exact h2
theorem at1_swap {i j : Nat} {oi oj : Oper} {e : Ef} (hi : ops[i]? = some oi) (hj : ops[j]? = some oj) (hne : i ≠ j) (hS : stB ops = true) (hap : oi.apart ops oj = true) {K : Fa → Prop} {A : Fa}
    (hy : Yl P ops w0 oi e A) (h : at1 P ops w0 j K (A.put oi.dst e)) : at1 P ops w0 j (fun B => Yl P ops w0 oi e B ∧ K (B.put oi.dst e)) A := by
  obtain ⟨h1, h2, h3⟩ := Oper.apart_spec hap
  have n1 : notIn oi.dst e (oj.looksAt ops) := ⟨h1, fun q hq => stB_spec hS hi hj hne (hy.st q hq).2⟩
  have keep : ∀ f : Ef, (∀ q, f.st = some q → oj.dst = none ∧ stOf oj = some q.1) → Yl P ops w0 oi e (A.put oj.dst f) := fun f hf => by
    have n2 : notIn oj.dst f (oi.looksAt ops) := ⟨h3, fun q hq => stB_spec hS hj hi (Ne.symm hne) (hf q hq).2⟩
    unfold Yl at hy ⊢
    rw [show (A.put oj.dst f).a = A.a.put oj.dst f.x.val from rfl, wanted_put oi A.a oj.dst f.x.val h3, loose_put n2]
    exact hy
  have com : ∀ f : Ef, (∀ q, f.st = some q → oj.dst = none ∧ stOf oj = some q.1) → (A.put oi.dst e).put oj.dst f = (A.put oj.dst f).put oi.dst e := fun f hf => by
    refine put_comm A e f h2 (fun q d hq hd => ?_) (fun q d hq hd => ?_) (fun q r hq hr => ?_)
    · intro he
      exact h3 d hd (he ▸ stOf_looks (hy.st q hq).2)
    · intro he
      exact h1 d hd (he ▸ stOf_looks (hf q hq).2)
    · intro he
      exact stB_spec hS hi hj hne (hy.st q hq).2 (he ▸ stOf_looks (hf r hr).2)
  unfold at1 at *
  rw [hj] at h ⊢
  simp only at h ⊢
  rw [show (A.put oi.dst e).a = A.a.put oi.dst e.x.val from rfl, wanted_put oj A.a oi.dst e.x.val h1] at h
  by_cases hw : Region.wanted oj (yielded ops A.a.tmps) = true
  · rw [if_pos hw] at h ⊢
    obtain ⟨f, hf, hn⟩ := h
    have hf' := (loose_put n1).1 hf
    exact ⟨f, hf', keep f hf'.1, by rw [← com f hf'.1]; exact hn⟩
  · rw [if_neg hw] at h ⊢
    exact ⟨keep _ (fun q hq => by cases hq), by rw [← com _ (fun q hq => by cases hq)]; exact h⟩
theorem anyL_first {Q : Fa → Prop} {i : Nat} {oi : Oper} {e : Ef} (hi : ops[i]? = some oi) (hS : stB ops = true) :
    ∀ (n : Nat) (listed : Array Bool) (A : Fa),
      (∀ j oj, ops[j]? = some oj → j ≠ i → listed.getD j true = false → (∀ e ∈ oj.after, Region.binds md e = true → e.on ≠ i) → oi.apart ops oj = true) →
      i ∈ Region.ready md ops listed → Yl P ops w0 oi e A →
      anyL P md ops w0 Q n (listed.setIfInBounds i true) (A.put oi.dst e) → anyL P md ops w0 Q (n + 1) listed A := by
  intro n
  induction n with
  | zero =>
    intro listed A _ hr hy H
    refine ⟨fun h => (by rw [h] at hr; cases hr), fun j hj => ?_⟩
    by_cases e : j = i
    · subst e; exact at1_of_Yl hi hy H
    · have h0 := ready_mono hj e
      rw [H.1] at h0
      cases h0
  | succ n ih =>
    intro listed A hfree hr hy H
    refine ⟨fun h => (by rw [h] at hr; cases hr), fun j hj => ?_⟩
    by_cases e : j = i
    · subst e; exact at1_of_Yl hi hy H
    · obtain ⟨hjun, oj, hoj, hall⟩ := mem_ready.1 hj
      have hnot : ∀ x ∈ oj.after, Region.binds md x = true → x.on ≠ i := fun x hx hb heq => by
        have g1 := hall x hx hb
        have g0 := (mem_ready.1 hr).1
        rw [heq] at g1
        rcases Nat.lt_or_ge i listed.size with hl | hl
        · simp [hl] at g0 g1; rw [g0] at g1; cases g1
        · simp [Array.getElem?_eq_none hl] at g1
      have hsw := at1_swap hi hoj (Ne.symm e) hS (hfree j oj hoj e hjun hnot) hy (H.2 j (ready_mono hj e))
      refine at1_mono (fun b hb => ih (listed.setIfInBounds j true) b (fun k ok hk hki hun hno => ?_) (ready_mono hr (Ne.symm e)) hb.1 ?_) hsw
      · refine hfree k ok hk hki ?_ hno
        by_cases hjk : j = k
        · subst hjk; exact hjun
        · rw [getD_set_ne true hjk] at hun; exact hun
      · rw [Array.setIfInBounds_comm _ _ e]
        exact hb.2
theorem anyL_text {Q : Fa → Prop} (hS : stB ops = true) : ∀ (l : List Oper) (k : Nat) (listed : Array Bool) (A : Fa), (∀ j, l[j]? = ops[k + j]?) →
    Region.lexFrom md ops l.length k listed = true → wpK P ops w0 Q l A → anyL P md ops w0 Q l.length listed A
  | [], _, _, _, _, hB, h => ⟨by simpa [Region.lexFrom] using hB, h⟩
  | o :: l, k, listed, A, hl, hB, h => by
    have h0 : ops[k]? = some o := by simpa using (hl 0).symm
    simp only [List.length_cons, Region.lexFrom, Bool.and_eq_true] at hB
    obtain ⟨⟨hr, hf⟩, hB2⟩ := hB
    have hst : at1 P ops w0 k (wpK P ops w0 Q l) A := by unfold at1; rw [h0]; exact h
    obtain ⟨v, hy, hK⟩ := Yl_of_at1 h0 hst
    exact anyL_first h0 hS l.length listed A (Region.free_spec h0 hf) (by simpa using hr) hy
      (anyL_text hS l (k + 1) _ _ (fun j => by have := hl (j + 1); simpa [Nat.add_assoc, Nat.add_comm 1 j] using this) hB2 hK)
end
/-- what stands behind the statement -/
def After (w0 : World) (A : Fa) (Rr : Act → (Nat → Fp) → World → Prop) : Prop := ∀ b fp w, w0.Since w0.heap.size w → w0.heap.size ≤ w.heap.size → AR w0.heap.size A b fp w → Rr b fp w
/-- **One walk in the order of the text serves every order.** -/
theorem wp_k {P : Program} {id : Nat} {Q : Exit → Act → World → Prop} {a : Act} {w : World} {l : List Oper} (hm : P.follows .mixedOrders = true) (hB : Region.lexB .any l.toArray = true) (hS : stB l.toArray = true)
    (h : wpK P l.toArray w (fun A => After w A fun b _ v => Q .normal b v) l ⟨a, fun _ => none⟩) : (Code.region id l.toArray true).wp P Q a w := by
  simp only [Region.lexB, Bool.and_eq_true] at hB
  have s0 : w.Since w.heap.size { w with drawn := w.drawn + 1 } := ⟨rfl, rfl, rfl, Nat.le_refl _, fun _ _ => rfl⟩
  refine wp_region_any hm (wpAny_of_anyL (w0 := w) (Q := fun A => After w A fun b _ v => Q .normal b v)
    (fun A b fp v hw hN hab hq => hq b fp v hw hN hab) _ _ ⟨a, fun _ => none⟩ a (fun _ _ => False) _ s0 (Nat.le_refl _) ⟨rfl, rfl, fun i => R_of_none rfl rfl, fun i j K K' _ hi => by cases hi⟩ ?_)
  have := anyL_text (P := P) (w0 := w) (md := .any) hS l 0 (Array.replicate l.length false) ⟨a, fun _ => none⟩ (by simp) (by simpa using hB.2) h
  simpa using this
end Lk
end Go.Proofs.Ytagcepankiinpaa

/- The steps of a walk by Lk. -/
set_option linter.unusedVariables false
set_option linter.unusedSimpArgs false
namespace Go.Proofs.Ytagcepankiinpaa
namespace Lk
open Fl Ieee
def pureOp (o : Oper) : Bool :=
  match o.op with
  | .move _ | .assign _ | .pick .. | .build .. | .load .. | .binOp .. | .unOp .. | .convert .. | .field .. | .index .. | .extract .. | .fieldAddr .. | .indexAddr .. | .makeInterface .. | .makeFunc .. | .slice .. | .sliceToArrayPointer .. => true
  | _ => false
theorem v_no_enter {P : Program} {s : Sem Value} {w w' : World} {f : FuncId} {args : Array Value} (h : (do pure (Next.value (← s)) : Sem Next).run P w = .ok (.enter f args) w') : False := by
  simp only [Sem.run_bind] at h
  cases hs : s.run P w with
  | ok a w2 => rw [hs] at h; simp [Result.andThen] at h
  | halt x w2 => rw [hs] at h; simp [Result.andThen] at h
theorem pure_no_enter {P : Program} {ρ : Operand → Value} {o : Oper} (h : pureOp o = true) {w w' : World} {f : FuncId} {args : Array Value} (e : (execOp ρ o).run P w = .ok (.enter f args) w') : False := by
  unfold pureOp at h
  unfold execOp at e
  cases ho : o.op <;> rw [ho] at h e <;> simp only at h e <;> first | (cases h; done) | exact v_no_enter e | (simp [Sem.run_pure] at e; done) | (simp only [Sem.run_bind, Sem.run_pure] at e; revert e; generalize Sem.run P _ w = r; intro e; cases r <;> simp [Result.andThen] at e; done) | skip
def avoidK (A : Fa) (o : Oper) : Bool := (o.op.operands.toList.all fun x => match x with | .tmp t => (A.κ t).isNone | _ => true) && (match o.op with | .select .. => false | _ => true)
theorem looks_op {ops : Array Oper} {o : Oper} {t : Nat} (h : (.tmp t : Operand) ∈ o.op.operands) : t ∈ o.looksAt ops := List.mem_append_left _ (List.mem_filterMap.2 ⟨.tmp t, by simpa using h, rfl⟩)
theorem eval_avoidK {ops : Array Oper} {N : Nat} {A : Fa} {b : Act} {fp : Nat → Fp} {w : World} {o : Oper} (hR : ∀ i ∈ o.looksAt ops, R N A i b fp w) (ho : avoidK A o = true) : execOp b.eval o = execOp A.a.eval o := by
  unfold avoidK at ho
  rw [Bool.and_eq_true] at ho
  refine execOp_congr o (fun cs bb e => by rw [e] at ho; simp at ho) fun x hx => ?_
  have h1 := List.all_eq_true.1 ho.1 x (by simpa using hx)
  cases x with
  | tmp t =>
    simp only at h1
    have hk : A.κ t = none := by simpa using h1
    exact (hR t (looks_op hx)).none_ hk
  | const v => rfl
  | global g => rfl
  | func f => rfl
/-- arguments, those that are known by their properties alone as they are -/
theorem args_eq {ops : Array Oper} {N : Nat} {A : Fa} {b : Act} {fp : Nat → Fp} {w : World} {o : Oper} (hR : ∀ i ∈ o.looksAt ops, R N A i b fp w) {xs : List Operand} (hx : ∀ x ∈ xs, x ∈ o.op.operands) :
    xs.map b.eval = xs.map fun x => match x with | .tmp t => (match A.κ t with | some _ => b.tmps.getD t undef | none => A.a.tmps.getD t undef) | y => A.a.eval y := by
  refine List.map_congr_left fun x hxx => ?_
  cases x with
  | tmp t =>
    simp only
    cases hk : A.κ t with
    | none => exact (hR t (looks_op (hx _ hxx))).none_ hk
    | some K => rfl
  | const v => rfl
  | global g => rfl
  | func f => rfl
section
variable {P : Program} {ops : Array Oper} {w0 : World} {Q : Fa → Prop} {A : Fa} {o : Oper} {rest : List Oper}
theorem wpK_nil (h : Q A) : wpK P ops w0 Q [] A := h
theorem wpK_of_loose {e : Ef} (hg : o.guard = none) (h : loose P ops w0 o A e) (hK : wpK P ops w0 Q rest (A.put o.dst e)) : wpK P ops w0 Q (o :: rest) A := by
  unfold wpK
  rw [if_pos (Lo.wanted_none hg _)]
  exact ⟨e, h, hK⟩
/-- an operation that looks at known slots alone, and leaves the world -/
theorem wpK_quiet (hg : o.guard = none) (ho : avoidK A o = true) (hp : pureOp o = true) (h : ∀ K : Act → Prop, (∀ a, wpK P ops w0 Q rest ⟨a, k1 A o.dst (.v undef)⟩ → K a) → o.quiet P A.a (fun v => w0.Since w0.heap.size v) K) : wpK P ops w0 Q (o :: rest) A := by
  obtain ⟨v, h1, h2⟩ := h (fun a => wpK P ops w0 Q rest ⟨a, k1 A o.dst (.v undef)⟩) (fun _ h => h)
  refine wpK_of_loose (e := ev v) hg ⟨fun q hq => (by cases hq), fun b fp w hw hN _ hR => ?_⟩ h2
  rw [eval_avoidK hR ho]
  have h3 := h1 w hw
  unfold Oper.quietAt at h3
  generalize hr : (execOp A.a.eval o).run P w = r at h3
  cases r with
  | ok n w2 =>
    cases n <;> simp only [Oper.quietUpon] at h3 <;> simp only [upon]
    case value u => obtain ⟨rfl, rfl⟩ := h3; exact ⟨rfl, World.Since.refl _ _⟩
    case skip => obtain ⟨rfl, rfl⟩ := h3; exact ⟨rfl, World.Since.refl _ _⟩
    case enter f args => exact absurd hr (fun h => pure_no_enter hp h)
  | halt x w2 => simp only [Oper.quietUpon] at h3
/-- an operation whose run is told -/
theorem wpK_told (hg : o.guard = none) (ho : avoidK A o = true) (v : Value) (hrun : ∀ w, w0.Since w0.heap.size w → w0.heap.size ≤ w.heap.size → ∃ w', (execOp A.a.eval o).run P w = .ok (.value v) w' ∧ w.Since w.heap.size w') (hK : wpK P ops w0 Q rest (A.put o.dst (ev v))) : wpK P ops w0 Q (o :: rest) A := by
  refine wpK_of_loose (e := ev v) hg ⟨fun q hq => (by cases hq), fun b fp w hw hN _ hR => ?_⟩ hK
  rw [eval_avoidK hR ho]
  obtain ⟨w', e, hs⟩ := hrun w hw hN
  rw [e]
  exact ⟨rfl, hs⟩
/-- a slot that is known by its properties alone, moved -/
theorem wpK_copy (hg : o.guard = none) (s : Nat) (hop : o.op = .move (.tmp s) ∨ o.op = .assign (.tmp s)) (K : Kd) (hk : A.κ s = some K) (hb : K.bx = false) (hK : wpK P ops w0 Q rest (A.put o.dst ⟨.k K, none⟩)) : wpK P ops w0 Q (o :: rest) A := by
  refine wpK_of_loose (e := ⟨.k K, none⟩) hg ⟨fun q hq => (by cases hq), fun b fp w hw hN _ hR => ?_⟩ hK
  have hm : s ∈ o.looksAt ops := looks_op (by rcases hop with h | h <;> rw [h] <;> simp [Op.operands])
  have h := (hR s hm).some_ hk
  have e : (execOp b.eval o).run P w = .ok (.value (b.tmps.getD s undef)) w := by
    rcases hop with h | h
    · exact BigFrame.run_move (.tmp s) h w
    · exact BigFrame.run_assign (.tmp s) h w
  rw [e]
  exact ⟨⟨h.2.1, fp s, h.2.2.1, (fun h2 => by rw [hb] at h2; cases h2), fun g hg => ⟨h.2.2.2.1 g hg, .inr (.inr ⟨s, K, hm, hk, hb, hg⟩)⟩⟩, World.Since.refl _ _⟩
theorem run_extract {ρ : Operand → Value} {s ix : Nat} (hop : o.op = .extract (.tmp s) ix) {vs : Array Value} {z : Value} (hv : ρ (.tmp s) = .tuple vs) (hz : vs[ix]? = some z) (w : World) : (execOp ρ o).run P w = .ok (.value z) w := by
  simp [execOp, hop, hv, Instr.extract, hz, Result.andThen]
theorem wpK_extract (hg : o.guard = none) (s ix : Nat) (hop : o.op = .extract (.tmp s) ix) (K K2 : Kd) (hk : A.κ s = some K) (hb : K.bx = false) (hb2 : K2.bx = false) (hex : ∀ u S w, K.p u S w → ∃ vs z, u = .tuple vs ∧ vs[ix]? = some z ∧ nb z ∧ K2.p z S w)
    (hK : wpK P ops w0 Q rest (A.put o.dst ⟨.k K2, none⟩)) : wpK P ops w0 Q (o :: rest) A := by
  refine wpK_of_loose (e := ⟨.k K2, none⟩) hg ⟨fun q hq => (by cases hq), fun b fp w hw hN _ hR => ?_⟩ hK
  have hm : s ∈ o.looksAt ops := looks_op (by rw [hop]; simp [Op.operands])
  have h := (hR s hm).some_ hk
  obtain ⟨vs, z, e1, e2, hz, h2⟩ := hex _ _ _ h.2.2.1
  rw [run_extract (P := P) (ρ := b.eval) hop e1 e2 w]
  exact ⟨⟨hz, fp s, h2, (fun h2 => by rw [hb2] at h2; cases h2), fun g hg => ⟨h.2.2.2.1 g hg, .inr (.inr ⟨s, K, hm, hk, hb, hg⟩)⟩⟩, World.Since.refl _ _⟩
theorem wpK_extractV (hg : o.guard = none) (s ix : Nat) (hop : o.op = .extract (.tmp s) ix) (K : Kd) (hk : A.κ s = some K) (z : Value) (hex : ∀ u S w, K.p u S w → ∃ vs, u = .tuple vs ∧ vs[ix]? = some z)
    (hK : wpK P ops w0 Q rest (A.put o.dst (ev z))) : wpK P ops w0 Q (o :: rest) A := by
  refine wpK_of_loose (e := ev z) hg ⟨fun q hq => (by cases hq), fun b fp w hw hN _ hR => ?_⟩ hK
  have hm : s ∈ o.looksAt ops := looks_op (by rw [hop]; simp [Op.operands])
  have h := (hR s hm).some_ hk
  obtain ⟨vs, e1, e2⟩ := hex _ _ _ h.2.2.1
  rw [run_extract (P := P) (ρ := b.eval) hop e1 e2 w]
  exact ⟨rfl, World.Since.refl _ _⟩
theorem run_enter {ρ : Operand → Value} {f : FuncId} {xs : List Operand} {tys : Array TypeId} (hop : o.op = Op.call ⟨.value (.func f), xs.toArray, tys⟩) (hf : ρ (.func f) = .func (.func f) #[] #[]) (henter : ∀ args w2, (callFunc f args).run P w2 = .ok (.enter f args) w2) (w : World) : (execOp ρ o).run P w = .ok (.enter f (xs.map ρ).toArray) w := by
  simp [execOp, hop, resolve, hf, invoke, Deferred.ofValue, henter, Result.andThen]
/-- a call whose result is known by its properties -/
theorem wpK_call (hg : o.guard = none) (f : FuncId) (xs : List Operand) (tys : Array TypeId) (hop : o.op = Op.call ⟨.value (.func f), xs.toArray, tys⟩) (henter : ∀ args w2, (callFunc f args).run P w2 = .ok (.enter f args) w2) (K : Kd) (hb : K.bx = false)
    (hc : ∀ b fp w, w0.Since w0.heap.size w → w0.heap.size ≤ w.heap.size → (∀ i ∈ o.looksAt ops, R w0.heap.size A i b fp w) → Calls P f (xs.map b.eval).toArray w fun e2 w2 => ∃ u S, e2 = .returned u ∧ nb u ∧ K.p u S w2 ∧ w.Since w.heap.size w2 ∧ ∀ g, S g → w.heap.size ≤ g ∧ g < w2.heap.size)
    (hK : wpK P ops w0 Q rest (A.put o.dst ⟨.k K, none⟩)) : wpK P ops w0 Q (o :: rest) A := by
  refine wpK_of_loose (e := ⟨.k K, none⟩) hg ⟨fun q hq => (by cases hq), fun b fp w hw hN _ hR => ?_⟩ hK
  rw [run_enter (P := P) hop rfl henter w]
  exact (hc b fp w hw hN hR).mono fun e2 w2 ⟨u, S, he, h1, h2, h3, h4⟩ => ⟨u, he, ⟨h1, S, h2, (fun h => by rw [hb] at h; cases h), fun g hg => ⟨(h4 g hg).2, .inl (h4 g hg).1⟩⟩, h3⟩
/-- a call with one known result -/
theorem wpK_callV (hg : o.guard = none) (f : FuncId) (xs : List Operand) (tys : Array TypeId) (hop : o.op = Op.call ⟨.value (.func f), xs.toArray, tys⟩) (henter : ∀ args w2, (callFunc f args).run P w2 = .ok (.enter f args) w2) (z : Value)
    (hc : ∀ b fp w, w0.Since w0.heap.size w → w0.heap.size ≤ w.heap.size → (∀ i ∈ o.looksAt ops, R w0.heap.size A i b fp w) → Calls P f (xs.map b.eval).toArray w fun e2 w2 => e2 = .returned z ∧ w.Since w.heap.size w2)
    (hK : wpK P ops w0 Q rest (A.put o.dst (ev z))) : wpK P ops w0 Q (o :: rest) A := by
  refine wpK_of_loose (e := ev z) hg ⟨fun q hq => (by cases hq), fun b fp w hw hN _ hR => ?_⟩ hK
  rw [run_enter (P := P) hop rfl henter w]
  exact (hc b fp w hw hN hR).mono fun e2 w2 ⟨he, h3⟩ => ⟨z, he, rfl, h3⟩
/-- a box of the statement's own -/
def bxP (T : TypeId) (Pc : List Value → Prop) (u : Value) (S : Fp) (w : World) : Prop := ∃ (g : Nat) (cs : List Value), u = .pointer (some ⟨g, 0, none⟩) ∧ (∀ k, S k ↔ k = g) ∧ w.heap[g]? = some (.cells cs.toArray T (0, 0)) ∧ Pc cs
def bxK (T : TypeId) (Pc : List Value → Prop) : Kd where
  p := bxP T Pc
  stable := fun u S w w' h hp => by
    obtain ⟨g, cs, e, hS, hb, hc⟩ := hp
    exact ⟨g, cs, e, hS, (h g ((hS g).2 rfl)).trans hb, hc⟩
  bx := true
theorem wpK_alloc (hg : o.guard = none) (elem : TypeId) (hop : o.op = .alloc elem) (T : TypeId) (cs : List Value) (hrun : ∀ w : World, (Instr.alloc elem true (.tuple #[])).run P w = .ok (.pointer (some ⟨w.heap.size, 0, none⟩)) (w.alloc (.cells cs.toArray T)))
    (hK : wpK P ops w0 Q rest (A.put o.dst ⟨.k (bxK T (· = cs)), none⟩)) : wpK P ops w0 Q (o :: rest) A := by
  refine wpK_of_loose (e := ⟨.k (bxK T (· = cs)), none⟩) hg ⟨fun q hq => (by cases hq), fun b fp w hw hN _ hR => ?_⟩ hK
  have e : (execOp b.eval o).run P w = .ok (.value (.pointer (some ⟨w.heap.size, 0, none⟩))) (w.alloc (.cells cs.toArray T)) := by
    simp [execOp, hop, hrun, Result.andThen]
  rw [e]
  refine ⟨⟨trivial, fun k => k = w.heap.size, ⟨_, cs, rfl, fun k => Iff.rfl, Go.Deep.blk_alloc_new _ _, rfl⟩, fun _ g hg => by rw [hg]; exact Nat.le_refl _, fun g hg => ?_⟩, (World.Since.refl _ _).alloc (Nat.le_refl _) _⟩
  have hg' : g = w.heap.size := hg
  subst hg'
  exact ⟨by simp, .inl (Nat.le_refl _)⟩
theorem setCells_size (g : Nat) : ∀ (vs : List Value) (o : Nat) (w : World), (w.setCells g o vs).heap.size = w.heap.size
  | [], _, _ => rfl
  | v :: r, o, w => by rw [World.setCells, setCells_size g r]; exact Go.Deep.nblk_setCell _ _ _
theorem setCells_other (g : Nat) : ∀ (vs : List Value) (o : Nat) (w : World) (k : Nat), k ≠ g → (w.setCells g o vs).heap[k]? = w.heap[k]?
  | [], _, _, _, _ => rfl
  | v :: r, o, w, k, hk => by rw [World.setCells, setCells_other g r _ _ k hk]; exact Go.Deep.blk_setCell_other _ _ _ _ hk
theorem setCells_since {N g : Nat} (hg : N ≤ g) : ∀ (vs : List Value) (o : Nat) (w : World), w.Since N (w.setCells g o vs)
  | [], _, _ => World.Since.refl _ _
  | v :: r, o, w => ((World.Since.refl _ _).setCell hg _).trans (setCells_since hg r _ _)
theorem setCells_blk {T : TypeId} {g : Nat} : ∀ (vs : List Value) (o : Nat) (w : World) (cs : Array Value), w.heap[g]? = some (.cells cs T (0, 0)) → o + vs.length ≤ cs.size →
    ∃ cs', (w.setCells g o vs).heap[g]? = some (.cells cs' T (0, 0)) ∧ cs'.size = cs.size ∧ (∀ j, j < o → cs'[j]? = cs[j]?) ∧ ∀ j, j < vs.length → cs'[o + j]? = vs[j]?
  | [], _, _, cs, h, _ => ⟨cs, h, rfl, fun _ _ => rfl, fun j hj => by simp at hj⟩
  | v :: r, o, w, cs, h, hl => by
    have h1 : (w.setCell ⟨g, o, none⟩ v).heap[g]? = some (.cells (cs.setIfInBounds o v) T (0, 0)) := by simp [World.setCell, Array.getElem?_modify, h]
    obtain ⟨cs', e1, e2, e3, e4⟩ := setCells_blk r (o + 1) _ _ h1 (by simp only [List.length_cons] at hl; simp; omega)
    refine ⟨cs', e1, by rw [e2]; simp, fun j hj => ?_, fun j hj => ?_⟩
    · rw [e3 j (by omega), Array.getElem?_setIfInBounds_ne (by omega)]
    · cases j with
      | zero =>
        rw [Nat.add_zero, e3 o (by omega)]
        simp only [List.length_cons] at hl
        rw [Array.getElem?_setIfInBounds_self_of_lt (by omega)]
        rfl
      | succ j =>
        have := e4 j (by simp only [List.length_cons] at hj; omega)
        rw [show o + (j + 1) = o + 1 + j by omega, this]
        rfl
theorem setCells_whole {T : TypeId} {g : Nat} {vs cs : List Value} {w : World} (h : w.heap[g]? = some (.cells cs.toArray T (0, 0))) (hl : vs.length = cs.length) : (w.setCells g 0 vs).heap[g]? = some (.cells vs.toArray T (0, 0)) := by
  obtain ⟨cs', e1, e2, e3, e4⟩ := setCells_blk vs 0 w cs.toArray h (by simp; omega)
  rw [e1]
  congr 2
  apply Array.ext_getElem?
  intro i
  by_cases hi : i < vs.length
  · have := e4 i hi
    rw [Nat.zero_add] at this
    rw [this]; simp
  · rw [Array.getElem?_eq_none (by rw [e2]; simp; omega), Array.getElem?_eq_none (by simp; omega)]
theorem wpK_store (hg : o.guard = none) (ty : TypeId) (p : Nat) (y : Operand) (hop : o.op = .store ty (.tmp p) y) (hd : o.dst = none) (T : TypeId) (Pc Pc' : List Value → Prop) (hk : A.κ p = some (bxK T Pc)) (n : Nat) (hn : ∀ cs, Pc cs → cs.length = n) (hi : (P.info? ty).map (·.size) = some n)
    (hy : ∀ b fp w, w0.Since w0.heap.size w → w0.heap.size ≤ w.heap.size → (∀ i ∈ o.looksAt ops, R w0.heap.size A i b fp w) → ∃ cs : List Value, b.eval y = .agg cs.toArray ∧ cs.length = n ∧ Pc' cs ∧ cs.toArray.all (·.oneCell') = true)
    (hK : wpK P ops w0 Q rest (A.put o.dst ⟨.v undef, some (p, bxK T Pc')⟩)) : wpK P ops w0 Q (o :: rest) A := by
  refine wpK_of_loose (e := ⟨.v undef, some (p, bxK T Pc')⟩) hg ⟨fun q hq => ?_, fun b fp w hw hN _ hR => ?_⟩ hK
  · injection hq with hq
    subst hq
    exact ⟨hd, by unfold stOf; rw [hop]⟩
  · have hm : p ∈ o.looksAt ops := looks_op (by rw [hop]; simp [Op.operands])
    have h := (hR p hm).some_ hk
    obtain ⟨g, cs, e1, hS, hb, hc⟩ := h.2.2.1
    obtain ⟨cs', e2, hl, hc', h1⟩ := hy b fp w hw hN hR
    have hl2 : cs'.length = cs.length := by rw [hl, hn cs hc]
    have ht : w.there g 0 cs'.toArray.size := fun j hj => by
      have hj2 : j < cs.length := by rw [← hl2]; simpa using hj
      rw [Nat.zero_add]
      exact ⟨by simp [World.cell?, hb, hj2], by simp [World.frozen?, hb]⟩
    have er := run_storeAt_mid (P := P) w g 0 ty cs'.toArray ht (by rw [hi]; simp [hl]) h1
    have ex : (execOp b.eval o).run P w = .ok .skip (w.setCells g 0 cs') := by
      have e1' : b.eval (.tmp p) = .pointer (some ⟨g, 0, none⟩) := e1
      simp [execOp, hop, e1', e2, er, Result.andThen]
    have hNg := h.2.2.2.2 rfl g ((hS g).2 rfl)
    rw [ex]
    refine ⟨rfl, setCells_since hNg _ _ _, setCells_size _ _ _ _, ⟨_, hk, rfl⟩, rfl, ⟨g, cs', e1, hS, setCells_whole hb hl2, hc'⟩, fun k hk => setCells_other g _ _ _ k fun e => hk ((hS k).2 e)⟩
end
/-! ### the steps, the frame and what is known apart -/
section
variable {P : Program} {ops : Array Oper} {w0 : World} {Q : Fa → Prop} {a : Act} {κ : Nat → Option Kd} {o : Oper} {rest : List Oper} {d : Nat}
theorem put_some {x : Va} (hs : d < a.tmps.size) : (Fa.mk a κ).put (some d) ⟨x, none⟩ = ⟨a.put (some d) x.val, upd κ d x.kd⟩ := by
  simp [Fa.put, k2, k1, hs]
theorem upd_none (hk : κ d = none) : upd κ d none = κ := by
  funext i
  unfold upd
  by_cases e : i = d
  · subst e; rw [if_pos rfl, hk]
  · rw [if_neg e]
theorem k1_known (hk : κ d = none) (x : Value) : k1 ⟨a, κ⟩ (some d) (.v x) = κ := by
  simp only [k1, Va.kd]
  split
  · exact upd_none hk
  · rfl
theorem put_known {u : Value} (hk : κ d = none) : (Fa.mk a κ).put (some d) (ev u) = ⟨a.put (some d) u, κ⟩ := by
  simp [Fa.put, k2, k1_known hk, ev, Va.val]
theorem sQuiet (hg : o.guard = none) (hd : o.dst = some d) (hk : κ d = none) (ho : avoidK ⟨a, κ⟩ o = true) (hp : pureOp o = true) (h : ∀ K : Act → Prop, (∀ a, wpK P ops w0 Q rest ⟨a, κ⟩ → K a) → o.quiet P a (fun v => w0.Since w0.heap.size v) K) : wpK P ops w0 Q (o :: rest) ⟨a, κ⟩ :=
  wpK_quiet hg ho hp fun K hK => h K fun a' ha => hK a' (by rw [hd, k1_known hk]; exact ha)
theorem sMove (hg : o.guard = none) (hd : o.dst = some d) (hk : κ d = none) (ho : avoidK ⟨a, κ⟩ o = true) (x : Operand) (hop : o.op = .move x ∨ o.op = .assign x) (hK : wpK P ops w0 Q rest ⟨a.put (some d) (a.eval x), κ⟩) : wpK P ops w0 Q (o :: rest) ⟨a, κ⟩ :=
  wpK_told hg ho (a.eval x) (fun w _ _ => ⟨w, by
    rcases hop with h | h
    · exact BigFrame.run_move x h w
    · exact BigFrame.run_assign x h w, World.Since.refl _ _⟩) (by rw [hd, put_known hk]; exact hK)
theorem sTold (hg : o.guard = none) (hd : o.dst = some d) (hk : κ d = none) (ho : avoidK ⟨a, κ⟩ o = true) (v : Value) (hrun : ∀ w, w0.Since w0.heap.size w → w0.heap.size ≤ w.heap.size → ∃ w', (execOp a.eval o).run P w = .ok (.value v) w' ∧ w.Since w.heap.size w') (hK : wpK P ops w0 Q rest ⟨a.put (some d) v, κ⟩) : wpK P ops w0 Q (o :: rest) ⟨a, κ⟩ :=
  wpK_told hg ho v hrun (by rw [hd, put_known hk]; exact hK)
/-- a struct is loaded from the law's box -/
theorem sRow (hg : o.guard = none) (hd : o.dst = some d) (hk : κ d = none) (ho : avoidK ⟨a, κ⟩ o = true) (ty : TypeId) (x : Operand) (hop : o.op = .load ty x) (b off : Nat) (hx : a.eval x = .pointer (some ⟨b, off, none⟩)) (cs : List Value) (ds : TypeDesc)
    (hu : P.underlying ty = some ds) (hr : ds.isRow = true) (hi : (P.info? ty).map (·.size) = some cs.length) (hS : ∀ v, w0.Since w0.heap.size v → v.rangeAt b off cs)
    (hK : wpK P ops w0 Q rest ⟨a.put (some d) (.agg cs.toArray), κ⟩) : wpK P ops w0 Q (o :: rest) ⟨a, κ⟩ :=
  sTold hg hd hk ho _ (fun w hw _ => ⟨w, by
    unfold execOp
    simp only [hop, hx, Instr.loadAt, Instr.sureAddr, Sem.run_bind, Sem.run_pure, Result.andThen_ok, Go.run_loadVar_mid w b off ty cs ds (hS w hw) hu hr hi], World.Since.refl _ _⟩) hK
theorem sCopy (hg : o.guard = none) (hd : o.dst = some d) (hs : d < a.tmps.size) (s : Nat) (hop : o.op = .move (.tmp s) ∨ o.op = .assign (.tmp s)) (K : Kd) (hk : κ s = some K) (hb : K.bx = false) (hK : wpK P ops w0 Q rest ⟨a.put (some d) undef, upd κ d (some K)⟩) : wpK P ops w0 Q (o :: rest) ⟨a, κ⟩ :=
  wpK_copy hg s hop K hk hb (by rw [hd, put_some hs]; exact hK)
theorem sExtract (hg : o.guard = none) (hd : o.dst = some d) (hs : d < a.tmps.size) (s ix : Nat) (hop : o.op = .extract (.tmp s) ix) (K K2 : Kd) (hk : κ s = some K) (hb : K.bx = false) (hb2 : K2.bx = false) (hex : ∀ u S w, K.p u S w → ∃ vs z, u = .tuple vs ∧ vs[ix]? = some z ∧ nb z ∧ K2.p z S w)
    (hK : wpK P ops w0 Q rest ⟨a.put (some d) undef, upd κ d (some K2)⟩) : wpK P ops w0 Q (o :: rest) ⟨a, κ⟩ :=
  wpK_extract hg s ix hop K K2 hk hb hb2 hex (by rw [hd, put_some hs]; exact hK)
theorem sExtractV (hg : o.guard = none) (hd : o.dst = some d) (hkd : κ d = none) (s ix : Nat) (hop : o.op = .extract (.tmp s) ix) (K : Kd) (hk : κ s = some K) (z : Value) (hex : ∀ u S w, K.p u S w → ∃ vs, u = .tuple vs ∧ vs[ix]? = some z)
    (hK : wpK P ops w0 Q rest ⟨a.put (some d) z, κ⟩) : wpK P ops w0 Q (o :: rest) ⟨a, κ⟩ :=
  wpK_extractV hg s ix hop K hk z hex (by rw [hd, put_known hkd]; exact hK)
theorem sCall (hg : o.guard = none) (hd : o.dst = some d) (hs : d < a.tmps.size) (f : FuncId) (xs : List Operand) (tys : Array TypeId) (hop : o.op = Op.call ⟨.value (.func f), xs.toArray, tys⟩) (henter : ∀ args w2, (callFunc f args).run P w2 = .ok (.enter f args) w2) (K : Kd) (hb : K.bx = false)
    (hc : ∀ b fp w, w0.Since w0.heap.size w → w0.heap.size ≤ w.heap.size → (∀ i ∈ o.looksAt ops, R w0.heap.size ⟨a, κ⟩ i b fp w) → Calls P f (xs.map b.eval).toArray w fun e2 w2 => ∃ u S, e2 = .returned u ∧ nb u ∧ K.p u S w2 ∧ w.Since w.heap.size w2 ∧ ∀ g, S g → w.heap.size ≤ g ∧ g < w2.heap.size)
    (hK : wpK P ops w0 Q rest ⟨a.put (some d) undef, upd κ d (some K)⟩) : wpK P ops w0 Q (o :: rest) ⟨a, κ⟩ :=
  wpK_call hg f xs tys hop henter K hb hc (by rw [hd, put_some hs]; exact hK)
theorem mem_call {f : Operand} {xs : List Operand} {tys : Array TypeId} (hop : o.op = Op.call ⟨.value f, xs.toArray, tys⟩) : ∀ x ∈ xs, x ∈ o.op.operands := fun x hx => by
  rw [hop]
  simp [Op.operands, Call.operands, hx]
/-- a call of known arguments -/
theorem sCallK (hg : o.guard = none) (hd : o.dst = some d) (hs : d < a.tmps.size) (f : FuncId) (xs : List Operand) (tys : Array TypeId) (hop : o.op = Op.call ⟨.value (.func f), xs.toArray, tys⟩) (henter : ∀ args w2, (callFunc f args).run P w2 = .ok (.enter f args) w2) (ho : avoidK ⟨a, κ⟩ o = true) (vs : List Value) (hvs : xs.map a.eval = vs) (K : Kd) (hb : K.bx = false)
    (hc : ∀ w, w0.Since w0.heap.size w → w0.heap.size ≤ w.heap.size → Calls P f vs.toArray w fun e2 w2 => ∃ u S, e2 = .returned u ∧ nb u ∧ K.p u S w2 ∧ w.Since w.heap.size w2 ∧ ∀ g, S g → w.heap.size ≤ g ∧ g < w2.heap.size)
    (hK : wpK P ops w0 Q rest ⟨a.put (some d) undef, upd κ d (some K)⟩) : wpK P ops w0 Q (o :: rest) ⟨a, κ⟩ :=
  sCall hg hd hs f xs tys hop henter K hb (fun b fp w hw hN hR => by
    have e : xs.map b.eval = vs := by
      rw [← hvs]
      refine List.map_congr_left fun x hx => ?_
      unfold avoidK at ho
      rw [Bool.and_eq_true] at ho
      have h1 := List.all_eq_true.1 ho.1 x (by simpa using mem_call hop x hx)
      cases x with
      | tmp t =>
        simp only at h1
        exact (hR t (looks_op (mem_call hop _ hx))).none_ (by simpa using h1)
      | const v => rfl
      | global g => rfl
      | func f => rfl
    rw [e]
    exact hc w hw hN) hK
/-- a call of known arguments with one known value -/
theorem sCallV (hg : o.guard = none) (hd : o.dst = some d) (hk : κ d = none) (f : FuncId) (xs : List Operand) (tys : Array TypeId) (hop : o.op = Op.call ⟨.value (.func f), xs.toArray, tys⟩) (henter : ∀ args w2, (callFunc f args).run P w2 = .ok (.enter f args) w2) (ho : avoidK ⟨a, κ⟩ o = true) (vs : List Value) (hvs : xs.map a.eval = vs) (z : Value)
    (hc : ∀ w, w0.Since w0.heap.size w → w0.heap.size ≤ w.heap.size → Calls P f vs.toArray w fun e2 w2 => e2 = .returned z ∧ w.Since w.heap.size w2)
    (hK : wpK P ops w0 Q rest ⟨a.put (some d) z, κ⟩) : wpK P ops w0 Q (o :: rest) ⟨a, κ⟩ :=
  wpK_callV hg f xs tys hop henter z (fun b fp w hw hN hR => by
    have e : xs.map b.eval = vs := by
      rw [← hvs]
      refine List.map_congr_left fun x hx => ?_
      unfold avoidK at ho
      rw [Bool.and_eq_true] at ho
      have h1 := List.all_eq_true.1 ho.1 x (by simpa using mem_call hop x hx)
      cases x with
      | tmp t =>
        simp only at h1
        exact (hR t (looks_op (mem_call hop _ hx))).none_ (by simpa using h1)
      | const v => rfl
      | global g => rfl
      | func f => rfl
    rw [e]
    exact hc w hw hN) (by rw [hd, put_known hk]; exact hK)
/-- a call, one of whose arguments is known by its properties -/
theorem sCall1 (hg : o.guard = none) (hd : o.dst = some d) (hs : d < a.tmps.size) (f : FuncId) (xs : List Operand) (tys : Array TypeId) (hop : o.op = Op.call ⟨.value (.func f), xs.toArray, tys⟩) (henter : ∀ args w2, (callFunc f args).run P w2 = .ok (.enter f args) w2) (s : Nat) (hin : (.tmp s : Operand) ∈ xs) (K0 : Kd) (hks : κ s = some K0) (V : Value → List Value)
    (hV : ∀ b : Act, (xs.map fun x => match x with | .tmp t => (match κ t with | some _ => b.tmps.getD t undef | none => a.tmps.getD t undef) | y => a.eval y) = V (b.tmps.getD s undef)) (K : Kd) (hb : K.bx = false)
    (hc : ∀ u S w, w0.Since w0.heap.size w → w0.heap.size ≤ w.heap.size → K0.p u S w → Calls P f (V u).toArray w fun e2 w2 => ∃ u S, e2 = .returned u ∧ nb u ∧ K.p u S w2 ∧ w.Since w.heap.size w2 ∧ ∀ g, S g → w.heap.size ≤ g ∧ g < w2.heap.size)
    (hK : wpK P ops w0 Q rest ⟨a.put (some d) undef, upd κ d (some K)⟩) : wpK P ops w0 Q (o :: rest) ⟨a, κ⟩ :=
  sCall hg hd hs f xs tys hop henter K hb (fun b fp w hw hN hR => by
    have e := args_eq hR (mem_call hop)
    rw [e]
    have h := (hR s (looks_op (mem_call hop _ hin))).some_ hks
    have := hc _ _ w hw hN h.2.2.1
    rw [← hV b] at this
    exact this) hK
theorem sAlloc (hg : o.guard = none) (hd : o.dst = some d) (hs : d < a.tmps.size) (elem : TypeId) (hop : o.op = .alloc elem) (T : TypeId) (cs : List Value) (hrun : ∀ w : World, (Instr.alloc elem true (.tuple #[])).run P w = .ok (.pointer (some ⟨w.heap.size, 0, none⟩)) (w.alloc (.cells cs.toArray T)))
    (hK : wpK P ops w0 Q rest ⟨a.put (some d) undef, upd κ d (some (bxK T (· = cs)))⟩) : wpK P ops w0 Q (o :: rest) ⟨a, κ⟩ :=
  wpK_alloc hg elem hop T cs hrun (by rw [hd, put_some hs]; exact hK)
/-- a known struct is stored into a box of the statement's own -/
theorem sStore (hg : o.guard = none) (ty : TypeId) (p : Nat) (y : Operand) (hop : o.op = .store ty (.tmp p) y) (hd : o.dst = none) (T : TypeId) (Pc : List Value → Prop) (hk : κ p = some (bxK T Pc)) (n : Nat) (hn : ∀ cs, Pc cs → cs.length = n) (hi : (P.info? ty).map (·.size) = some n)
    (ho : avoidK ⟨a, fun i => if i = p then none else κ i⟩ o = true) (cs : List Value) (hy : a.eval y = .agg cs.toArray) (hyp : y ≠ .tmp p) (hl : cs.length = n) (h1 : cs.toArray.all (·.oneCell') = true)
    (hK : wpK P ops w0 Q rest ⟨a, upd κ p (some (bxK T (· = cs)))⟩) : wpK P ops w0 Q (o :: rest) ⟨a, κ⟩ :=
  wpK_store hg ty p y hop hd T Pc (· = cs) hk n hn hi (fun b fp w hw hN hR => ⟨cs, by
    rw [← hy]
    unfold avoidK at ho
    rw [Bool.and_eq_true] at ho
    cases y with
    | tmp t =>
      have h1 := List.all_eq_true.1 ho.1 (.tmp t) (by rw [hop]; simp [Op.operands])
      have hne : t ≠ p := fun e => hyp (by rw [e])
      simp only [if_neg hne] at h1
      exact (hR t (looks_op (by rw [hop]; simp [Op.operands]))).none_ (by simpa using h1)
    | const v => rfl
    | global g => rfl
    | func f => rfl, hl, rfl, h1⟩) (by rw [hd]; simpa [Fa.put, Act.put, k2, k1] using hK)
/-- a struct known by its properties is stored into a box of the statement's own -/
theorem sStoreK (hg : o.guard = none) (ty : TypeId) (p s : Nat) (hop : o.op = .store ty (.tmp p) (.tmp s)) (hd : o.dst = none) (T : TypeId) (Pc Pc' : List Value → Prop) (hk : κ p = some (bxK T Pc)) (K : Kd) (hks : κ s = some K) (n : Nat) (hn : ∀ cs, Pc cs → cs.length = n) (hi : (P.info? ty).map (·.size) = some n)
    (hy : ∀ u S w, K.p u S w → ∃ cs : List Value, u = .agg cs.toArray ∧ cs.length = n ∧ Pc' cs ∧ cs.toArray.all (·.oneCell') = true)
    (hK : wpK P ops w0 Q rest ⟨a, upd κ p (some (bxK T Pc'))⟩) : wpK P ops w0 Q (o :: rest) ⟨a, κ⟩ :=
  wpK_store hg ty p (.tmp s) hop hd T Pc Pc' hk n hn hi (fun b fp w hw hN hR => hy _ _ _ ((hR s (looks_op (by rw [hop]; simp [Op.operands]))).some_ hks).2.2.1) (by rw [hd]; simpa [Fa.put, Act.put, k2, k1] using hK)
end
/-! ### the end -/
theorem After.slot {w0 : World} {A : Fa} {Rr : Act → (Nat → Fp) → World → Prop} (d : Nat) (K : Kd) (hk : A.κ d = some K)
    (h : ∀ u, nb u → After w0 ⟨A.a.put (some d) u, upd A.κ d none⟩ fun b fp w => K.p u (fp d) w → (∀ g, fp d g → g < w.heap.size) → (K.bx = true → ∀ g, fp d g → w0.heap.size ≤ g) → Rr b fp w) : After w0 A Rr := by
  intro b fp w hw hN hab
  have hd := (hab.2.2.1 d).some_ hk
  refine h (b.tmps.getD d undef) hd.2.1 b fp w hw hN ⟨hab.1, by rw [put_size]; exact hab.2.1, fun i => ?_, fun i j K1 K2 hij hi hj hb => ?_⟩ hd.2.2.1 hd.2.2.2.1 hd.2.2.2.2
  · by_cases e : i = d
    · subst e
      refine R_of_none (by simp [upd]) ?_
      show _ = (A.a.tmps.setIfInBounds i (b.tmps.getD i undef)).getD i undef
      rw [Lo.getD_put]
      by_cases hs : i < A.a.tmps.size
      · rw [if_pos ⟨rfl, hs⟩]
      · rw [if_neg (fun h => hs h.2)]
        have e1 : A.a.tmps.getD i undef = undef := by simp [Array.getD_eq_getD_getElem?, Array.getElem?_eq_none (Nat.le_of_not_lt hs)]
        have e2 : b.tmps.getD i undef = undef := by
          have h2 := hab.2.1
          simp [Array.getD_eq_getD_getElem?, Array.getElem?_eq_none (show b.tmps.size ≤ i by rw [h2]; exact Nat.le_of_not_lt hs)]
        rw [e1, e2]
    · have hki : (Fa.mk (A.a.put (some d) (b.tmps.getD d undef)) (upd A.κ d none)).κ i = A.κ i := by simp [upd, e]
      have hv : (A.a.put (some d) (b.tmps.getD d undef)).tmps.getD i undef = A.a.tmps.getD i undef := by
        show (A.a.tmps.setIfInBounds d (b.tmps.getD d undef)).getD i undef = _
        rw [Lo.getD_put, if_neg (fun h => e h.1.symm)]
      have h3 := hab.2.2.1 i
      unfold R at h3 ⊢
      rw [hki]
      simp only [hv]
      exact h3
  · have hi' : i ≠ d ∧ A.κ i = some K1 := by
      by_cases e : i = d
      · subst e; simp [upd] at hi
      · exact ⟨e, by simpa [upd, e] using hi⟩
    have hj' : j ≠ d ∧ A.κ j = some K2 := by
      by_cases e : j = d
      · subst e; simp [upd] at hj
      · exact ⟨e, by simpa [upd, e] using hj⟩
    exact hab.2.2.2 i j K1 K2 hij hi'.2 hj'.2 hb
theorem After.apart {w0 : World} {A : Fa} {Rr : Act → (Nat → Fp) → World → Prop} (i j : Nat) (K K' : Kd) (hi : A.κ i = some K) (hj : A.κ j = some K') (hb : K.bx = true) (hne : i ≠ j)
    (h : After w0 A fun b fp w => (∀ g, fp i g → ¬ fp j g) → Rr b fp w) : After w0 A Rr := fun b fp w hw hN hab => h b fp w hw hN hab (hab.2.2.2 i j K K' hne hi hj hb)
def nbut (ds : List Nat) (κ : Nat → Option Kd) : Prop := ∀ i, i ∉ ds → κ i = none
theorem nbut.start {ds : List Nat} : nbut ds (fun _ => none) := fun _ _ => rfl
theorem nbut.upd {ds : List Nat} {κ : Nat → Option Kd} {d : Nat} {k : Option Kd} (hd : d ∈ ds) (h : nbut ds κ) : nbut ds (Lk.upd κ d k) := fun i hi => by
  have : i ≠ d := fun e => hi (e ▸ hd)
  simp only [Lk.upd, if_neg this]
  exact h i hi
theorem After.end_ {w0 : World} {a : Act} {κ : Nat → Option Kd} {Rr : Act → (Nat → Fp) → World → Prop} (ds : List Nat) (hn : nbut ds κ) (hk : (ds.all fun d => (κ d).isNone) = true) (h : ∀ fp w, w0.Since w0.heap.size w → Rr a fp w) : After w0 ⟨a, κ⟩ Rr := by
  intro b fp w hw hN hab
  obtain ⟨h1, h2, h3, _⟩ := hab
  have hall : ∀ i, κ i = none := fun i => by
    by_cases hi : i ∈ ds
    · have := List.all_eq_true.1 hk i hi
      simpa using this
    · exact hn i hi
  have e : b = a := by
    obtain ⟨bt, bd⟩ := b
    obtain ⟨at_, ad⟩ := a
    simp only at h1 h2 h3
    subst h1
    congr 1
    apply Array.ext h2
    intro i hi1 hi2
    have := (h3 i).none_ (hall i)
    simpa [Array.getD_eq_getD_getElem?, hi1, hi2] using this
  subst e
  exact h fp w hw
end Lk
end Go.Proofs.Ytagcepankiinpaa

/- What is known of a slot: lists of numbers, boxes. -/
set_option linter.unusedVariables false
set_option linter.unusedSimpArgs false
namespace Go.Proofs.Ytagcepankiinpaa
open Fl Go.RowKit
namespace Lk
/-- an entry among these blocks, behind lo -/
def EnK (lo : Nat) (e : En) (S : Fp) (w : World) : Prop := e.P w ∧ (∀ w w' : World, (∀ g, e.S g → w'.heap[g]? = w.heap[g]?) → e.P w → e.P w') ∧ (∀ k, e.S k → S k) ∧ ∀ k, e.S k → lo ≤ k
theorem EnK.keep {lo : Nat} {e : En} {S : Fp} {w w' : World} (h : EnK lo e S w) (hs : ∀ g, S g → w'.heap[g]? = w.heap[g]?) : EnK lo e S w' := ⟨h.2.1 w w' (fun g hg => hs g (h.2.2.1 g hg)) h.1, h.2⟩
theorem EnK.of {lo B : Nat} {e : En} {w : World} (h : Ge B w e) (hl : lo ≤ B) : EnK lo e e.S w := ⟨h.1, h.2.1, fun _ h => h, fun k hk => Nat.le_trans hl (h.2.2 k hk).1⟩
theorem EnK.ge {lo : Nat} {e : En} {S : Fp} {w : World} (h : EnK lo e S w) (hb : ∀ g, S g → g < w.heap.size) : Ge lo w e := ⟨h.1, h.2.1, fun g hg => ⟨h.2.2.2 g hg, hb g (h.2.2.1 g hg)⟩⟩
theorem EnK.readF {lo n : Nat} {A : Option Addr} {xs : List Nat} {S : Fp} {w : World} (h : EnK lo (fe A n xs) S w) : Fs w w.heap.size A n xs :=
  ⟨h.1.1.1, h.1.1.2, fun hn => by
    obtain ⟨g, off, cs, e, hb, hc⟩ := h.1.2 hn
    refine ⟨g, off, e, (Array.getElem?_eq_some_iff.1 hb).1, fun k hk => ?_⟩
    simp only [World.cell?, hb]
    simpa using hc k hk⟩
/-- a copy of numbers -/
def xK (lo n : Nat) (xs : List Nat) : Kd where
  p := fun u S w => ∃ B : Nat, u = .slice (some ⟨B, 0, none⟩) n n ∧ EnK lo (fe (some ⟨B, 0, none⟩) n xs) S w
  stable := fun u S w w' h hp => by
    obtain ⟨B, e, hb⟩ := hp
    exact ⟨B, e, hb.keep h⟩
  bx := false
/-- a list of numbers -/
def feK (lo n0 : Nat) (f0 : Nat → O) : Kd where
  p := fun u S w => ∃ (p : Ls) (c : Nat), u = .slice p.A p.n c ∧ p.n = n0 ∧ Are p f0 ∧ EnK lo (fe p.A p.n p.xs) S w
  stable := fun u S w w' h hp => by
    obtain ⟨p, c, e, h1, h2, hb⟩ := hp
    exact ⟨p, c, e, h1, h2, hb.keep h⟩
  bx := false
theorem box_ge {T : TypeId} {Pc : List Value → Prop} {u : Value} {S : Fp} {w : World} {lo : Nat} (h : (bxK T Pc).p u S w) (hb : ∀ g, S g → g < w.heap.size) (hl : ∀ g, S g → lo ≤ g) : ∃ g cs, u = .pointer (some ⟨g, 0, none⟩) ∧ Pc cs ∧ (∀ k, S k ↔ k = g) ∧ Ge lo w (bxv T g cs) := by
  obtain ⟨g, cs, e, hS, hh, hc⟩ := h
  exact ⟨g, cs, e, hc, hS, hh, fun w w' h hp => (h g rfl).trans hp, fun k hk => by
    have hk' : k = g := hk
    subst hk'
    exact ⟨hl k ((hS k).2 rfl), hb k ((hS k).2 rfl)⟩⟩
theorem box_de {T : TypeId} {g : Nat} {cs : List Value} {S S' : Fp} {e : En} {lo : Nat} {w : World} (hS : ∀ k, S k ↔ k = g) (hd : ∀ k, S k → ¬ S' k) (h : EnK lo e S' w) : De (bxv T g cs) e := fun k hk he => hd k ((hS k).2 hk) (h.2.2.1 k he)
end Lk
end Go.Proofs.Ytagcepankiinpaa

/- Loose regions with guards. -/
set_option linter.unusedVariables false
set_option linter.unusedSimpArgs false
namespace Go.Proofs.Ytagcepankiinpaa
open Fl Go.RowKit
namespace Lk
section
variable {P : Program} {ops : Array Oper} {w0 : World} {Q : Fa → Prop} {A : Fa} {o : Oper} {rest : List Oper}
/-- an operation without its guard -/
def free (o : Oper) : Oper := { o with guard := none }
theorem looks_free {i : Nat} (h : i ∈ (free o).looksAt ops) : i ∈ o.looksAt ops := by
  unfold Oper.looksAt at h ⊢
  rcases List.mem_append.1 h with h | h
  · exact List.mem_append_left _ h
  · cases h
theorem good_free {N : Nat} {b : Act} {fp : Nat → Fp} {w : World} {e : Ef} {u : Value} {w' : World} (h : good ops N (free o) A b fp w e u w') : good ops N o A b fp w e u w' := by
  obtain ⟨x, st⟩ := e
  unfold good at h ⊢
  refine ⟨?_, h.2⟩
  cases x with
  | v z => exact h.1
  | k K =>
    obtain ⟨h1, S, h2, h3, h4⟩ := h.1
    refine ⟨h1, S, h2, h3, fun g hg => ⟨(h4 g hg).1, ?_⟩⟩
    rcases (h4 g hg).2 with h5 | h5 | ⟨j, K', h6, h7⟩
    · exact .inl h5
    · exact .inr (.inl h5)
    · exact .inr (.inr ⟨j, K', looks_free h6, h7⟩)
theorem upon_mono {G H : Value → World → Prop} (hGH : ∀ u w, G u w → H u w) {r : Result Next} (h : upon P G r) : upon P H r := by
  cases r with
  | ok n w2 =>
    cases n with
    | value u => exact hGH _ _ h
    | skip => exact hGH _ _ h
    | enter f args => exact Calls.mono h fun e w3 ⟨u, he, hu⟩ => ⟨u, he, hGH _ _ hu⟩
    | _ => exact h
  | halt x w2 => exact h
/-- an operation whose guard says yes -/
theorem wpK_yes {q : Nat × Bool} (hg : o.guard = some q) (hw : Region.wanted o (yielded ops A.a.tmps) = true) (h : wpK P ops w0 Q (⟨o.dst, o.op, o.type, o.pos, o.after, none⟩ :: rest) A) : wpK P ops w0 Q (o :: rest) A := by
  have h' : wpK P ops w0 Q (free o :: rest) A := h
  unfold wpK at h' ⊢
  rw [if_pos hw]
  rw [if_pos (Lo.wanted_none rfl _)] at h'
  obtain ⟨e, ⟨h1, h2⟩, hK⟩ := h'
  refine ⟨e, ⟨h1, fun b fp w hw hN hs hR => ?_⟩, hK⟩
  exact upon_mono (fun u w' hg => good_free hg) (h2 b fp w hw hN hs fun i hi => hR i (looks_free hi))
end
section
variable {P : Program} {ops : Array Oper} {w0 : World} {Q : Fa → Prop} {a : Act} {κ : Nat → Option Kd} {o : Oper} {rest : List Oper} {d : Nat}
/-- an operation whose guard says no -/
theorem sSkip {q : Nat × Bool} (hg : o.guard = some q) (hw : Region.wanted o (yielded ops a.tmps) = false) (hd : o.dst = some d) (hk : κ d = none) (hK : wpK P ops w0 Q rest ⟨a.put (some d) undef, κ⟩) : wpK P ops w0 Q (o :: rest) ⟨a, κ⟩ := by
  unfold wpK
  rw [if_neg (by rw [hw]; decide), hd, put_known hk]
  exact hK
theorem sYes {q : Nat × Bool} (hg : o.guard = some q) (hw : Region.wanted o (yielded ops a.tmps) = true) (h : wpK P ops w0 Q (⟨o.dst, o.op, o.type, o.pos, o.after, none⟩ :: rest) ⟨a, κ⟩) : wpK P ops w0 Q (o :: rest) ⟨a, κ⟩ := wpK_yes hg hw h
/-- a float, whatever its bits if it is none -/
def yF (Y : O) : Kd where
  p := fun u S w => ∃ q : Nat, u = .float .f32 q ∧ Hid (Fv .f32 q Y)
  stable := fun u S w w' h hp => hp
  bx := false
/-- an operation on floats, whose result may be none -/
theorem sFop (hg : o.guard = none) (hd : o.dst = some d) (hs : d < a.tmps.size) (ho : avoidK ⟨a, κ⟩ o = true) (op : BinOp) (t t2 : TypeId) (x y : Operand) (hop : o.op = Op.binOp op t x y t2) (hf : isF op = true) (p q : Nat) (X Y : O)
    (hx : a.eval x = .float .f32 p) (hy : a.eval y = .float .f32 q) (hX : Hid (Fv .f32 p X)) (hY : Hid (Fv .f32 q Y)) (hK : wpK P ops w0 Q rest ⟨a.put (some d) undef, upd κ d (some (yF (opO op .f32 X Y)))⟩) : wpK P ops w0 Q (o :: rest) ⟨a, κ⟩ := by
  refine wpK_of_loose (e := ⟨.k (yF (opO op .f32 X Y)), none⟩) hg ⟨fun q hq => (by cases hq), fun b fp w hw hN _ hR => ?_⟩ (by rw [hd, put_some hs]; exact hK)
  rw [eval_avoidK hR ho]
  have e : (execOp a.eval o).run P w = .ok (.value (.float .f32 (ov op .f32 p q w))) (w.drewN (on op .f32 p q)) := by
    have he : eqGuard op t x y (.float .f32 p) (.float .f32 q) = pure () := by
      unfold eqGuard
      cases op <;> simp only [isF] at hf <;> first | (cases hf; done) | rfl
    unfold execOp
    simp only [hop, hx, hy, he, Sem.run_bind, run_fopE hf, Result.andThen_ok, Sem.run_pure]
  rw [e]
  refine ⟨⟨trivial, fun _ => False, ⟨_, rfl, Lib.hid ?_⟩, (fun h => by cases h), fun g hg => hg.elim⟩, since_drewN (World.Since.refl _ _) _⟩
  have := ov_fv hf .f32 p q w
  rw [hX.out.2, hY.out.2] at this
  exact this
/-- a call with one argument known by its properties, and one known value -/
theorem sCall1V (hg : o.guard = none) (hd : o.dst = some d) (hkd : κ d = none) (f : FuncId) (xs : List Operand) (tys : Array TypeId) (hop : o.op = Op.call ⟨.value (.func f), xs.toArray, tys⟩) (henter : ∀ args w2, (callFunc f args).run P w2 = .ok (.enter f args) w2) (s : Nat) (hin : (.tmp s : Operand) ∈ xs) (K0 : Kd) (hks : κ s = some K0) (V : Value → List Value)
    (hV : ∀ b : Act, (xs.map fun x => match x with | .tmp t => (match κ t with | some _ => b.tmps.getD t undef | none => a.tmps.getD t undef) | y => a.eval y) = V (b.tmps.getD s undef)) (z : Value)
    (hc : ∀ u S w, w0.Since w0.heap.size w → w0.heap.size ≤ w.heap.size → K0.p u S w → Calls P f (V u).toArray w fun e2 w2 => e2 = .returned z ∧ w.Since w.heap.size w2)
    (hK : wpK P ops w0 Q rest ⟨a.put (some d) z, κ⟩) : wpK P ops w0 Q (o :: rest) ⟨a, κ⟩ :=
  wpK_callV hg f xs tys hop henter z (fun b fp w hw hN hR => by
    have e := args_eq hR (mem_call hop)
    rw [e]
    have h := (hR s (looks_op (mem_call hop _ hin))).some_ hks
    have := hc _ _ w hw hN h.2.2.1
    rw [← hV b] at this
    exact this) (by rw [hd, put_known hkd]; exact hK)
/-- a cell is loaded that lies before the statement's own memory -/
theorem sLoadF (hg : o.guard = none) (hd : o.dst = some d) (hk : κ d = none) (ho : avoidK ⟨a, κ⟩ o = true) (ty : TypeId) (x : Operand) (hop : o.op = .load ty x) (p : Addr) (hx : a.eval x = .pointer (some p)) (val : Value)
    (hS : ∀ v, w0.Since w0.heap.size v → (loadVar ty p).run P v = .ok val v)
    (hK : wpK P ops w0 Q rest ⟨a.put (some d) val, κ⟩) : wpK P ops w0 Q (o :: rest) ⟨a, κ⟩ :=
  sTold hg hd hk ho _ (fun w hw _ => ⟨w, by
    unfold execOp
    simp only [hop, hx, Instr.loadAt, Instr.sureAddr, Sem.run_bind, Sem.run_pure, Result.andThen_ok, hS w hw], World.Since.refl _ _⟩) hK
end
theorem loadF {w : World} {p : Addr} {x : Nat} (h : w.cell? p = some (.float .f32 x)) : (loadVar 24 p).run Try.prog w = .ok (.float .f32 x) w := by
  simp [loadVar, go_sem, h]
end Lk
end Go.Proofs.Ytagcepankiinpaa

/- The law of squeezed samples. -/
set_option linter.unusedVariables false
set_option linter.unusedSimpArgs false
namespace Go.Proofs.Ytagcepankiinpaa
open Fl Go.RowKit
theorem nn_ord {c d x y : Nat} (hx : Nn c x) (hy : Nn d y) : FloatKind.f32.format.order x y = some (compare (rung .f32 x : Int) (rung .f32 y : Int)) := by
  rw [order_key .f32 (fin_abK hx.fin) (fin_abK hy.fin)]
  unfold key
  rw [hx.sgn, hy.sgn]
  rfl
theorem fs_cell_any {w : World} {B n : Nat} {A : Option Addr} {xs : List Nat} (h : Fs w B A n xs) (hn : 0 < n) : ∃ g o, A = some ⟨g, o, none⟩ ∧ g < B ∧ ∀ k, k < n → w.cell? ⟨g, o + k, none⟩ = some (.float .f32 (wd xs k)) := by
  obtain ⟨g, o, e, hg, hc⟩ := h.2.2 hn
  exact ⟨g, o, e, hg, fun k hk => hc k hk⟩
theorem fs_cell0 {w : World} {B n g k : Nat} {xs : List Nat} (h : Fs w B (some ⟨g, 0, none⟩) n xs) (hk : k < n) : w.cell? ⟨g, k, none⟩ = some (.float .f32 (wd xs k)) ∧ g < B := by
  obtain ⟨g', off, e, hg, hc⟩ := h.2.2 (by omega)
  injection e with e
  injection e with e1 e2 _
  subst e1; subst e2
  have := hc k hk
  rw [Nat.zero_add] at this
  exact ⟨this, hg⟩
theorem same_any (a b : Nat) (X : O) (w : World) (ha : Hid (Fv .f32 a X)) (hb : Hid (Fv .f32 b X)) : Calls Try.prog 12 #[.float .f32 a, .float .f32 b] w fun e w' => e = .returned (.bool true) ∧ w = w' :=
  (implSame_any a b w ha.out.1 hb.out.1).mono fun e w' ⟨h1, h2⟩ => ⟨by rw [h1, ha.out.2, hb.out.2, decide_eq_true rfl], h2⟩
theorem sq_cases {c d l t g : Nat} (nl : Nn c l) (nt : Nn d t) (ng : Nn 1065353216 g) (h : gtO (some l) (some t) = false → g = 1065353216) :
    (FloatKind.f32.format.order l t = some .gt ∧ FloatKind.f32.format.order g 0 = some .eq ∧ FloatKind.f32.format.order g 1065353216 = some .lt) ∨
    (FloatKind.f32.format.order l t = some .gt ∧ FloatKind.f32.format.order g 0 = some .gt ∧ FloatKind.f32.format.order g 1065353216 = some .lt) ∨
    (FloatKind.f32.format.order l t = some .gt ∧ FloatKind.f32.format.order g 0 = some .gt ∧ FloatKind.f32.format.order g 1065353216 = some .eq) ∨
    (FloatKind.f32.format.order l t = some .eq ∧ FloatKind.f32.format.order g 0 = some .gt ∧ FloatKind.f32.format.order g 1065353216 = some .eq) ∨
    (FloatKind.f32.format.order l t = some .lt ∧ FloatKind.f32.format.order g 0 = some .gt ∧ FloatKind.f32.format.order g 1065353216 = some .eq) := by
  have n0 : Nn 0 0 := ⟨by decide, by show rung .f32 0 < _; decide, by decide, by decide⟩
  have n1 : Nn 1065353216 1065353216 := ⟨by decide, by show rung .f32 1065353216 < _; decide, by decide, by decide⟩
  have e0 : rung .f32 0 = 0 := by decide
  have e1 : rung .f32 1065353216 = 1065353216 := by decide
  rw [nn_gt nl nt] at h
  have gl := ng.le
  rw [nn_ord nl nt, nn_ord ng n0, nn_ord ng n1, e0, e1, cmp_def, cmp_def, cmp_def]
  rcases Nat.lt_trichotomy (rung .f32 l) (rung .f32 t) with h1 | h1 | h1
  · have hg := h (decide_eq_false (by omega))
    have hr : rung .f32 g = 1065353216 := by rw [hg]; exact e1
    rw [hr, if_pos (by omega)]
    right; right; right; right
    exact ⟨rfl, by decide, by decide⟩
  · have hg := h (decide_eq_false (by omega))
    have hr : rung .f32 g = 1065353216 := by rw [hg]; exact e1
    rw [hr, if_neg (by omega), if_pos (by omega)]
    right; right; right; left
    exact ⟨rfl, by decide, by decide⟩
  · rw [if_neg (by omega), if_neg (by omega)]
    by_cases h2 : rung .f32 g = 0
    · rw [h2]; left; exact ⟨rfl, by decide, by decide⟩
    · by_cases h3 : rung .f32 g = 1065353216
      · rw [h3]; right; right; left; exact ⟨rfl, by decide, by decide⟩
      · right; left
        refine ⟨rfl, ?_, ?_⟩
        · rw [if_neg (by omega), if_neg (by omega)]
        · rw [if_pos (by omega)]
set_option maxHeartbeats 32000000 in
set_option maxRecDepth 100000 in
theorem lawSqueezed_any (A : Option Addr) (n c : Nat) (xs : List Int) (B : Option Addr) (m d : Nat) (ys : List Int) (w : World) (hA : Bs w w.heap.size A n xs) (hB : Bs w w.heap.size B m ys) :
    Calls Try.prog 4 #[.slice A n c, .slice B m d] w fun e w' => e = .returned (.bool true) ∧ w.Since w.heap.size w' := by
  have HA := Lib.hid hA; have HB := Lib.hid hB; clear hA hB
  cases hl : (decide ((48 : Int) < n) || decide ((48 : Int) < m))
  case true =>
    go_enter Try.func4, Try.ntmps4
    go_wp2_with fail
    refine (r8Long_any A B n c m d true w hl).mono ?_
    rintro e w1 ⟨rfl, hs⟩
    have S1 := Lib.hid hs; clear hs
    go_wp2
    go_ret
    exact ⟨rfl, S1.out⟩
  case false =>
    have hnm : n ≤ 48 ∧ m ≤ 48 := by simp only [Bool.or_eq_false_iff, decide_eq_false_iff_not] at hl; omega
    go_enter Try.func4, Try.ntmps4
    go_wp2_with fail
    refine (r8Long_any A B n c m d false w hl).mono ?_
    rintro e w1 ⟨rfl, hs⟩
    have S1 := Lib.hid hs; clear hs hl
    go_wp2_with fail
    refine (r8Squeeze_any A n c xs w1 ((HA.out.since S1.out (Nat.le_refl _)).more S1.out.size) (by omega)).mono ?_
    rintro e w2 ⟨i1, i2, i3, i4, ⟨a, r, l, t, q⟩, rfl, h1, h2, h3, h4, hD, hs⟩
    have H1 := Lib.hid h1; have H2 := Lib.hid h2; have H3 := Lib.hid h3; have H4 := Lib.hid h4; have HD := Lib.hid hD
    have S2 := Lib.hid (since_step S1.out hs); clear hs h1 h2 h3 h4 hD S1
    simp only [SquN.val]
    go_wp2_with fail
    generalize hW : World.alloc w2 _ = W2
    obtain ⟨bx, hbx⟩ : ∃ q, Hid (q = w2.heap.size) := ⟨_, Lib.hid rfl⟩
    have S3 : Hid (w.Since w.heap.size W2) := Lib.hid (by rw [← hW]; exact S2.out.alloc S2.out.size _)
    have X3 : Hid (SquB W2 bx a r l t q) := Lib.hid (by rw [← hW, hbx.out]; exact SquB.new _ _ _ _ _ _)
    rw [← hbx.out]; clear hW S2 hbx
    refine (plainsW_any B m d ys 10 W2 ((HB.out.since S3.out (Nat.le_refl _)).more S3.out.size) (by omega) (by omega)).mono ?_
    rintro e w3 ⟨g, cp, zs, rfl, hcp, hg, hpl, hs⟩
    have G4 := Lib.hid hg.read
    have S4 := Lib.hid (since_step S3.out hs); have X4 := Lib.hid (X3.out.of (hs.block _ X3.out.at_.f.lt))
    clear hs hg S3 X3
    as_aux_lemma =>
      obtain ⟨Z, hZ⟩ : ∃ Z : Nat → O, Hid (Z = fun j => ab .f32 (wd zs j)) := ⟨_, Lib.hid rfl⟩
      obtain ⟨D, hDD⟩ : ∃ D : Squ, Hid (D = ⟨some (tW i1), some (tW i2), some 0, some (tW i3), some (fI (1 + (i4 : Int)))⟩) := ⟨_, Lib.hid rfl⟩
      have HD' : Hid (FvSqu ⟨a, r, l, t, q⟩ D) := Lib.hid (by rw [hDD.out]; exact HD.out)
      clear HD; have HD := HD'; clear HD'
      have K1 := Lib.hid (show Calls Try.prog 13 #[.agg #[.float .f32 a, .float .f32 r, .float .f32 l, .float .f32 t, .float .f32 q], .slice (some ⟨g, 0, none⟩) 10 cp] w3 (PLQB 10 (sqO D Z Z) ⟨D.a, D.r, sqL D Z 10, D.t, D.q⟩ true w3) from by
        rw [hZ.out]; exact implRunSq_ok ⟨a, r, l, t, q⟩ D (some ⟨g, 0, none⟩) 10 cp zs w3 HD.out G4.out (by omega))
      have x0 := X4.out.at_.f.a; have x1 := X4.out.at_.f.r; have x2 := X4.out.at_.f.l; have x3 := X4.out.at_.t; have x4 := X4.out.at_.q
      go_wp2_with fail
      refine K1.out.mono ?_
      rintro e w4 ⟨⟨A1, n1, o1⟩, c1, ⟨a1, r1, l1, t1, q1⟩, rfl, hn1, hg1, hf1, hv1, hs⟩
      change n1 = 10 at hn1
      subst hn1
      have S5 := Lib.hid (since_step S4.out hs); have G5 := Lib.hid ((G4.out.since hs).more hs.size); have X5 := Lib.hid (X4.out.of (hs.block _ X4.out.at_.f.lt))
      have P5 := Lib.hid hg1.read; have F1 : Hid (∀ j, j < 10 → ab .f32 (wd o1 j) = sqO D Z Z j) := Lib.hid hf1; have V1 := Lib.hid hv1
      clear hs hg1 hf1 hv1 K1 S4 G4 X4 x0 x1 x2 x3 x4
      simp only [SquN.val]
      have x0 := X5.out.at_.f.a; have x1 := X5.out.at_.f.r; have x2 := X5.out.at_.f.l; have x3 := X5.out.at_.t; have x4 := X5.out.at_.q
      have xl := X5.out.at_.f.lt
      go_wp2_with fail
      generalize hW : World.alloc w4 _ = W5
      obtain ⟨b1, hb1⟩ : ∃ q, Hid (q = w4.heap.size) := ⟨_, Lib.hid rfl⟩
      have hs : w4.Since w4.heap.size W5 := by rw [← hW]; exact (World.Since.refl _ _).alloc (Nat.le_refl _) _
      have E6 : Hid (SquB W5 b1 a1 r1 l1 t1 q1) := Lib.hid (by rw [← hW, hb1.out]; exact SquB.new _ _ _ _ _ _)
      have S6 := Lib.hid (since_step S5.out hs); have G6 := Lib.hid ((G5.out.since hs).more hs.size); have X6 := Lib.hid (X5.out.of (hs.block _ X5.out.at_.f.lt))
      have P6 := Lib.hid ((P5.out.since hs).more hs.size)
      rw [← hb1.out]
      clear hW hs hb1 S5 G5 X5 P5 x0 x1 x2 x3 x4 xl
      have K2 := Lib.hid (show Calls Try.prog 14 #[.agg #[.float .f32 a, .float .f32 r, .float .f32 l, .float .f32 t, .float .f32 q], .slice (some ⟨g, 0, none⟩) 10 cp, .slice (some ⟨g, 0, none⟩) 10 cp] W5 (PLQB 10 (sqO D Z Z) ⟨D.a, D.r, sqL D Z 10, D.t, D.q⟩ true W5) from by
        rw [hZ.out]; exact implDuckSq_ok ⟨a, r, l, t, q⟩ D (some ⟨g, 0, none⟩) (some ⟨g, 0, none⟩) 10 cp cp zs zs W5 HD.out G6.out G6.out (by omega))
      refine K2.out.mono ?_
      rintro e w6 ⟨⟨A2, n2, o2⟩, c2, ⟨a2, r2, l2, t2, q2⟩, rfl, hn2, hg2, hf2, hv2, hs⟩
      change n2 = 10 at hn2
      subst hn2
      have S7 := Lib.hid (since_step S6.out hs); have G7 := Lib.hid ((G6.out.since hs).more hs.size); have X7 := Lib.hid (X6.out.of (hs.block _ X6.out.at_.f.lt)); have E7 := Lib.hid (E6.out.of (hs.block _ E6.out.at_.f.lt))
      have P7 := Lib.hid ((P6.out.since hs).more hs.size)
      have Q7 := Lib.hid hg2.read; have F2 : Hid (∀ j, j < 10 → ab .f32 (wd o2 j) = sqO D Z Z j) := Lib.hid hf2; have V2 := Lib.hid hv2
      clear hs hg2 hf2 hv2 K2 S6 G6 X6 E6 P6
      simp only [SquN.val]
      have x0 := X7.out.at_.f.a; have x1 := X7.out.at_.f.r; have x2 := X7.out.at_.f.l; have x3 := X7.out.at_.t; have x4 := X7.out.at_.q
      have xl := X7.out.at_.f.lt
      go_wp2_with fail
      generalize hW : World.alloc w6 _ = W7
      obtain ⟨b2, hb2⟩ : ∃ q, Hid (q = w6.heap.size) := ⟨_, Lib.hid rfl⟩
      have hs : w6.Since w6.heap.size W7 := by rw [← hW]; exact (World.Since.refl _ _).alloc (Nat.le_refl _) _
      have O8 : Hid (SquB W7 b2 a2 r2 l2 t2 q2) := Lib.hid (by rw [← hW, hb2.out]; exact SquB.new _ _ _ _ _ _)
      have S8 := Lib.hid (since_step S7.out hs); have G8 := Lib.hid ((G7.out.since hs).more hs.size); have X8 := Lib.hid (X7.out.of (hs.block _ X7.out.at_.f.lt)); have E8 := Lib.hid (E7.out.of (hs.block _ E7.out.at_.f.lt))
      have P8 := Lib.hid ((P7.out.since hs).more hs.size); have Q8 := Lib.hid ((Q7.out.since hs).more hs.size)
      rw [← hb2.out]
      clear hW hs hb2 S7 G7 X7 E7 P7 Q7 x0 x1 x2 x3 x4 xl
      have K3 := Lib.hid (show Calls Try.prog 9 #[.agg #[.float .f32 a, .float .f32 r, .float .f32 l], .slice (some ⟨g, 0, none⟩) 10 cp] W7 (PLFB 10 (fun k => sqL D Z (k + 1)) ⟨D.a, D.r, sqL D Z 10⟩ true W7) from by
        rw [hZ.out]; exact implFollowL_ok ⟨a, r, l⟩ ⟨D.a, D.r, D.l⟩ (some ⟨g, 0, none⟩) 10 cp zs W7 ⟨HD.out.a, HD.out.r, HD.out.l⟩ G8.out (by omega))
      refine K3.out.mono ?_
      rintro e w8 ⟨⟨A3, n3, o3⟩, c3, ⟨a3, r3, l3⟩, rfl, hn3, hg3, hf3, hv3, hs⟩
      change n3 = 10 at hn3
      subst hn3
      have S9 := Lib.hid (since_step S8.out hs); have G9 := Lib.hid ((G8.out.since hs).more hs.size); have X9 := Lib.hid (X8.out.of (hs.block _ X8.out.at_.f.lt)); have E9 := Lib.hid (E8.out.of (hs.block _ E8.out.at_.f.lt)); have O9 := Lib.hid (O8.out.of (hs.block _ O8.out.at_.f.lt))
      have P9 := Lib.hid ((P8.out.since hs).more hs.size); have Q9 := Lib.hid ((Q8.out.since hs).more hs.size)
      have R9 := Lib.hid hg3.read; have F3 : Hid (∀ j, j < 10 → ab .f32 (wd o3 j) = sqL D Z (j + 1)) := Lib.hid hf3; have V3 := Lib.hid hv3
      clear hs hg3 hf3 hv3 K3 S8 G8 X8 E8 O8 P8 Q8
      simp only [FolN.val]
      go_wp2_with fail
      generalize hW : World.alloc w8 _ = W9
      obtain ⟨b3, hb3⟩ : ∃ q, Hid (q = w8.heap.size) := ⟨_, Lib.hid rfl⟩
      have hs : w8.Since w8.heap.size W9 := by rw [← hW]; exact (World.Since.refl _ _).alloc (Nat.le_refl _) _
      have L10 : Hid (FolB W9 b3 a3 r3 l3) := Lib.hid (by rw [← hW, hb3.out]; exact Go.Deep.blk_alloc_new _ _)
      have S10 := Lib.hid (since_step S9.out hs); have G10 := Lib.hid ((G9.out.since hs).more hs.size); have X10 := Lib.hid (X9.out.of (hs.block _ X9.out.at_.f.lt)); have E10 := Lib.hid (E9.out.of (hs.block _ E9.out.at_.f.lt)); have O10 := Lib.hid (O9.out.of (hs.block _ O9.out.at_.f.lt))
      have P10 := Lib.hid ((P9.out.since hs).more hs.size); have Q10 := Lib.hid ((Q9.out.since hs).more hs.size); have R10 := Lib.hid ((R9.out.since hs).more hs.size)
      rw [← hb3.out]
      clear hW hs hb3 S9 G9 X9 E9 O9 P9 Q9 R9
      refine (r8Same_any A1 A2 10 c1 c2 o1 o2 W9 P10.out Q10.out (by omega) (fun j hj => (F1.out j hj).trans (F2.out j hj).symm)).mono ?_
      rintro e w10 ⟨rfl, hs⟩
      have S11 := Lib.hid (since_step S10.out hs); have G11 := Lib.hid ((G10.out.since hs).more hs.size); have X11 := Lib.hid (X10.out.of (hs.block _ X10.out.at_.f.lt)); have E11 := Lib.hid (E10.out.of (hs.block _ E10.out.at_.f.lt)); have O11 := Lib.hid (O10.out.of (hs.block _ O10.out.at_.f.lt)); have L11 := Lib.hid (L10.out.of (hs.block _ L10.out.at_.lt))
      have P11 := Lib.hid ((P10.out.since hs).more hs.size); have R11 := Lib.hid ((R10.out.since hs).more hs.size)
      clear hs S10 G10 X10 E10 O10 L10 P10 Q10 R10
      have x1 := E11.out.at_.f.l; have x2 := O11.out.at_.f.l; have x3 := L11.out.at_.l
      have SM1 := Lib.hid (same_any l1 l3 _ w10 V1.out.l V3.out.l)
      have SM2 := Lib.hid (same_any l2 l3 _ w10 V2.out.l V3.out.l)
      go_wp2_with fail
      refine SM1.out.mono ?_
      rintro e v ⟨rfl, rfl⟩
      go_wp2_with fail
      refine SM2.out.mono ?_
      rintro e v ⟨rfl, rfl⟩
      go_wp2_with fail
      as_aux_lemma =>
        have FX : Hid (∀ j, j < 10 → ∃ s, sizeO (Z j) = some s ∧ Nn 1092000000 s ∧ rung .f32 s + 1 ≤ 1092000000) := Lib.hid fun j hj => by rw [hZ.out]; exact pl_size (hpl.out j hj)
        obtain ⟨g1, u1, e1, hb1, cc1⟩ := fs_cell_any P11.out (by omega)
        obtain ⟨g3, u3, e3, hb3, cc3⟩ := fs_cell_any R11.out (by omega)
        have C1 := Lib.hid cc1; have C3 := Lib.hid cc3
        subst e1; subst e3
        clear cc1 cc3 x1 x2 x3 SM1 SM2 E11 O11 L11 V1 V2 V3 F2
        go_loopw [16] (fun i wr => ∃ j : Nat, j ≤ 10 ∧ i = .int .i64 (j : Int) ∧ w10.Since w10.heap.size wr) (fun i _ => 10 - (intOf i).toNat)
        case atStart => exact ⟨0, Nat.zero_le _, rfl, World.Since.refl _ _⟩
        case round =>
          obtain ⟨j, hj, rfl, hs⟩ := hrel
          have SW := Lib.hid hs; clear hs
          by_cases hlt : j < 10
          · skip
            as_aux_lemma =>
              have zo := SW.out.size
              obtain ⟨cz, bz⟩ := fs_cell0 G11.out hlt
              have kz : wr.cell? ⟨g, j, none⟩ = some (.float .f32 (wd zs j)) := (SW.out.cell (a := ⟨g, j, none⟩) bz).trans cz
              have k1 : wr.cell? ⟨g1, u1 + j, none⟩ = some (.float .f32 (wd o1 j)) := (SW.out.cell (a := ⟨g1, u1 + j, none⟩) hb1).trans (C1.out j hlt)
              have k3 : wr.cell? ⟨g3, u3 + j, none⟩ = some (.float .f32 (wd o3 j)) := (SW.out.cell (a := ⟨g3, u3 + j, none⟩) hb3).trans (C3.out j hlt)
              have XW := Lib.hid (X11.out.of (SW.out.block _ X11.out.at_.f.lt))
              have x3 := XW.out.at_.t; have x4 := XW.out.at_.q; have xl := XW.out.at_.f.lt
              clear cz
              have gzw : g < wr.heap.size := Nat.lt_of_lt_of_le bz zo
              have g1w : g1 < wr.heap.size := Nat.lt_of_lt_of_le hb1 zo
              have g3w : g3 < wr.heap.size := Nat.lt_of_lt_of_le hb3 zo
              have hZj : Hid (Fv .f32 (wd zs j) (Z j)) := Lib.hid ⟨G11.out.2.1.at_ j, by rw [hZ.out]⟩
              have hL : Hid (Fv .f32 (wd o3 j) (sqL D Z (j + 1))) := Lib.hid ⟨R11.out.2.1.at_ j, F3.out j hlt⟩
              have hO : Hid (Fv .f32 (wd o1 j) (mu (Z j) (gainO (sqL D Z (j + 1)) D.t D.q))) := Lib.hid ⟨P11.out.2.1.at_ j, F1.out j hlt⟩
              obtain ⟨lq, el, nl, _⟩ := lev_all (tW_nn H1.out) (tW_nn H2.out) FX.out (by decide) (j + 1) (by omega)
              have el2 : sqL D Z (j + 1) = some lq := by unfold sqL; rw [hDD.out]; exact el
              obtain ⟨gq, eg, ng, hg1⟩ := gain_le nl H3.out H4.out
              have eD1 : D.t = some (tW i3) := by rw [hDD.out]
              have eD2 : D.q = some (fI (1 + (i4 : Int))) := by rw [hDD.out]
              have hT : Hid (Fv .f32 t (some (tW i3))) := Lib.hid (by rw [← eD1]; exact HD.out.t.out)
              have hQ : Hid (Fv .f32 q D.q) := HD.out.q
              have eG : gainO (sqL D Z (j + 1)) D.t D.q = some gq := by rw [el2, eD1, eD2]; exact eg
              have etw : tW i3 = t := ab_some hT.out.2
              have elw : lq = wd o3 j := ab_some (by have := hL.out.2; rw [el2] at this; exact this)
              rw [etw, elw] at hg1
              have hT' : Hid (Fv .f32 t D.t) := HD.out.t
              rw [eG] at hO
              have GQ := Lib.hid (show gainO (sqL D Z (j + 1)) D.t D.q = some gq from eG)
              have NG := Lib.hid ng
              have HG1 := Lib.hid hg1; have NL := Lib.hid (show Nn 1092000000 (wd o3 j) by rw [← elw]; exact nl); have NT := Lib.hid (show Nn 1065353216 t by rw [← etw]; exact tW_nn H3.out)
              clear el el2 eg eD1 eD2 hT nl ng eG hg1 etw elw
              go_wp2_with fail
              refine Lo.wp_loose_all [104,17] (by kernel_rfl) (by kernel_rfl) ?_
              repeat (first
                | (refine Lo.wpL_callF rfl 15 [.tmp 99, .tmp 101, .tmp 103] [.float .f32 (wd o3 j), .float .f32 t, .float .f32 q] _ rfl (by decide) (callsEnter 15 Try.f15 _ (by kernel_rfl) (by kernel_rfl) rfl) .f32 _ (Lo.keeps [99, 101, 103] _ rfl (by decide)) (implGain_hc (wd o3 j) t q _ _ _ wr hL hT' hQ) (gainO_ex hL hT' hQ) ?_; intro rr hrr; simp only [Act.put, List.setIfInBounds_toArray, List.set_cons_succ, List.set_cons_zero])
                | (refine Lo.wpL_move rfl _ (.inl rfl) (by decide) ?_; simp only [Act.put, List.setIfInBounds_toArray, List.set_cons_succ, List.set_cons_zero])
                | (refine Lo.wpL_move rfl _ (.inr rfl) (by decide) ?_; simp only [Act.put, List.setIfInBounds_toArray, List.set_cons_succ, List.set_cons_zero])
                | (refine Lo.wpL_fop rfl _ _ _ _ rfl rfl (by decide) _ _ _ _ _ rfl rfl (by assumption) (by assumption) ?_; intro rr hrr; simp only [Act.put, List.setIfInBounds_toArray, List.set_cons_succ, List.set_cons_zero])
                | (refine Lo.wpL_wide rfl _ _ _ rfl (by decide) _ _ rfl (by kernel_rfl) (by kernel_rfl) (by assumption) ?_; intro rr hrr; simp only [Act.put, List.setIfInBounds_toArray, List.set_cons_succ, List.set_cons_zero])
                | (refine Lo.wpL_quiet rfl (by decide) (fun K hK => ?_); go_big_quiet_op; (refine hK _ ?_; clear hK K)))
              refine Lo.wpL_nil ?_
              refine Lo.after_fl rfl (by assumption) ?_; intro q104 h104; simp only [Act.put, List.setIfInBounds_toArray, List.set_cons_succ, List.set_cons_zero]
              refine Lo.after_fl rfl (by assumption) ?_; intro q17 h17; simp only [Act.put, List.setIfInBounds_toArray, List.set_cons_succ, List.set_cons_zero]
              refine Lo.after_nil ?_; intro nq
              as_aux_lemma =>
                obtain ⟨v13, hv13⟩ : ∃ v, v = wr.drewN nq := ⟨_, rfl⟩
                have SV := Lib.hid (show wr.Since wr.heap.size v13 by rw [hv13]; exact since_drewN (World.Since.refl _ _) _)
                rw [← hv13]
                have kz2 : v13.cell? ⟨g, j, none⟩ = some (.float .f32 (wd zs j)) := (SV.out.cell (a := ⟨g, j, none⟩) gzw).trans kz
                have k12 : v13.cell? ⟨g1, u1 + j, none⟩ = some (.float .f32 (wd o1 j)) := (SV.out.cell (a := ⟨g1, u1 + j, none⟩) g1w).trans k1
                have k32 : v13.cell? ⟨g3, u3 + j, none⟩ = some (.float .f32 (wd o3 j)) := (SV.out.cell (a := ⟨g3, u3 + j, none⟩) g3w).trans k3
                have x32 : v13.cell? ⟨bx, 3, none⟩ = some (.float .f32 t) := (SV.out.cell (a := ⟨bx, 3, none⟩) xl).trans x3
                have y1 : g < v13.heap.size := Nat.lt_of_lt_of_le gzw SV.out.size
                have y2 : g1 < v13.heap.size := Nat.lt_of_lt_of_le g1w SV.out.size
                have y3 : g3 < v13.heap.size := Nat.lt_of_lt_of_le g3w SV.out.size
                have y4 : bx < v13.heap.size := Nat.lt_of_lt_of_le xl SV.out.size
                have S13 := Lib.hid (SW.out.trans (since_mono SV.out SW.out.size))
                have hq : gq = q17 := ab_some (by have := h17.out.2; rw [GQ.out] at this; exact this)
                subst hq
                have cas := sq_cases NL.out NT.out NG.out HG1.out
                have HQ17 : Hid (Fv .f32 gq (some gq)) := by rw [GQ.out] at h17; exact h17
                have CS := Lib.hid (show ∀ (u : Value) (v : World), (∃ q : Nat, u = .float .f32 q ∧ Hid (Fv .f32 q (opO .mul .f32 (Z j) (some gq)))) → Calls Try.prog 12 #[.float .f32 (wd o1 j), u] v fun e2 w2 => e2 = .returned (.bool true) ∧ v.Since v.heap.size w2 from by
                  rintro u v ⟨r, rfl, hr⟩
                  exact (same_any (wd o1 j) r _ v hO hr).mono fun e2 w2 ⟨h1, h2⟩ => ⟨h1, by rw [← h2]; exact World.Since.refl _ _⟩)
                clear hv13 SV SW hrr h104 h17 kz k1 k3 x3 x4 gzw g1w g3w xl XW HG1 NG GQ NL NT
                rcases cas with ⟨d1, d2, d3⟩ | ⟨d1, d2, d3⟩ | ⟨d1, d2, d3⟩ | ⟨d1, d2, d3⟩ | ⟨d1, d2, d3⟩
                all_goals
                  as_aux_lemma =>
                    go_wp2_with fail
                    refine Lk.wp_k (by kernel_rfl) (by kernel_rfl) (by kernel_rfl) ?_
                    repeat (first
                      | (refine Lk.sYes rfl rfl ?_; dsimp only)
                      | (refine Lk.sSkip rfl rfl rfl rfl ?_; (try simp only [Act.eval, Act.put, Lk.Va.val, Lk.Va.kd, List.setIfInBounds_toArray, List.set_cons_succ, List.set_cons_zero, Array.getD_eq_getD_getElem?, List.getElem?_toArray, List.getElem?_cons_succ, List.getElem?_cons_zero, Option.getD_some]))
                      | (refine Lk.sLoadF rfl rfl rfl rfl 24 _ rfl ⟨g1, u1 + j, none⟩ rfl (.float .f32 (wd o1 j)) (fun v hv => Lk.loadF ((hv.cell (a := ⟨g1, u1 + j, none⟩) y2).trans k12)) ?_; (try simp only [Act.eval, Act.put, Lk.Va.val, Lk.Va.kd, List.setIfInBounds_toArray, List.set_cons_succ, List.set_cons_zero, Array.getD_eq_getD_getElem?, List.getElem?_toArray, List.getElem?_cons_succ, List.getElem?_cons_zero, Option.getD_some]))
                      | (refine Lk.sLoadF rfl rfl rfl rfl 24 _ rfl ⟨g, j, none⟩ rfl (.float .f32 (wd zs j)) (fun v hv => Lk.loadF ((hv.cell (a := ⟨g, j, none⟩) y1).trans kz2)) ?_; (try simp only [Act.eval, Act.put, Lk.Va.val, Lk.Va.kd, List.setIfInBounds_toArray, List.set_cons_succ, List.set_cons_zero, Array.getD_eq_getD_getElem?, List.getElem?_toArray, List.getElem?_cons_succ, List.getElem?_cons_zero, Option.getD_some]))
                      | (refine Lk.sLoadF rfl rfl rfl rfl 24 _ rfl ⟨g3, u3 + j, none⟩ rfl (.float .f32 (wd o3 j)) (fun v hv => Lk.loadF ((hv.cell (a := ⟨g3, u3 + j, none⟩) y3).trans k32)) ?_; (try simp only [Act.eval, Act.put, Lk.Va.val, Lk.Va.kd, List.setIfInBounds_toArray, List.set_cons_succ, List.set_cons_zero, Array.getD_eq_getD_getElem?, List.getElem?_toArray, List.getElem?_cons_succ, List.getElem?_cons_zero, Option.getD_some]))
                      | (refine Lk.sLoadF rfl rfl rfl rfl 24 _ rfl ⟨bx, 3, none⟩ rfl (.float .f32 t) (fun v hv => Lk.loadF ((hv.cell (a := ⟨bx, 3, none⟩) y4).trans x32)) ?_; (try simp only [Act.eval, Act.put, Lk.Va.val, Lk.Va.kd, List.setIfInBounds_toArray, List.set_cons_succ, List.set_cons_zero, Array.getD_eq_getD_getElem?, List.getElem?_toArray, List.getElem?_cons_succ, List.getElem?_cons_zero, Option.getD_some]))
                      | (refine Lk.sFop rfl rfl (of_decide_eq_true rfl) rfl .mul _ _ _ _ rfl rfl (wd zs j) gq (Z j) (some gq) rfl rfl hZj HQ17 ?_; (try simp only [Act.eval, Act.put, Lk.Va.val, Lk.Va.kd, List.setIfInBounds_toArray, List.set_cons_succ, List.set_cons_zero, Array.getD_eq_getD_getElem?, List.getElem?_toArray, List.getElem?_cons_succ, List.getElem?_cons_zero, Option.getD_some]))
                      | (refine Lk.sCall1V rfl rfl rfl 12 [.tmp 116, .tmp 122] _ rfl (callsEnter 12 Try.f12 _ (by kernel_rfl) (by kernel_rfl) rfl) 122 (by simp) (Lk.yF (opO .mul .f32 (Z j) (some gq))) rfl (fun u => [.float .f32 (wd o1 j), u]) (fun b => rfl) (.bool true) (fun u S v hS hN hp => CS.out u v hp) ?_; (try simp only [Act.eval, Act.put, Lk.Va.val, Lk.Va.kd, List.setIfInBounds_toArray, List.set_cons_succ, List.set_cons_zero, Array.getD_eq_getD_getElem?, List.getElem?_toArray, List.getElem?_cons_succ, List.getElem?_cons_zero, Option.getD_some]))
                      | (refine Lk.sMove rfl rfl rfl rfl _ (.inl rfl) ?_; simp only [Act.eval, Act.put, Lk.Va.val, Lk.Va.kd, List.setIfInBounds_toArray, List.set_cons_succ, List.set_cons_zero, Array.getD_eq_getD_getElem?, List.getElem?_toArray, List.getElem?_cons_succ, List.getElem?_cons_zero, Option.getD_some])
                      | (refine Lk.sMove rfl rfl rfl rfl _ (.inr rfl) ?_; simp only [Act.eval, Act.put, Lk.Va.val, Lk.Va.kd, List.setIfInBounds_toArray, List.set_cons_succ, List.set_cons_zero, Array.getD_eq_getD_getElem?, List.getElem?_toArray, List.getElem?_cons_succ, List.getElem?_cons_zero, Option.getD_some])
                      | (refine Lk.sCopy rfl rfl (of_decide_eq_true rfl) _ (.inl rfl) _ rfl rfl ?_; simp only [Act.eval, Act.put, Lk.Va.val, Lk.Va.kd, List.setIfInBounds_toArray, List.set_cons_succ, List.set_cons_zero, Array.getD_eq_getD_getElem?, List.getElem?_toArray, List.getElem?_cons_succ, List.getElem?_cons_zero, Option.getD_some])
                      | (refine Lk.sCopy rfl rfl (of_decide_eq_true rfl) _ (.inr rfl) _ rfl rfl ?_; simp only [Act.eval, Act.put, Lk.Va.val, Lk.Va.kd, List.setIfInBounds_toArray, List.set_cons_succ, List.set_cons_zero, Array.getD_eq_getD_getElem?, List.getElem?_toArray, List.getElem?_cons_succ, List.getElem?_cons_zero, Option.getD_some])
                      | (refine Lk.sQuiet rfl rfl rfl rfl rfl (fun K hK => ?_); go_big_quiet_op; first | (with_reducible refine ⟨_, fun _ _ => rfl, hK _ ?_⟩; clear hK K) | (refine hK _ ?_; clear hK K)))
                    refine Lk.wpK_nil ?_
                    refine Lk.After.slot 122 _ rfl ?_; intro u122 _; simp only [Act.eval, Act.put, Lk.Va.val, Lk.Va.kd, List.setIfInBounds_toArray, List.set_cons_succ, List.set_cons_zero, Array.getD_eq_getD_getElem?, List.getElem?_toArray, List.getElem?_cons_succ, List.getElem?_cons_zero, Option.getD_some]
                    refine Lk.After.end_ [122] (by repeat (first | exact Lk.nbut.start | refine Lk.nbut.upd (by simp) ?_)) rfl ?_
                    intro fpK wK hwK
                    intro hK122 hB122 hX122
                    have ST := Lib.hid (S13.out.trans (since_mono hwK S13.out.size))
                    clear hK122 hB122 hX122 hwK fpK CS HQ17 d1 d2 d3
                    go_wp2_with fail
                    refine ⟨⟨j + 1, by omega, by go_num, ST.out⟩, by simp [intOf]; omega⟩
          · obtain rfl : j = 10 := by omega
            go_wp2
            go_ret
            exact ⟨rfl, S11.out.trans (since_mono SW.out S11.out.size)⟩
end Go.Proofs.Ytagcepankiinpaa

