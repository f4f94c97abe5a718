/- Lines of one kind: the program's run of a delay. -/
import Derived.Test.YtflpackchlpedaaDr
import Derived.Test.YtflpackchlpedaaDm
set_option linter.unusedVariables false
set_option linter.unusedSimpArgs false
namespace Go.Proofs.Ytflpackchlpedaa
open Fl Go.RowKit
theorem implSamples_b (B : Option Addr) (m c : Nat) (b : Bool) (w : World) (h : decide ((m : Int) ≤ 256) = b) :
    Calls Try.prog 27 #[.slice B m c] w fun e w' => e = .returned (.bool b) ∧ w = w' := by
  go_enter Try.func27, Try.ntmps27
  go_wp2
  go_ret
  exact ⟨rfl, rfl⟩
theorem implIsLine_b (A : Option Addr) (n c : Nat) (b : Bool) (w : World) (h : okLen (n : Int) = b) :
    Calls Try.prog 37 #[.slice A n c] w fun e w' => e = .returned (.bool b) ∧ w = w' := by
  go_enter Try.func37, Try.ntmps37
  go_wp2_with (go_at_call 45; refine (implLen_b _ _ _ h).mono ?_; rintro e w' ⟨rfl, rfl⟩)
  go_ret
  exact ⟨rfl, rfl⟩
theorem implIsLineOf_b (l : Int) (A : Option Addr) (n c : Nat) (b : Bool) (w : World) (h : (okLen (n : Int) && decide ((n : Int) = l)) = b) :
    Calls Try.prog 48 #[.int .i64 l, .slice A n c] w fun e w' => e = .returned (.bool b) ∧ w = w' := by
  cases h1 : okLen (n : Int)
  · rw [h1] at h
    simp only [Bool.false_and] at h
    subst h
    go_enter Try.func48, Try.ntmps48
    go_wp2_with (go_at_call 37; refine (implIsLine_b _ _ _ _ _ h1).mono ?_; rintro e w' ⟨rfl, rfl⟩)
    go_ret
    exact ⟨rfl, rfl⟩
  · rw [h1] at h
    simp only [Bool.true_and] at h
    have h2 : ((n : Int) == l) = b := by rw [← h]; by_cases e : (n : Int) = l <;> simp [e]
    clear h
    go_enter Try.func48, Try.ntmps48
    go_wp2_with (go_at_call 37; refine (implIsLine_b _ _ _ _ _ h1).mono ?_; rintro e w' ⟨rfl, rfl⟩)
    go_ret
    exact ⟨rfl, rfl⟩
theorem DelAt.of2 {w w' : World} {g : Nat} {d : DelN} (h : DelAt w g d) (hs : g < w'.heap.size) (e : w'.heap[g]? = w.heap[g]?) : DelAt w' g d :=
  ⟨hs, (cell_of_block e _).trans h.l, (cell_of_block e _).trans h.fb, (cell_of_block e _).trans h.dry, (cell_of_block e _).trans h.wet, (cell_of_block e _).trans h.fl⟩
/-- what stands when k samples have gone through a ring -/
def RunI (d : DelN) (S : Nat → O) (F : FuncId) (n g b5 b6 b13 k : Nat) (W : World) : Prop :=
  ∃ f, RingAt W g n (k % n) f ∧ (∀ j, j < n → ab .f32 (f j) = S (Ln.ix n k j)) ∧ DelAt W b5 d ∧ W.cell? ⟨b6, 0, none⟩ = some (.func (.func F) #[] #[]) ∧ W.cell? ⟨b13, 0, none⟩ = some (.pointer (some ⟨g, 0, none⟩))
set_option maxHeartbeats 2000000 in
set_option maxRecDepth 100000 in
theorem closDelay_any (d : DelN) (D : Del) (g n k b5 b6 b13 : Nat) (x : Nat) (S : Nat → O) (w : World) (hD : FvD d D) (hn0 : 0 < n) (hn : n ≤ 64) (hx : x < 4294967296) (h : RunI d S 44 n g b5 b6 b13 k w)
    (hS : S (k + n) = DelV d.fl D (ab .f32 x) (S k)) (h5 : b5 ≠ g) (h6 : b6 ≠ g) (h13 : b13 ≠ g) (l6 : b6 < w.heap.size) (l13 : b13 < w.heap.size) :
    Calls Try.prog 64 #[.float .f32 x, .pointer (some ⟨b6, 0, none⟩), .pointer (some ⟨b5, 0, none⟩), .pointer (some ⟨b13, 0, none⟩)] w
      fun e w' => ∃ r, e = .returned (.float .f32 r) ∧ Hid (Fv .f32 r (DelY D (ab .f32 x) (S k))) ∧ RunI d S 44 n g b5 b6 b13 (k + 1) w' ∧ On g w w' := by
  obtain ⟨f, hr, hf, hd, hc6, hc13⟩ := h
  have ho : k % n < n := Nat.mod_lt _ hn0
  have hX : Hid (Fv .f32 x (ab .f32 x)) := Lib.hid ⟨hx, rfl⟩
  have hold : ab .f32 (f (k % n)) = S k := by rw [hf _ ho, Ln.ix_old hn0]
  have HR := Lib.hid hr; have HF := Lib.hid hf; have HD := Lib.hid hd; have HDD := Lib.hid hD; have HS := Lib.hid hS; have HO := Lib.hid hold
  clear hr hf hd hD hS hold
  have HC6 := Lib.hid hc6; have HC13 := Lib.hid hc13
  obtain ⟨dl, dfb, ddry, dwet, dfl⟩ := d
  have hgl := HD.out.lt
  have hc0 := HD.out.l; have hc1 := HD.out.fb; have hc2 := HD.out.dry; have hc3 := HD.out.wet; have hc4 := HD.out.fl
  simp only at hc0 hc1 hc2 hc3 hc4
  go_enter Try.func64, Try.ntmps64
  go_wp2_with fail
  refine (throughDelay_any ⟨dl, dfb, ddry, dwet, dfl⟩ D g n (k % n) f x (ab .f32 x) _ HDD.out HR.out ho hn hX).mono ?_
  rintro e w1 ⟨r, v, rfl, hr, hv, hring, hon⟩
  have HRR := Lib.hid hr; have HV := Lib.hid hv; have HRG := Lib.hid hring; have HON := Lib.hid hon
  clear hr hv hring hon hc0 hc1 hc2 hc3 hc4 hc6 hc13
  go_wp2
  go_ret
  have o1 : On g w w1 := HON.out
  rw [HO.out] at HRR HV
  refine ⟨r, rfl, HRR.out, ⟨_, by rw [← Ln.mod_step hn0]; exact HRG.out, fun j hj => ?_, (HD.out.on HON.out h5), ?_, ?_⟩, HON.out⟩
  · rw [Ln.ix_step hj]
    by_cases e : j = k % n
    · rw [if_pos e, if_pos e, HS.out]; exact HV.out.out.2
    · rw [if_neg e, if_neg e]; exact HF.out j hj
  · exact (cell_of_block (o1.2 _ l6 h6) 0).trans HC6.out
  · exact (cell_of_block (o1.2 _ l13 h13) 0).trans HC13.out
set_option maxHeartbeats 4000000 in
set_option maxRecDepth 100000 in
theorem runLineDelay_ok (d : DelN) (D : Del) (A : Option Addr) (n c : Nat) (xs : List Nat) (B : Option Addr) (m c2 : Nat) (ys : List Nat) (w : World) (hD : FvD d D) (hl : d.l = (n : Int)) (h1 : 1 ≤ n) (h2 : n ≤ 64) (hm : m ≤ 256)
    (hA : Fs w w.heap.size A n xs) (hB : Fs w w.heap.size B m ys) :
    Calls Try.prog 43 #[d.val, .func (.func 44) #[] #[], .int .i64 n, .slice A n c, .slice B m c2] w (PLLB m (fun k => DelY D (ab .f32 (wd ys k)) (Sd d.fl D n xs ys k)) n (fun i => Sd d.fl D n xs ys (m + i)) true w) := by
  obtain ⟨dl, dfb, ddry, dwet, dfl⟩ := d
  simp only at hl
  subst hl
  have hok : (okLen (n : Int) && decide ((n : Int) = (n : Int))) = true := by unfold okLen; simp; omega
  have hfew : decide ((m : Int) ≤ 256) = true := decide_eq_true (by omega)
  have HA := Lib.hid hA; have HB := Lib.hid hB; have HDD := Lib.hid hD
  clear hA hB hD
  simp only [DelN.val]
  obtain ⟨W1, hW1⟩ : ∃ W, W = w.alloc (.cells #[.int .i64 (n : Int), .float .f32 dfb, .float .f32 ddry, .float .f32 dwet, .bool dfl] 39) := ⟨_, rfl⟩
  obtain ⟨W2, hW2⟩ : ∃ W, W = W1.alloc (.cells #[.func (.func 44) #[] #[]] 72) := ⟨_, rfl⟩
  have z1 : W1.heap.size = w.heap.size + 1 := by rw [hW1]; simp
  have z2 : W2.heap.size = w.heap.size + 2 := by rw [hW2]; simp [z1]
  have S1 : Hid (w.Since w.heap.size W1) := Lib.hid (by rw [hW1]; exact (World.Since.refl _ _).alloc (Nat.le_refl _) _)
  have S2 : Hid (W1.Since W1.heap.size W2) := Lib.hid (by rw [hW2]; exact (World.Since.refl _ _).alloc (Nat.le_refl _) _)
  have D1 : Hid (DelAt W1 w.heap.size ⟨(n : Int), dfb, ddry, dwet, dfl⟩) := Lib.hid ⟨by omega, by rw [hW1]; simp [go_sem], by rw [hW1]; simp [go_sem], by rw [hW1]; simp [go_sem], by rw [hW1]; simp [go_sem], by rw [hW1]; simp [go_sem]⟩
  have D2 : Hid (DelAt W2 w.heap.size ⟨(n : Int), dfb, ddry, dwet, dfl⟩) := Lib.hid (D1.out.of (by omega) (S2.out.block _ (by omega)))
  have C2 : Hid (W2.cell? ⟨W1.heap.size, 0, none⟩ = some (.func (.func 44) #[] #[])) := Lib.hid (by rw [hW2]; simp [go_sem])
  go_enter Try.func43, Try.ntmps43
  go_wp2_with (first | (go_at_call 48; refine (implIsLineOf_b _ _ _ _ _ _ hok).mono ?_; rintro e w' ⟨rfl, rfl⟩) | (go_at_call 27; refine (implSamples_b _ _ _ _ _ hfew).mono ?_; rintro e w' ⟨rfl, rfl⟩) | fail)
  rw [← hW1, ← hW2]
  rw [z1] at C2
  refine (ringOf_any A n c xs W2 ((HA.out.now S1.out).now S2.out) h1 h2).mono ?_
  rintro e w3 ⟨rfl, hr3, hs3⟩
  have R3 := Lib.hid hr3; have S3 := Lib.hid hs3
  clear hr3 hs3
  have z3 : w.heap.size + 2 < w3.heap.size := by have := R3.out.lt; omega
  rw [z2] at R3 S3 ⊢
  go_wp2_with fail
  generalize hw4 : World.alloc _ _ = w4
  have S4 : Hid (w3.Since w3.heap.size w4) := Lib.hid (by rw [← hw4]; exact (World.Since.refl _ _).alloc (Nat.le_refl _) _)
  have C4 : Hid (w4.cell? ⟨w3.heap.size, 0, none⟩ = some (.pointer (some ⟨w.heap.size + 2, 0, none⟩))) := Lib.hid (by rw [← hw4]; simp [go_sem])
  have z4 : w4.heap.size = w3.heap.size + 1 := by rw [← hw4]; simp
  clear hw4
  have R4 : Hid (RingAt w4 (w.heap.size + 2) n 0 (fun j => wd xs j)) := Lib.hid (R3.out.since S4.out z3)
  have D4 : Hid (DelAt w4 w.heap.size ⟨(n : Int), dfb, ddry, dwet, dfl⟩) := Lib.hid ((D2.out.of S3.out.size (S3.out.block _ (by omega))).of S4.out.size (S4.out.block _ (by omega)))
  have C6 : Hid (w4.cell? ⟨w.heap.size + 1, 0, none⟩ = some (.func (.func 44) #[] #[])) := Lib.hid (((S4.out.cell (a := ⟨w.heap.size + 1, 0, none⟩) (by simp; omega)).trans (S3.out.cell (a := ⟨w.heap.size + 1, 0, none⟩) (by simp))).trans C2.out)
  have SW : Hid (w.Since w.heap.size w4) := Lib.hid (since_step (since_step (since_step S1.out S2.out) (by rw [z2]; exact S3.out)) S4.out)
  have B4 : Hid (Fs w4 (w.heap.size + 2) B m ys) := Lib.hid ((HB.out.since SW.out).more (by omega))
  refine (results_any B m c2 ys 64 #[.pointer (some ⟨w.heap.size + 1, 0, none⟩), .pointer (some ⟨w.heap.size, 0, none⟩), .pointer (some ⟨w3.heap.size, 0, none⟩)] (w.heap.size + 2) (RunI ⟨(n : Int), dfb, ddry, dwet, dfl⟩ (Sd dfl D n xs ys) 44 n (w.heap.size + 2) w.heap.size (w.heap.size + 1) w3.heap.size) (fun k => DelY D (ab .f32 (wd ys k)) (Sd dfl D n xs ys k)) w4 B4.out (by omega) hm (fun _ _ => rfl) ?hI ?hst ?h0).mono ?_
  case hI =>
    rintro k W W' ⟨f, ha, hb, hc, hd, he⟩ hs1 hs2 hbl
    exact ⟨f, ha.of (hbl _ (by omega)), hb, hc.of2 (by omega) (hbl _ (by omega)), (cell_of_block (hbl _ (by omega)) 0).trans hd, (cell_of_block (hbl _ (by omega)) 0).trans he⟩
  case hst =>
    rintro k q W hk rfl hi hs
    exact closDelay_any _ D _ n k _ _ _ _ (Sd dfl D n xs ys) W HDD.out h1 h2 (B4.out.2.1.at_ k) hi (Sd_new h1 k) (by omega) (by omega) (by omega) (by omega) (by omega)
  case h0 => exact ⟨_, by rw [Nat.zero_mod]; exact R4.out, fun j hj => by rw [Ln.ix_zero hj]; exact (Sd_old hj).symm, D4.out, C6.out, C4.out⟩
  rintro e w5 ⟨os, rfl, hgs, har, ⟨f5, hr5, hf5, hd5, hc5, hc13⟩, ho5⟩
  have G5 := Lib.hid hgs; have A5 := Lib.hid har; have R5 := Lib.hid hr5; have F5 := Lib.hid hf5; have O5 := Lib.hid ho5
  clear hgs har hr5 hf5 hd5 hc5 ho5
  have z5 : w4.heap.size ≤ w5.heap.size := O5.out.1.size
  go_wp2_with (go_at_call 33; refine (line_any _ n _ f5 w5 R5.out (Nat.mod_lt _ h1) h2).mono ?_; rintro e w6 ⟨ls, rfl, hg6, hl6, hs6⟩; have G6 := Lib.hid hg6; have L6 := Lib.hid hl6; have S6 := Lib.hid hs6; clear hg6 hl6 hs6)
  go_ret3
  rw [← z4]
  have SZ : w.Since w.heap.size w6 := since_step (SW.out.trans (O5.out.since (by omega))) S6.out
  refine ⟨⟨some ⟨w4.heap.size, 0, none⟩, m, os⟩, ⟨some ⟨w5.heap.size, 0, none⟩, n, ls⟩, m, n, rfl, rfl, rfl, (G5.out.since S6.out).less (by omega), G6.out.less (by omega), A5.out, fun i hi => ?_, fun hp _ a o s o' s' e e' => ?_, SZ⟩
  · show ab .f32 (wd ls i) = _
    rw [L6.out i hi, F5.out _ (Nat.mod_lt _ h1), Ln.ix_at hi]
  · obtain ⟨b, e1, h3, h4⟩ := G5.out.block hp
    injection e1 with e1; injection e1 with e1 _ _
    injection e with e; injection e with e _ _
    injection e' with e'; injection e' with e' _ _
    omega
theorem PLLB.up {n0 n1 : Nat} {f0 f1 : Nat → Option Nat} {b : Bool} {w w1 w2 : World} {e : Ending} (s : w.Since w.heap.size w1) (h : PLLB n0 f0 n1 f1 b w1 e w2) : PLLB n0 f0 n1 f1 b w e w2 := by
  obtain ⟨p, q, c, d, he, hp, hq, g1, g2, a1, a2, dj, hs⟩ := h
  exact ⟨p, q, c, d, he, hp, hq, g1.less s.size, g2.less s.size, a1, a2, dj, since_step s hs⟩
set_option maxHeartbeats 4000000 in
set_option maxRecDepth 100000 in
theorem implRunDelay_ok (d : DelN) (D : Del) (A : Option Addr) (n c : Nat) (xs : List Nat) (B : Option Addr) (m c2 : Nat) (ys : List Nat) (w : World) (hD : FvD d D) (hl : d.l = (n : Int)) (h1 : 1 ≤ n) (h2 : n ≤ 64) (hm : m ≤ 256)
    (hA : Fs w w.heap.size A n xs) (hB : Fs w w.heap.size B m ys) :
    Calls Try.prog 16 #[d.val, .slice A n c, .slice B m c2] w (PLLB m (fun k => DelY D (ab .f32 (wd ys k)) (Sd d.fl D n xs ys k)) n (fun i => Sd d.fl D n xs ys (m + i)) true w) := by
  obtain ⟨dl, dfb, ddry, dwet, dfl⟩ := d
  simp only at hl
  subst hl
  have HA := Lib.hid hA; have HB := Lib.hid hB; have HDD := Lib.hid hD
  clear hA hB hD
  simp only [DelN.val]
  obtain ⟨W1, hW1⟩ : ∃ W, W = w.alloc (.cells #[.int .i64 (n : Int), .float .f32 dfb, .float .f32 ddry, .float .f32 dwet, .bool dfl] 39) := ⟨_, rfl⟩
  have S1 : Hid (w.Since w.heap.size W1) := Lib.hid (by rw [hW1]; exact (World.Since.refl _ _).alloc (Nat.le_refl _) _)
  go_enter Try.func16, Try.ntmps16
  go_wp2_with fail
  rw [← hW1]
  refine (runLineDelay_ok ⟨(n : Int), dfb, ddry, dwet, dfl⟩ D A n c xs B m c2 ys W1 HDD.out rfl h1 h2 hm (HA.out.now S1.out) (HB.out.now S1.out)).mono ?_
  rintro e w2 hp
  have hp2 := PLLB.up S1.out hp
  obtain ⟨p, q, c', d', rfl, hr⟩ := hp2
  have HR := Lib.hid hr
  clear hr hp
  go_wp2
  go_ret3
  exact ⟨p, q, c', d', rfl, HR.out⟩
/-! where a run fails -/
set_option maxHeartbeats 1000000 in
set_option maxRecDepth 100000 in
theorem implRunDelay_no (d : DelN) (A : Option Addr) (n c : Nat) (B : Option Addr) (m c2 : Nat) (w : World) (f0 f1 : Nat → Option Nat) (h : (okLen d.l && (decide ((n : Int) = d.l) && decide ((m : Int) ≤ 256))) = false) :
    Calls Try.prog 16 #[d.val, .slice A n c, .slice B m c2] w (PLLB 0 f0 0 f1 false w) := by
  obtain ⟨dl, dfb, ddry, dwet, dfl⟩ := d
  simp only at h
  simp only [DelN.val]
  obtain ⟨W1, hW1⟩ : ∃ W, W = w.alloc (.cells #[.int .i64 dl, .float .f32 dfb, .float .f32 ddry, .float .f32 dwet, .bool dfl] 39) := ⟨_, rfl⟩
  have S1 : Hid (w.Since w.heap.size W1) := Lib.hid (by rw [hW1]; exact (World.Since.refl _ _).alloc (Nat.le_refl _) _)
  go_enter Try.func16, Try.ntmps16
  go_wp2_with fail
  rw [← hW1]
  have key : Calls Try.prog 43 #[DelN.val ⟨dl, dfb, ddry, dwet, dfl⟩, .func (.func 44) #[] #[], .int .i64 dl, .slice A n c, .slice B m c2] W1 (PLLB 0 f0 0 f1 false W1) := by
    clear hW1 S1
    simp only [DelN.val]
    cases h1 : (okLen (n : Int) && decide ((n : Int) = dl))
    · go_enter Try.func43, Try.ntmps43
      go_wp2_with (first | (go_at_call 48; refine (implIsLineOf_b _ _ _ _ _ _ h1).mono ?_; rintro e w' ⟨rfl, rfl⟩))
      go_ret3
      exact PLLB.none_ (by (repeat (first | (with_reducible refine Fl.sinDrew ?_) | (with_reducible refine World.Since.drew ?_) | (with_reducible refine Fl.sinSet ?_ ?_; rotate_left) | (with_reducible refine Fl.sinAlloc ?_ ?_; rotate_left) | with_reducible exact World.Since.refl _ _ | with_reducible assumption | (with_reducible refine Fl.sinStep (by with_reducible assumption) ?_))); all_goals (first | omega | (simp; done) | (simp; omega) | (simp [go_sem]; done) | (simp [go_sem]; omega))) _ _
    · have h3 : decide ((m : Int) ≤ 256) = false := by
        simp only [Bool.and_eq_true, decide_eq_true_eq] at h1
        rw [← h1.2] at h
        simpa [h1.1] using h
      go_enter Try.func43, Try.ntmps43
      go_wp2_with (first | (go_at_call 48; refine (implIsLineOf_b _ _ _ _ _ _ h1).mono ?_; rintro e w' ⟨rfl, rfl⟩) | (go_at_call 27; refine (implSamples_b _ _ _ _ _ h3).mono ?_; rintro e w' ⟨rfl, rfl⟩))
      go_ret3
      exact PLLB.none_ (by (repeat (first | (with_reducible refine Fl.sinDrew ?_) | (with_reducible refine World.Since.drew ?_) | (with_reducible refine Fl.sinSet ?_ ?_; rotate_left) | (with_reducible refine Fl.sinAlloc ?_ ?_; rotate_left) | with_reducible exact World.Since.refl _ _ | with_reducible assumption | (with_reducible refine Fl.sinStep (by with_reducible assumption) ?_))); all_goals (first | omega | (simp; done) | (simp; omega) | (simp [go_sem]; done) | (simp [go_sem]; omega))) _ _
  refine Calls.mono key ?_
  rintro e w2 hp
  have hp2 := PLLB.up S1.out hp
  obtain ⟨p, q, c', d', rfl, hr⟩ := hp2
  have HR := Lib.hid hr
  clear hr hp
  go_wp2
  go_ret3
  exact ⟨p, q, c', d', rfl, HR.out⟩
end Go.Proofs.Ytflpackchlpedaa
