/- Folds: the program's. -/
import Derived.Test.YtdibobheggffnaaTb
import Derived.Test.YtdibobheggffnaaJe
set_option linter.unusedVariables false
set_option linter.unusedSimpArgs false
namespace Go.Proofs.Ytdibobheggffnaa
open Fl Go.RowKit
theorem Fs.sub {w : World} {B N k t : Nat} {g off : Nat} {xs : List Nat} (h : Fs w B (some ⟨g, off, none⟩) N xs) (hk : k + t ≤ N) : Fs w B (some ⟨g, off + k, none⟩) t ((xs.drop k).take t) :=
  ⟨by rw [List.length_take, List.length_drop, h.1]; omega, fun x hx => h.2.1 x (List.mem_of_mem_drop (List.mem_of_mem_take hx)), fun hm => by
    obtain ⟨g', off', e, hg, hc⟩ := h.2.2 (by omega)
    injection e with e
    injection e with e1 e2 _
    subst e1; subst e2
    refine ⟨g, off + k, rfl, hg, fun j hj => ?_⟩
    have := hc (k + j) (by omega)
    rw [← Nat.add_assoc] at this
    rw [this]
    unfold fv wd
    simp [List.getD_eq_getElem?_getD, List.getElem?_take, hj]⟩
theorem wd_sub (xs : List Nat) (k t j : Nat) (hj : j < t) : wd ((xs.drop k).take t) j = wd xs (k + j) := by unfold wd; simp [List.getD_eq_getElem?_getD, List.getElem?_take, hj]
theorem Ge.nil_ {w : World} {lo : Nat} {A : Option Addr} : Ge lo w (fe A 0 []) := ce_ge ⟨rfl, (fun x hx => by cases hx)⟩ (fun h => by omega)
theorem Gs.tailE {w : World} {lo n m g : Nat} {xs : List Nat} (h : Gs 46 w lo (some ⟨g, 0, none⟩) (n + m) xs) : Ge lo w (fe (some ⟨g, n, none⟩) m (xs.drop n)) :=
  ce_ge ⟨by rw [List.length_drop, h.1]; omega, fun x hx => h.2.1 x (List.mem_of_mem_drop hx)⟩ fun hm => by
    obtain ⟨g', cs, e, hg, hb, hc⟩ := h.2.2 (by omega)
    injection e with e
    injection e with e1 _ _
    subst e1
    refine ⟨g, n, cs, rfl, hg, hb, fun j hj => ?_⟩
    rw [hc (n + j) (by omega)]
    unfold fv
    rw [wd_drop]
theorem implTaps_b (A : Option Addr) (n c : Nat) (b : Bool) (w : World) (h : inB (n : Int) 1 32 = b) : Calls Try.prog 59 #[.slice A n c] w fun e w' => e = .returned (.bool b) ∧ w = w' := by
  subst h
  by_cases h1 : 1 ≤ n
  all_goals
    go_enter Try.func59, Try.ntmps59
    go_wp2
    go_ret
    exact ⟨ret_bool (by simp [inB]; omega), rfl⟩
theorem specTaps_b (A : Option Addr) (n c : Nat) (b : Bool) (w : World) (h : inB (n : Int) 1 32 = b) : Calls Try.prog 57 #[.slice A n c] w fun e w' => e = .returned (.bool b) ∧ w = w' := by
  go_enter Try.func57, Try.ntmps57
  go_wp2_with (go_at_call 53; refine (specIn_b _ _ _ b _ h).mono ?_; rintro e w' ⟨rfl, rfl⟩)
  go_ret
  exact ⟨rfl, rfl⟩
set_option maxHeartbeats 8000000 in
set_option maxRecDepth 100000 in
theorem implFold_ok (A : Option Addr) (t c l n c1 c2 : Nat) (a1 a2 : Addr) (ts ls xs : List Nat) (w : World) (hA : Fs w w.heap.size A t ts) (hA1 : Fs w w.heap.size (some a1) l ls) (hA2 : Fs w w.heap.size (some a2) n xs) (ht : t = l + 1) (ht2 : t ≤ 32) (hn : n ≤ 256) :
    Calls Try.prog 24 #[.slice A t c, .slice (some a1) l c1, .slice (some a2) n c2] w (PEEB n (foldF (fun k => ab .f32 (wd ts k)) (apO ls xs l) l t) l (offO (apO ls xs l) n) true w) := by
  subst ht
  have hl : l ≤ 31 := by omega
  have HA := Lib.hid hA; have HA1 := Lib.hid hA1; have HA2 := Lib.hid hA2
  have htb : inB ((l : Int) + 1) 1 32 = true := by simp [inB]; omega
  have hfew : decide ((n : Int) ≤ 256) = true := decide_eq_true (by omega)
  have hmk := fun W => run_make_row' (P := Try.prog) 22 46 (.float .f32 0) 4 Try.underlying22 Try.infoF rfl .i64 .i64 n (by omega) (by omega) W
  clear hA hA1 hA2
  go_enter Try.func24, Try.ntmps24
  go_wp2_with (first | (go_at_call 59; refine (implTaps_b _ _ _ _ _ htb).mono ?_; rintro e w' ⟨rfl, rfl⟩) | (go_at_call 56; refine (implSamples_b _ _ _ _ _ hfew).mono ?_; rintro e w' ⟨rfl, rfl⟩) | fail)
  obtain ⟨W0, hW0⟩ : ∃ W, W = w.alloc (.cells #[.slice (some a1) l c1, .slice (some a2) n c2] 22) := ⟨_, rfl⟩
  have S0 : Hid (w.Since w.heap.size W0) := Lib.hid (by rw [hW0]; exact (World.Since.refl _ _).alloc (Nat.le_refl _) _)
  have k1 : W0.cell? ⟨w.heap.size, 0, none⟩ = some (.slice (some a1) l c1) := by rw [hW0]; simp [go_sem]
  have k2 : W0.cell? ⟨w.heap.size, 1, none⟩ = some (.slice (some a2) n c2) := by rw [hW0]; simp [go_sem]
  have z0 : W0.heap.size = w.heap.size + 1 := by rw [hW0]; simp
  rw [← hW0]
  clear hW0
  refine (concat_any w.heap.size (some a1) (some a2) l c1 n c2 ls xs W0 k1 k2 (by omega) (HA1.out.now S0.out) (HA2.out.now S0.out) hl hn (fun h => by cases h) (fun h => by cases h)).mono ?_
  rintro e w1 ⟨v1, rfl, hR1, hS1⟩
  obtain ⟨Ap, cp, ps, rfl, hcp, hnone, hsome, hg, ha⟩ := hR1.out.end_
  have HNO := Lib.hid hnone; have HSO := Lib.hid hsome
  have S1 : Hid (w.Since w.heap.size w1) := Lib.hid (S0.out.trans (since_mono hS1.out (by omega)))
  have HG := Lib.hid (hg.less (show w.heap.size ≤ W0.heap.size by omega)); have HP := Lib.hid ha
  have HR := Lib.hid hg.read
  have z1 := S1.out.size
  clear hg ha hR1 hS1 hnone hsome S0 k1 k2 z0
  go_wp2_with fail
  go_loopw [37] (fun i wr => ∃ k : Nat, k ≤ n ∧ i = .int .i64 (k : Nat) ∧ Mr wr w1.heap.size n k (foldF (fun k => ab .f32 (wd ts k)) (apO ls xs l) l (l + 1)) ∧ w1.Since w1.heap.size wr) (fun i _ => n - (intOf i).toNat)
  case atStart => exact ⟨0, Nat.zero_le _, rfl, Mr.made w1 n _, (World.Since.refl _ _).alloc (Nat.le_refl _) _⟩
  case round =>
    obtain ⟨k, hk, rfl, hr, hs⟩ := hrel
    have HM := Lib.hid hr; have HS := Lib.hid hs
    have hsz := hr.lt
    clear hr hs
    by_cases hlt : k < n
    · cases Ap with
      | none => exact absurd (HNO.out rfl).1 (by omega)
      | some ap =>
        obtain ⟨gp, rfl, hgp⟩ := HSO.out ap rfl
        have hck : ¬ cp = k := by omega
        obtain ⟨hi, hhi⟩ : ∃ hi, hi = k + (l + 1) := ⟨_, rfl⟩
        have ehi : (k : Int) + ((l : Int) + 1) = (hi : Nat) := by omega
        have hh1 : hi ≤ cp := by omega
        have hh2 : k ≤ hi := by omega
        have hh3 : hi - k = l + 1 := by omega
        have hh4 : hi ≤ 400 := by omega
        clear hhi
        have HSUB := Lib.hid ((Fs.sub (k := k) (t := l + 1) HR.out (by omega)).since HS.out)
        rw [Nat.zero_add] at HSUB
        have HA' : Hid (Fs wr w1.heap.size A (l + 1) ts) := Lib.hid (((HA.out.since S1.out).since (since_mono HS.out z1)).more z1)
        obtain ⟨xo, hxo⟩ := HM.out.cell hlt
        have hfr := HM.out.free k
        have hZ : ∀ j, j < l + 1 → ab .f32 (wd ((ps.drop k).take (l + 1)) (l + 1 - 1 - j)) = apO ls xs l ((l + k) - j) := fun j hj => by
          rw [wd_sub _ _ _ _ (by omega)]
          rw [HP.out (k + (l + 1 - 1 - j)) (by show k + (l + 1 - 1 - j) < l + n; omega)]
          congr 1
          omega
        have HZ := Lib.hid hZ
        clear hZ
        go_wp2_with (go_at_call 61; go_loud (refine (sumOfFold_any A _ (l + 1) c _ ts _ (fun k => ab .f32 (wd ts k)) (apO ls xs l) (l + k) wr w1.heap.size HA'.out HSUB.out (by omega) (fun _ _ => rfl) HZ.out).mono ?_); rintro e w4 ⟨r, m, rfl, hr, rfl⟩)
        go_roundw
        case rel => exact ⟨k + 1, by omega, by go_num, (HM.out.drewN m).put hlt hr, (since_drewN HS.out m).setCell (Nat.le_refl _) _⟩
        case measure => simp [intOf]; omega
    · obtain rfl : k = n := by omega
      obtain ⟨zs, hgz, haz⟩ := HM.out.done (lo := w.heap.size) z1
      have S3 := Lib.hid (S1.out.trans (since_mono HS.out z1))
      have HZ1 := Lib.hid hgz; have HZ2 := Lib.hid haz
      clear hgz haz
      have hoff : ∀ j, j < l → ab .f32 (wd (ps.drop k) j) = offO (apO ls xs l) k j := fun j hj => by
        rw [wd_drop]
        exact HP.out (k + j) (by show k + j < l + k; omega)
      have HOF := Lib.hid hoff
      have hfin : ∀ (A5 : Option Addr) (c5 m : Nat) (qs : List Nat), Ge w.heap.size wr (fe A5 l qs) → (∀ j, j < l → ab .f32 (wd qs j) = offO (apO ls xs l) k j) → (∀ g o, 0 < l → A5 = some ⟨g, o, none⟩ → g ≠ w1.heap.size) → PEEB k (foldF (fun k => ab .f32 (wd ts k)) (apO ls xs l) l (l + 1)) l (offO (apO ls xs l) k) true w (.returned (.tuple #[.slice (some ⟨w1.heap.size, 0, none⟩) k k, .slice A5 l c5, .bool true])) (wr.drewN m) := fun A5 c5 m qs h1 h2 h3 =>
        ⟨⟨some ⟨w1.heap.size, 0, none⟩, k, zs⟩, ⟨A5, l, qs⟩, k, c5, rfl, rfl, rfl, (HZ1.out.drewN m).toE, h1.since (since_drewN (World.Since.refl _ _) m), HZ2.out, h2, fun g q1 q2 => by
          obtain ⟨hp1, o1, e1⟩ := q1
          obtain ⟨hp2, o2, e2⟩ := q2
          injection e1 with e1
          injection e1 with e1 _ _
          exact h3 g o2 hp2 e2 e1.symm, since_drewN S3.out m⟩
      have HFIN := Lib.hid hfin
      clear hoff hfin
      cases Ap with
      | none =>
        obtain ⟨h0, rfl⟩ := HNO.out rfl
        obtain ⟨rfl, rfl⟩ : l = 0 ∧ k = 0 := by omega
        go_wp2_with fail
        refine Lo.wp_loose_all [] (by kernel_rfl) (by kernel_rfl) ?_
        repeat (first
          | (refine Lo.wpL_move rfl _ (.inl rfl) (by decide) ?_; simp only [Act.put, List.setIfInBounds_toArray, List.set_cons_succ, List.set_cons_zero])
          | (refine Lo.wpL_move rfl _ (.inr rfl) (by decide) ?_; simp only [Act.put, List.setIfInBounds_toArray, List.set_cons_succ, List.set_cons_zero])
          | (refine Lo.wpL_fop rfl _ _ _ _ rfl rfl (by decide) _ _ _ _ _ rfl rfl (by assumption) (by assumption) ?_; intro rr hrr; simp only [Act.put, List.setIfInBounds_toArray, List.set_cons_succ, List.set_cons_zero])
          | (refine Lo.wpL_wide rfl _ _ _ rfl (by decide) _ _ rfl (by kernel_rfl) (by kernel_rfl) (by assumption) ?_; intro rr hrr; simp only [Act.put, List.setIfInBounds_toArray, List.set_cons_succ, List.set_cons_zero])
          | (refine Lo.wpL_quiet rfl (by decide) (fun K hK => ?_); go_big_quiet_op; (refine hK _ ?_; clear hK K)))
        refine Lo.wpL_nil ?_
        refine Lo.after_nil ?_; intro nq
        go_wp2
        go_ret3
        exact HFIN.out none 0 _ [] Ge.nil_ (fun j hj => by omega) (fun g o h => by omega)
      | some ap =>
        obtain ⟨gp, rfl, hgp⟩ := HSO.out ap rfl
        have hgp2 : ∀ g o, 0 < l → (some (⟨gp, o, none⟩ : Addr)) = some ⟨g, o, none⟩ → g ≠ w1.heap.size := fun g o hl0 e => by
          injection e with e
          injection e with e _ _
          subst e
          obtain ⟨g', cs, e', _, hb, _⟩ := HG.out.2.2 (by omega)
          injection e' with e'
          injection e' with e' _ _
          subst e'
          have := (Array.getElem?_eq_some_iff.1 hb).1
          omega
        have HGP := Lib.hid hgp2
        have HTE := Lib.hid ((Gs.tailE (n := k) (m := l) (by rw [Nat.add_comm k l]; exact HG.out)).since HS.out)
        clear hgp2
        by_cases hck : cp = k
        · obtain rfl : l = 0 := by omega
          subst hck
          go_wp2_with fail
          refine Lo.wp_loose_all [] (by kernel_rfl) (by kernel_rfl) ?_
          repeat (first
            | (refine Lo.wpL_move rfl _ (.inl rfl) (by decide) ?_; simp only [Act.put, List.setIfInBounds_toArray, List.set_cons_succ, List.set_cons_zero])
            | (refine Lo.wpL_move rfl _ (.inr rfl) (by decide) ?_; simp only [Act.put, List.setIfInBounds_toArray, List.set_cons_succ, List.set_cons_zero])
            | (refine Lo.wpL_fop rfl _ _ _ _ rfl rfl (by decide) _ _ _ _ _ rfl rfl (by assumption) (by assumption) ?_; intro rr hrr; simp only [Act.put, List.setIfInBounds_toArray, List.set_cons_succ, List.set_cons_zero])
            | (refine Lo.wpL_wide rfl _ _ _ rfl (by decide) _ _ rfl (by kernel_rfl) (by kernel_rfl) (by assumption) ?_; intro rr hrr; simp only [Act.put, List.setIfInBounds_toArray, List.set_cons_succ, List.set_cons_zero])
            | (refine Lo.wpL_quiet rfl (by decide) (fun K hK => ?_); go_big_quiet_op; (refine hK _ ?_; clear hK K)))
          refine Lo.wpL_nil ?_
          refine Lo.after_nil ?_; intro nq
          go_wp2
          go_ret3
          exact HFIN.out (some ⟨gp, 0, none⟩) 0 _ [] Ge.nil_ (fun j hj => by omega) (fun g o h => by omega)
        · go_wp2_with fail
          refine Lo.wp_loose_all [] (by kernel_rfl) (by kernel_rfl) ?_
          repeat (first
            | (refine Lo.wpL_move rfl _ (.inl rfl) (by decide) ?_; simp only [Act.put, List.setIfInBounds_toArray, List.set_cons_succ, List.set_cons_zero])
            | (refine Lo.wpL_move rfl _ (.inr rfl) (by decide) ?_; simp only [Act.put, List.setIfInBounds_toArray, List.set_cons_succ, List.set_cons_zero])
            | (refine Lo.wpL_fop rfl _ _ _ _ rfl rfl (by decide) _ _ _ _ _ rfl rfl (by assumption) (by assumption) ?_; intro rr hrr; simp only [Act.put, List.setIfInBounds_toArray, List.set_cons_succ, List.set_cons_zero])
            | (refine Lo.wpL_wide rfl _ _ _ rfl (by decide) _ _ rfl (by kernel_rfl) (by kernel_rfl) (by assumption) ?_; intro rr hrr; simp only [Act.put, List.setIfInBounds_toArray, List.set_cons_succ, List.set_cons_zero])
            | (refine Lo.wpL_quiet rfl (by decide) (fun K hK => ?_); go_big_quiet_op; (refine hK _ ?_; clear hK K)))
          refine Lo.wpL_nil ?_
          refine Lo.after_nil ?_; intro nq
          go_wp2
          go_ret3
          exact HFIN.out (some ⟨gp, k, none⟩) (cp - k) _ _ HTE.out HOF.out (fun g o h e => HGP.out g o h (by injection e with e; injection e with e _ _; rw [e]))
end Go.Proofs.Ytdibobheggffnaa
