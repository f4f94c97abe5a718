/- Folds: rows of floats that whole lists are appended to; the model's fold. -/
import Derived.Test.YtdibobheggffnaaHb
import Derived.Laws.AppendOwnNone
set_option linter.unusedVariables false
set_option linter.unusedSimpArgs false
namespace Go.Proofs.Ytdibobheggffnaa
open Fl Go.RowKit
theorem fvl_app (xs ys : List Nat) : fvl xs ++ fvl ys = fvl (xs ++ ys) := by unfold fvl; simp
theorem wd_app (xs ys : List Nat) (j : Nat) : wd (xs ++ ys) j = if j < xs.length then wd xs j else wd ys (j - xs.length) := by
  unfold wd
  split
  · next h => simp [List.getD_eq_getElem?_getD, List.getElem?_append_left h]
  · next h => simp [List.getD_eq_getElem?_getD, List.getElem?_append_right (Nat.le_of_not_lt h)]
set_option maxRecDepth 100000 in
theorem wpList_appN {ops : Array Oper} {rest : List Oper} {o : Oper} {a : Act} {Q : Exit → Act → World → Prop} {w : World} (hgd : o.guard = none) (s x : Operand)
    (ho : o.op = .call { callee := .builtin .append, args := #[s, x], argTypes := #[22, 22] }) (lo : Nat) (v : Value) (k : Nat) (F : Nat → O) (hs : a.eval s = v) (A : Option Addr) (m c : Nat) (xs : List Nat) (B : Nat)
    (hx : a.eval x = .slice A m c) (hnone : A = none → m = 0 ∧ c = 0) (hA : Hid (Fs w B A m xs)) (hF : ∀ j, j < m → F (k + j) = ab .f32 (wd xs j)) (hk : k + m ≤ 1048576) (hlo : lo ≤ w.heap.size) (hR : Rw lo w v k F)
    (h : ∀ v' w', Hid (Rw lo w' v' (k + m) F) → Hid (w.Since lo w') → wpList Try.prog ops Q rest (a.put o.dst v') w') : wpList Try.prog ops Q (o :: rest) a w := by
  obtain ⟨os, h1, h2, h3⟩ := hR
  obtain ⟨i0, hi, hz0, hz1, hz2⟩ := info_parts Try.infoF
  have HA := hA.out
  cases A with
  | none =>
    obtain ⟨rfl, rfl⟩ := hnone rfl
    exact wpList_append_own_none (P := Try.prog) hgd s x 22 ho lo 46 i0 1 Try.underlying22 hi v k (fvl os) (by rw [hs]) h1 hx (h v w (Lib.hid ⟨os, h1, h2, h3⟩) (Lib.hid (World.Since.refl _ _)))
  | some ad =>
  refine wpList_append_own (P := Try.prog) w hgd s x 22 ho lo 46 i0 (.float .f32 0) 1 4 Try.underlying22 hi hz0 hz1 hz2 rfl (by omega) v k (fvl os) hs h1 ad m c (fvl xs) hx ?_ ?_ ?_ ?_ ?_ hlo ?_
  · rw [fvl, List.length_map, HA.1, Nat.mul_one]
  · intro j u hj
    have hlt : j < m := by
      have := (List.getElem?_eq_some_iff.1 hj).1
      rw [fvl, List.length_map, HA.1] at this; exact this
    obtain ⟨g, off, e, _, hc⟩ := HA.2.2 (by omega)
    injection e with e
    subst e
    have := hc j hlt
    rw [show (Addr.mk g off none).add j = ⟨g, off + j, none⟩ by simp [Addr.add], this]
    rw [← hj]
    unfold fvl fv wd
    simp [List.getD_eq_getElem?_getD, List.getElem?_eq_getElem (show j < xs.length by rw [HA.1]; exact hlt)]
  · intro u hu
    obtain ⟨x, _, rfl⟩ := List.mem_map.1 hu
    rfl
  · unfold maxLen; omega
  · omega
  · intro v' w' hown hg _
    have hyl : os.length = k := by simpa [fvl] using h1.1
    refine h v' w' (Lib.hid ⟨os ++ xs, ?_, fun x hx => ?_, fun j hj => ?_⟩) (Lib.hid ⟨hg.os, hg.tape, hg.output, hg.size, fun i hi => ?_⟩)
    · rw [← fvl_app]; exact hown
    · rcases List.mem_append.1 hx with h4 | h4
      · exact h2 x h4
      · exact HA.2.1 x h4
    · rw [wd_app, hyl]
      by_cases e : j < k
      · rw [if_pos e]; exact h3 j e
      · rw [if_neg e, ← hF (j - k) (by omega)]; congr 1; omega
    · refine hg.block i (by omega) fun e => ?_
      have := own_lo h1 i e.symm
      omega
theorem Rw.end_ {lo : Nat} {w : World} {v : Value} {k : Nat} {F : Nat → O} (h : Rw lo w v k F) : ∃ (A : Option Addr) (c : Nat) (xs : List Nat), v = .slice A k c ∧ k ≤ c ∧ (A = none → k = 0 ∧ c = 0) ∧ (∀ a, A = some a → ∃ g, a = ⟨g, 0, none⟩ ∧ lo ≤ g) ∧ Gs 46 w lo A k xs ∧ Are ⟨A, k, xs⟩ F := by
  obtain ⟨os, h1, hs, hf⟩ := h
  rcases h1.2 with ⟨rfl, rfl⟩ | ⟨g, cap, cur, rfl, hg, _, hk, _⟩
  · exact ⟨none, 0, os, rfl, Nat.le_refl _, fun _ => ⟨rfl, rfl⟩, (fun a h => by cases h), Gs.of_own h1 hs, hf⟩
  · exact ⟨some ⟨g, 0, none⟩, cap, os, rfl, hk, (fun h => by cases h), fun a h => by cases h; exact ⟨g, rfl, hg⟩, Gs.of_own h1 hs, hf⟩
theorem Fs.nil_ {w : World} {A : Option Addr} : Fs w 0 A 0 [] := ⟨rfl, (fun x hx => by cases hx), (fun h => by omega)⟩
/-- the last ones of a list -/
theorem Fs.tail {w : World} {B n m : Nat} {g off : Nat} {xs : List Nat} (h : Fs w B (some ⟨g, off, none⟩) (n + m) xs) : Fs w B (some ⟨g, off + n, none⟩) m (xs.drop n) :=
  ⟨by rw [List.length_drop, h.1]; omega, fun x hx => h.2.1 x (List.mem_of_mem_drop hx), fun hm => by
    obtain ⟨g', off', e, hg, hc⟩ := h.2.2 (by omega)
    injection e with e
    injection e with e1 e2 _
    subst e1; subst e2
    refine ⟨g, off + n, rfl, hg, fun k hk => ?_⟩
    have := hc (n + k) (by omega)
    rw [← Nat.add_assoc] at this
    rw [this]
    unfold fv wd
    simp [List.getD_eq_getElem?_getD]⟩
theorem wd_drop (xs : List Nat) (n k : Nat) : wd (xs.drop n) k = wd xs (n + k) := by unfold wd; simp [List.getD_eq_getElem?_getD]
def apO (xs ys : List Nat) (n j : Nat) : O := if j < n then ab .f32 (wd xs j) else ab .f32 (wd ys (j - n))
def fsum (T Z : Nat → O) (p : Nat) : Nat → O
  | 0 => some 0
  | k + 1 => opO .add .f32 (fsum T Z p k) (opO .mul .f32 (T k) (Z (p - k)))
def foldF (T Z : Nat → O) (l t i : Nat) : O := fsum T Z (l + i) t
def offO (Z : Nat → O) (n j : Nat) : O := Z (n + j)
def PEE (n0 : Nat) (f0 : Nat → O) (n1 : Nat) (f1 : Nat → O) (w : World) (e : Ending) (w' : World) : Prop :=
  ∃ (p q : Ls) (c d : Nat), e = .returned (.tuple #[.slice p.A p.n c, .slice q.A q.n d]) ∧ Hid (p.n = n0) ∧ Hid (q.n = n1) ∧ Hid (Ge w.heap.size w' (fe p.A p.n p.xs)) ∧ Hid (Ge w.heap.size w' (fe q.A q.n q.xs)) ∧ Hid (Are p f0) ∧ Hid (Are q f1) ∧ Hid (De (fe p.A p.n p.xs) (fe q.A q.n q.xs)) ∧ Hid (w.Since w.heap.size w')
set_option maxHeartbeats 8000000 in
set_option maxRecDepth 100000 in
theorem specFold_any (A : Option Addr) (t c l n c1 c2 : Nat) (A1 A2 : Option Addr) (e1 : A1 = none → l = 0 ∧ c1 = 0) (e2 : A2 = none → n = 0 ∧ c2 = 0) (ts ls xs : List Nat) (w : World) (hA : Fs w w.heap.size A t ts) (hA1 : Fs w w.heap.size A1 l ls) (hA2 : Fs w w.heap.size A2 n xs) (ht : t = l + 1) (ht2 : t ≤ 32) (hn : n ≤ 256) :
    Calls Try.prog 58 #[.slice A t c, .slice A1 l c1, .slice A2 n c2] w (PEE n (foldF (fun k => ab .f32 (wd ts k)) (apO ls xs l) l t) l (offO (apO ls xs l) n) w) := by
  have HT := Lib.hid ht
  have hl : l ≤ 31 := by omega
  have HA := Lib.hid hA; have HA1 := Lib.hid hA1; have HA2 := Lib.hid hA2
  have E1 := Lib.hid e1; have E2 := Lib.hid e2
  clear hA hA1 hA2 ht e1 e2
  go_enter Try.func58, Try.ntmps58
  go_wp2_with (first
    | (at_builtin; refine wpList_appN rfl (.tmp 13) (.tmp 14) rfl w.heap.size _ 0 (apO ls xs l) rfl A1 l _ ls w.heap.size rfl E1.out (Lib.hid (HA1.out.since ((World.Since.refl _ _).alloc (Nat.le_refl _) _))) (fun j hj => by unfold apO; rw [if_pos (by omega)]; congr 2; omega) (by omega) (by simp; try omega) (Rw.start w _ (Nat.le_refl _) _) ?_; intro v1 w1 hR1 hS1)
    | (at_builtin; refine wpList_appN rfl (.tmp 15) (.tmp 16) rfl w.heap.size _ (0 + l) (apO ls xs l) rfl A2 n _ xs w.heap.size rfl E2.out (Lib.hid (HA2.out.since (((World.Since.refl _ _).alloc (Nat.le_refl _) _).trans hS1.out))) (fun j hj => by unfold apO; rw [if_neg (by omega)]; congr 2; omega) (by omega) (by have := hS1.out.size; simp at this; omega) hR1.out ?_; intro v2 w2 hR2 hS2))
  obtain ⟨Ap, cp, ps, rfl, hcp, hnone, hsome, hg, ha⟩ := (show Rw w.heap.size w2 v2 (l + n) (apO ls xs l) by have := hR2.out; rw [Nat.zero_add] at this; exact this).end_
  have HNO := Lib.hid hnone; have HSO := Lib.hid hsome; clear hnone hsome
  have S2 : Hid (w.Since w.heap.size w2) := Lib.hid ((((World.Since.refl _ _).alloc (Nat.le_refl _) _).trans hS1.out).trans hS2.out)
  have HG := Lib.hid hg; have HP := Lib.hid ha
  have HR := Lib.hid hg.read
  have z2 := S2.out.size
  clear hg ha hR2 hR1 hS1 hS2
  go_wp2_with fail
  go_loopw [9, 10] (fun v i wr => ∃ k : Nat, k ≤ n ∧ i = .int .i64 (k : Nat) ∧ Rw w2.heap.size wr v k (foldF (fun k => ab .f32 (wd ts k)) (apO ls xs l) l t) ∧ w2.Since w2.heap.size wr) (fun _ i _ => n - (intOf i).toNat)
  case atStart => exact ⟨0, Nat.zero_le _, rfl, Rw.start w2 _ (Nat.le_refl _) _, (World.Since.refl _ _).alloc (Nat.le_refl _) _⟩
  case round =>
    obtain ⟨k, hk, rfl, hr, hs⟩ := hrel
    have HRW := Lib.hid hr; have HS := Lib.hid hs
    have hsz := hs.size
    clear hr hs
    obtain ⟨T, hT⟩ : ∃ T : Nat → O, T = fun k => ab .f32 (wd ts k) := ⟨_, rfl⟩
    rw [← hT] at HRW ⊢
    have HTF : ∀ j, ab .f32 (wd ts j) = T j := fun j => by rw [hT]
    have HTT := Lib.hid hT
    clear hT
    by_cases hlt : k < n
    · go_wp2_with fail
      go_loopw [11, 12] (fun s i wv => ∃ j q m : Nat, j ≤ t ∧ i = .int .i64 (j : Nat) ∧ s = .float .f32 q ∧ Hid (Fv .f32 q (fsum T (apO ls xs l) (l + k) j)) ∧ wv = wr.drewN m) (fun _ i _ => t - (intOf i).toNat)
      case atStart => exact ⟨0, 0, 0, Nat.zero_le _, rfl, rfl, fv0, rfl⟩
      case round =>
        obtain ⟨j, q, m, hj, rfl, rfl, hq, rfl⟩ := hrel
        by_cases hl2 : j < t
        · obtain ⟨g, off, rfl, hg, hc⟩ := HA.out.2.2 (by omega)
          have hcell : wr.cell? ⟨g, off + j, none⟩ = some (.float .f32 (wd ts j)) := ((HS.out.cell (a := ⟨g, off + j, none⟩) (by show g < _; omega)).trans (S2.out.cell (a := ⟨g, off + j, none⟩) hg)).trans (hc j hl2)
          have hx : Hid (Fv .f32 (wd ts j) (T j)) := Lib.hid ⟨HA.out.2.1.at_ _, HTF j⟩
          obtain ⟨g2, off2, rfl, hg2, hc2⟩ := HR.out.2.2 (by omega)
          have hjl : j ≤ l := by have := HT.out; omega
          obtain ⟨p, hp⟩ : ∃ p, p = l + k - j := ⟨_, rfl⟩
          have hcell2 : wr.cell? ⟨g2, off2 + p, none⟩ = some (.float .f32 (wd ps p)) := (HS.out.cell (a := ⟨g2, off2 + p, none⟩) hg2).trans (hc2 p (by omega))
          have hz : Hid (Fv .f32 (wd ps p) (apO ls xs l p)) := Lib.hid ⟨HR.out.2.1.at_ _, HP.out p (by show p < l + n; omega)⟩
          have ep : ((l : Int) + (k : Int)) - (j : Int) = (p : Nat) := by omega
          have hpl : p < l + n := by omega
          have eF : Hid (fsum T (apO ls xs l) (l + k) (j + 1) = opO .add .f32 (fsum T (apO ls xs l) (l + k) j) (opO .mul .f32 (T j) (apO ls xs l p))) := Lib.hid (by rw [hp]; rfl)
          clear hc hc2 hp
          go_wp2_with fail
          refine Lo.wp_loose_all [31,45,46,11] (by kernel_rfl) (by kernel_rfl) ?_
          repeat (first
            | (refine Lo.wpL_move rfl _ (.inl rfl) (by decide) ?_; simp only [Act.put, List.setIfInBounds_toArray, List.set_cons_succ, List.set_cons_zero])
            | (refine Lo.wpL_move rfl _ (.inr rfl) (by decide) ?_; simp only [Act.put, List.setIfInBounds_toArray, List.set_cons_succ, List.set_cons_zero])
            | (refine Lo.wpL_fop rfl _ _ _ _ rfl rfl (by decide) _ _ _ _ _ rfl rfl (by assumption) (by assumption) ?_; intro rr hrr; simp only [Act.put, List.setIfInBounds_toArray, List.set_cons_succ, List.set_cons_zero])
            | (refine Lo.wpL_wide rfl _ _ _ rfl (by decide) _ _ rfl (by kernel_rfl) (by kernel_rfl) (by assumption) ?_; intro rr hrr; simp only [Act.put, List.setIfInBounds_toArray, List.set_cons_succ, List.set_cons_zero])
            | (refine Lo.wpL_quiet rfl (by decide) (fun K hK => ?_); go_big_quiet_op; (refine hK _ ?_; clear hK K)))
          refine Lo.wpL_nil ?_
          refine Lo.after_fl rfl (by assumption) ?_; intro q31 h31; simp only [Act.put, List.setIfInBounds_toArray, List.set_cons_succ, List.set_cons_zero]
          refine Lo.after_fl rfl (by assumption) ?_; intro q45 h45; simp only [Act.put, List.setIfInBounds_toArray, List.set_cons_succ, List.set_cons_zero]
          refine Lo.after_fl rfl (by assumption) ?_; intro q46 h46; simp only [Act.put, List.setIfInBounds_toArray, List.set_cons_succ, List.set_cons_zero]
          refine Lo.after_fl rfl (by assumption) ?_; intro q11 h11; simp only [Act.put, List.setIfInBounds_toArray, List.set_cons_succ, List.set_cons_zero]
          refine Lo.after_nil ?_; intro nq
          rw [← eF.out] at h11
          go_wp2
          go_roundw
          case rel => exact ⟨j + 1, _, _, by omega, by go_num, rfl, h11, rfl⟩
          case measure => simp [intOf]; omega
        · obtain rfl : j = t := by omega
          go_wp2_with (first | (at_builtin; refine wpList_app1 rfl (.tmp 47) (.tmp 49) rfl w2.heap.size _ k (foldF T (apO ls xs l) l j) rfl _ _ rfl (by simp [go_sem]) (by omega) (by simp; omega) hq (HRW.out.alloc _) ?_; intro v' w3 hR3 hS3))
          go_roundw
          case rel => exact ⟨k + 1, by omega, by go_num, hR3.out, HS.out.trans ((since_drewN ((World.Since.refl _ _).alloc hsz _) _).trans hS3.out)⟩
          case measure => simp [intOf]; omega
    · obtain rfl : k = n := by omega
      obtain ⟨p, cp2, rfl, hpn, hg, ha⟩ := HRW.out.done
      have HN := Lib.hid hpn; have HG2 := Lib.hid hg; have HP2 := Lib.hid ha
      clear hpn hg ha
      have S3 := Lib.hid (S2.out.trans (since_mono HS.out z2))
      have z3 := hsz
      cases Ap with
      | none =>
        obtain ⟨h0, rfl⟩ := HNO.out rfl
        obtain ⟨rfl, rfl⟩ : l = 0 ∧ k = 0 := by omega
        go_wp2
        go_ret2
        have Z : Rw wr.heap.size (wr.alloc (.cells #[] 46)) (.slice (some ⟨wr.heap.size, 0, none⟩) 0 0) 0 (offO (apO ls xs 0) 0) := Rw.start wr _ (Nat.le_refl _) _
        obtain ⟨A4, c4, xs4, e4, _, _, _, hg4, ha4⟩ := Z.end_
        rw [e4]
        exact ⟨p, ⟨A4, 0, xs4⟩, cp2, c4, rfl, HN, Lib.hid rfl, Lib.hid (((HG2.out.less z2).since ((World.Since.refl _ _).alloc (Nat.le_refl _) _)).toE), Lib.hid ((hg4.less (Nat.le_trans z2 z3)).toE), HP2, Lib.hid ha4, Lib.hid (fun g h1 h2 => by simp [fe, ce] at h2), Lib.hid (S3.out.trans ((World.Since.refl _ _).alloc (Nat.le_trans z2 z3) _))⟩
      | some ap =>
        obtain ⟨gp, rfl, hgp⟩ := HSO.out ap rfl
        have hF4 : ∀ j, j < l → (offO (apO ls xs l) k) (0 + j) = ab .f32 (wd (ps.drop k) j) := fun j hj => by
          rw [wd_drop, Nat.zero_add]
          unfold offO
          exact (HP.out (k + j) (by show k + j < l + k; omega)).symm
        have hfin : ∀ v4 w4, Hid (Rw wr.heap.size w4 v4 (0 + l) (offO (apO ls xs l) k)) → Hid ((wr.alloc (.cells #[] 46)).Since wr.heap.size w4) → PEE k (foldF T (apO ls xs l) l t) l (offO (apO ls xs l) k) w (.returned (.tuple #[.slice p.A p.n cp2, v4])) w4 := fun v4 w4 hR4 hS4 => by
          have hR5 := hR4.out
          rw [Nat.zero_add] at hR5
          obtain ⟨A4, c4, xs4, rfl, _, _, _, hg4, ha4⟩ := hR5.end_
          have S4 : wr.Since wr.heap.size w4 := ((World.Since.refl _ _).alloc (Nat.le_refl _) _).trans hS4.out
          exact ⟨p, ⟨A4, l, xs4⟩, cp2, c4, rfl, HN, Lib.hid rfl, Lib.hid (((HG2.out.less z2).since S4).toE), Lib.hid ((hg4.less (Nat.le_trans z2 z3)).toE), HP2, Lib.hid ha4, Lib.hid (fun g h1 h2 => by
            obtain ⟨hp1, o1, e1⟩ := h1
            obtain ⟨hp2, o2, e2⟩ := h2
            have q1 := (HG2.out.toE.2.2 g ⟨hp1, o1, e1⟩).2
            have q2 := (hg4.toE.2.2 g ⟨hp2, o2, e2⟩).1
            omega), Lib.hid (S3.out.trans (since_mono S4 (Nat.le_trans z2 z3)))⟩
        have HFIN := Lib.hid hfin
        clear hfin
        by_cases hck : cp = k
        · obtain rfl : l = 0 := by omega
          subst hck
          go_wp2_with (first | (at_builtin; refine wpList_appN rfl (.tmp 52) (.tmp 56) rfl wr.heap.size _ 0 (offO (apO ls xs 0) cp) rfl (some ⟨gp, 0, none⟩) 0 0 [] 0 (by simp [go_sem]) (fun h => by cases h) (Lib.hid Fs.nil_) (fun j hj => by omega) (by omega) (by simp) (Rw.start wr _ (Nat.le_refl _) _) ?_; intro v4 w4 hR4 hS4))
          go_ret2
          first | exact HFIN.out _ _ hR4 hS4 | (rw [← HTT.out]; exact HFIN.out _ _ hR4 hS4)
        · have HT2 := Lib.hid ((Fs.tail (n := k) (m := l) (by rw [Nat.add_comm k l]; exact HR.out)).since HS.out)
          rw [Nat.zero_add] at HT2
          go_wp2_with (first | (at_builtin; refine wpList_appN rfl (.tmp 52) (.tmp 56) rfl wr.heap.size _ 0 (offO (apO ls xs l) k) rfl (some ⟨gp, k, none⟩) l (cp - k) (ps.drop k) w2.heap.size (by simp [go_sem, hck]) (fun h => by cases h) (Lib.hid (HT2.out.since ((World.Since.refl _ _).alloc hsz _))) hF4 (by omega) (by simp) (Rw.start wr _ (Nat.le_refl _) _) ?_; intro v4 w4 hR4 hS4))
          go_ret2
          first | exact HFIN.out _ _ hR4 hS4 | (rw [← HTT.out]; exact HFIN.out _ _ hR4 hS4)
end Go.Proofs.Ytdibobheggffnaa
