/- Joined: Gx Gy Gz Gh Gj -/
import Derived.Test.YtlddppnaakjamaaGv
import Derived.Test.YtlddppnaakjamaaHb
import Derived.Test.YtlddppnaakjamaaFq
/- Filters: samples in the reverse order, both sides. -/
set_option linter.unusedVariables false
set_option linter.unusedSimpArgs false
namespace Go.Proofs.Ytlddppnaakjamaa
open Fl Go.RowKit
def revX (n : Nat) (X : Nat → O) (k : Nat) : O := X (n - 1 - k)
set_option maxHeartbeats 4000000 in
set_option maxRecDepth 100000 in
theorem specTurned_any (A : Option Addr) (n c : Nat) (xs : List Nat) (w : World) (hA : Fs w w.heap.size A n xs) (hn : n ≤ 256) :
    Calls Try.prog 42 #[.slice A n c] w (PL n (revX n (fun k => ab .f32 (wd xs k))) w) := by
  have HA := Lib.hid hA; clear hA
  go_enter Try.func42, Try.ntmps42
  go_wp2_with fail
  go_loopw [3, 4] (fun v i wr => ∃ (k : Nat) (z : Int), k ≤ n ∧ Hid (z = (n : Int) - 1 - k) ∧ i = .int .i64 z ∧ Rw w.heap.size wr v k (revX n (fun k => ab .f32 (wd xs k))) ∧ w.Since w.heap.size wr) (fun _ i _ => (intOf i + 1).toNat)
  case atStart => exact ⟨0, _, Nat.zero_le _, Lib.hid (by omega), rfl, Rw.start w _ (Nat.le_refl _) _, (World.Since.refl _ _).alloc (Nat.le_refl _) _⟩
  case round =>
    obtain ⟨k, z, hk, hz, rfl, hr, hs⟩ := hrel
    have HR := Lib.hid hr; have HS := Lib.hid hs
    clear hr hs
    by_cases hlt : k < n
    · obtain ⟨j, rfl⟩ := Int.eq_ofNat_of_zero_le (show 0 ≤ z by have := hz.out; omega)
      have hj : j = n - 1 - k := by have := hz.out; omega
      have HJ := Lib.hid hj; clear hj
      have hjn : j < n := by have := HJ.out; omega
      obtain ⟨g, off, rfl, hg, hc⟩ := HA.out.2.2 (by omega)
      have hcell : wr.cell? ⟨g, off + j, none⟩ = some (.float .f32 (wd xs j)) := (HS.out.cell (a := ⟨g, off + j, none⟩) hg).trans (hc j hjn)
      have hx : Hid (Fv .f32 (wd xs j) (revX n (fun k => ab .f32 (wd xs k)) k)) := Lib.hid ⟨HA.out.2.1.at_ j, by unfold revX; rw [← HJ.out]⟩
      have hsz := HS.out.size
      clear hc
      go_wp2_with (at_builtin; refine wpList_app1 rfl (.tmp 13) (.tmp 18) rfl w.heap.size _ k _ rfl _ _ rfl (by simp [go_sem]) (by omega) (by simp; omega) hx (HR.out.alloc _) ?_; intro v' w3 hR3 hS3)
      go_roundw
      case rel => exact ⟨k + 1, (j : Int) - 1, by omega, Lib.hid (by have := hz.out; omega), by go_num, hR3.out, HS.out.trans (((World.Since.refl _ _).alloc hsz _).trans hS3.out)⟩
      case measure => first | (simp [intOf]; done) | (simp [intOf]; omega)
    · obtain rfl : k = n := by omega
      have hneg : decide (0 ≤ z) = false := decide_eq_false (by have := hz.out; omega)
      obtain ⟨p, cp, rfl, rfl, hg, ha⟩ := HR.out.done
      have HG := Lib.hid hg; have HAA := Lib.hid ha; clear hg ha
      go_wp2
      go_ret
      exact ⟨p, cp, rfl, rfl, HG.out, HAA.out, HS.out⟩
theorem Pr.putAt {w : World} {g n : Nat} {Y X : Nat → O} (h : Pr w g n 0 Y X) {i : Nat} (hi : i < n) {r : Nat} {V : O} (hr : Hid (Fv .f32 r V)) : Pr (w.setCell ⟨g, i, none⟩ (.float .f32 r)) g n 0 Y (fun j => if j = i then V else X j) := by
  obtain ⟨xs, h1, h2, h3, h4⟩ := h
  refine ⟨xs.set i r, by rw [List.length_set, h1], fun x hx => ?_, (h3.set i _).congr (fun j hj => ?_), fun j hj => ?_⟩
  · rcases List.mem_or_eq_of_mem_set hx with h | rfl
    · exact h2 x h
    · exact hr.out.1
  · unfold fv wd
    by_cases e : j = i
    · subst e; rw [if_pos rfl]; simp [List.getD_eq_getElem?_getD, List.getElem?_set, h1, hj]
    · rw [if_neg e]; simp [List.getD_eq_getElem?_getD, List.getElem?_set, show ¬ (i = j) from fun h => e h.symm]
  · rw [if_neg (by omega)]
    show _ = (if j = i then V else X j)
    unfold wd
    by_cases e : j = i
    · subst e
      rw [if_pos rfl]
      simp [List.getD_eq_getElem?_getD, List.getElem?_set, h1, hi]
      exact hr.out.2
    · have := h4 j hj
      rw [if_neg (by omega)] at this
      rw [if_neg e]
      unfold wd at this
      simpa [List.getD_eq_getElem?_getD, List.getElem?_set, show ¬ (i = j) from fun h => e h.symm] using this
theorem Pr.likeX {w : World} {g n k : Nat} {Y X Z : Nat → O} (h : Pr w g n k Y X) (e : ∀ j, j < n → X j = Z j) : Pr w g n k Y Z := by
  obtain ⟨xs, h1, h2, h3, h4⟩ := h
  exact ⟨xs, h1, h2, h3, fun j hj => by rw [h4 j hj, e j hj]⟩
/-- k pairs are exchanged -/
def midX (n k : Nat) (X : Nat → O) (j : Nat) : O := if j < k ∨ n ≤ j + k then X (n - 1 - j) else X j
set_option maxHeartbeats 8000000 in
set_option maxRecDepth 100000 in
theorem reverse_any (A : Option Addr) (n c g : Nat) (Y X : Nat → O) (w : World) (hA : 0 < n → A = some ⟨g, 0, none⟩ ∧ Pr w g n 0 Y X) (hn : n ≤ 256) :
    Calls Try.prog 46 #[.slice A n c] w fun e w' => e = .returned (.tuple #[]) ∧ (0 < n → Pr w' g n 0 Y (revX n X)) ∧ On g w w' := by
  have HA := Lib.hid hA; clear hA
  go_enter Try.func46, Try.ntmps46
  go_wp2_with fail
  go_loopw [2, 3] (fun i v wr => ∃ (k : Nat) (z : Int), 2 * k ≤ n + 1 ∧ i = .int .i64 (k : Int) ∧ Hid (z = (n : Int) - 1 - k) ∧ v = .int .i64 z ∧ (0 < n → Pr wr g n 0 Y (midX n k X)) ∧ On g w wr) (fun i _ _ => n - (intOf i).toNat)
  case atStart => exact ⟨0, _, by omega, rfl, Lib.hid (by omega), rfl, fun h => (HA.out h).2.likeX fun j hj => by unfold midX; rw [if_neg (by omega)], On.refl _ _⟩
  case round =>
    obtain ⟨k, z, hk, rfl, hz, rfl, hp, ho⟩ := hrel
    have HP := Lib.hid hp; have HO := Lib.hid ho
    clear hp ho
    by_cases hlt : (k : Int) < z
    · obtain ⟨j, rfl⟩ := Int.eq_ofNat_of_zero_le (show 0 ≤ z by omega)
      have hj : j = n - 1 - k := by have := hz.out; omega
      have HJ := Lib.hid hj; clear hj
      have hkj : k < j := by omega
      have hjn : j < n := by have := HJ.out; omega
      have hkn : k < n := by omega
      obtain ⟨rfl, _⟩ := HA.out (by omega)
      have hpp := HP.out (by omega)
      obtain ⟨x, cx, hx⟩ := hpp.cell hkn (Nat.zero_le _)
      obtain ⟨y, cy, hy⟩ := hpp.cell hjn (Nat.zero_le _)
      have fx := hpp.free k
      have fy := hpp.free j
      have hne : ¬ k = j := by omega
      have hne2 : ¬ j = k := by omega
      have HPP := Lib.hid hpp; clear hpp
      have hx2 : Hid (Fv .f32 x (X k)) := by
        have e : midX n k X k = X k := by unfold midX; rw [if_neg (by have := HJ.out; omega)]
        rw [e] at hx; exact hx
      have hy2 : Hid (Fv .f32 y (X j)) := by
        have e : midX n k X j = X j := by unfold midX; rw [if_neg (by have := HJ.out; omega)]
        rw [e] at hy; exact hy
      clear hx hy
      have Q1 := Lib.hid ((HPP.out.putAt hkn hy2).putAt hjn hx2)
      have Q2 := Lib.hid ((HPP.out.putAt hjn hx2).putAt hkn hy2)
      have hfin1 : ∀ i, i < n → (fun i => if i = j then X k else (fun i => if i = k then X j else midX n k X i) i) i = midX n (k + 1) X i := fun i hi => by
        simp only
        unfold midX
        have hj := HJ.out
        by_cases e1 : i = j
        · rw [if_pos e1, if_pos (by omega), show n - 1 - i = k by omega]
        · rw [if_neg e1]
          by_cases e2 : i = k
          · rw [if_pos e2, if_pos (by omega), show n - 1 - i = j by omega]
          · rw [if_neg e2]
            by_cases e3 : i < k ∨ n ≤ i + k
            · rw [if_pos e3, if_pos (by omega)]
            · rw [if_neg e3, if_neg (by omega)]
      have hfin2 : ∀ i, i < n → (fun i => if i = k then X j else (fun i => if i = j then X k else midX n k X i) i) i = midX n (k + 1) X i := fun i hi => by
        rw [← hfin1 i hi]
        simp only
        by_cases e1 : i = j
        · subst e1; rw [if_neg hne2, if_pos rfl, if_pos rfl]
        · by_cases e2 : i = k
          · subst e2; rw [if_pos rfl, if_neg hne, if_pos rfl]
          · rw [if_neg e2, if_neg e1, if_neg e1, if_neg e2]
      have R1 := Lib.hid (Q1.out.likeX hfin1)
      have R2 := Lib.hid (Q2.out.likeX hfin2)
      have O1 := Lib.hid ((HO.out.set k (.float .f32 y)).set j (.float .f32 x))
      have O2 := Lib.hid ((HO.out.set j (.float .f32 x)).set k (.float .f32 y))
      clear Q1 Q2 hfin1 hfin2
      go_wp2_with fail
      go_region
      all_goals
        go_wp2_with fail
        go_roundw
        case rel => exact ⟨k + 1, (j : Int) - 1, by have := HJ.out; omega, by go_num, Lib.hid (by have := hz.out; omega), by go_num, fun _ => by first | exact R1.out | exact R2.out, by first | exact O1.out.drewN _ | exact O2.out.drewN _ | exact O1.out | exact O2.out⟩
        case measure => simp [intOf]; omega
    · have hd : decide ((k : Int) < z) = false := decide_eq_false hlt
      go_wp2_with fail
      go_end0
      exact ⟨rfl, fun h => (HP.out h).likeX fun j hj => by
        unfold midX revX
        have h1 := hz.out
        by_cases e : j < k ∨ n ≤ j + k
        · rw [if_pos e]
        · rw [if_neg e, show n - 1 - j = j by omega], HO.out⟩
end Go.Proofs.Ytlddppnaakjamaa

/- Filters: both ways, both sides. -/
set_option linter.unusedVariables false
set_option linter.unusedSimpArgs false
namespace Go.Proofs.Ytlddppnaakjamaa
open Fl Go.RowKit
def bothX (F : Fil) (n : Nat) (X : Nat → O) : Nat → O := revX n (filY 0 false F noM (revX n (filY 0 false F noM X)))
theorem revX_like {n : Nat} {X Y : Nat → O} (h : ∀ k, k < n → X k = Y k) (k : Nat) (hk : k < n) : revX n X k = revX n Y k := h _ (by omega)
set_option maxHeartbeats 8000000 in
set_option maxRecDepth 100000 in
theorem specFBW_ok (f : FilN) (F : Fil) (A : Option Addr) (n c : Nat) (xs : List Nat) (w : World) (hF : FvF f F) (hA : Fs w w.heap.size A n xs) (hn : n ≤ 256) :
    Calls Try.prog 19 #[f.val, .slice A n c] w (PLB n (bothX F n (fun k => ab .f32 (wd xs k))) true w) := by
  have h2 : decide ((n : Int) ≤ 256) = true := decide_eq_true (by omega)
  have HR := Lib.hid fun (V : World) (B : Option Addr) (d : Nat) (ys : List Nat) (X : Nat → O) (hg : FilAt V w.heap.size f) (hB : Fs V V.heap.size B n ys) (hX : ∀ k, k < n → ab .f32 (wd ys k) = X k) => (show Calls Try.prog 35 #[.pointer (some ⟨w.heap.size, 0, none⟩), .int .i64 0, .bool false, .agg #[.float .f32 0, .float .f32 0, .float .f32 0, .float .f32 0], .slice B n d] V (fun e w' => ∃ (p : Ls) (c qa qb qc qd : Nat), e = .returned (.tuple #[.slice p.A p.n c, .agg #[.float .f32 qa, .float .f32 qb, .float .f32 qc, .float .f32 qd]]) ∧ p.n = n ∧ Gs 22 w' V.heap.size p.A p.n p.xs ∧ Are p (filY 0 false F noM X) ∧ V.Since V.heap.size w') from by
    have h := specRun_any 0 (by omega) false w.heap.size f ⟨0, 0, 0, 0⟩ F noM B n d ys V hg hF noM_fv hB hn
    simp only [MemN.val] at h
    refine Calls.mono h fun e w' => ?_
    rintro ⟨p, c, ⟨qa, qb, qc, qd⟩, he, hp, hg2, ha, hm, hs⟩
    exact ⟨p, c, qa, qb, qc, qd, he, hp, hg2, fun k hk => (ha k hk).trans (filY_like hX k (by omega)), hs⟩)
  obtain ⟨b0, b1, b2, a1, a2⟩ := f
  unfold FilN.val
  have HA := Lib.hid hA; clear hA
  go_enter Try.func19, Try.ntmps19
  go_wp2_with fail
  generalize hW1 : World.alloc w _ = W1
  have z1 : W1.heap.size = w.heap.size + 1 := by rw [← hW1]; simp
  have FA : FilAt W1 w.heap.size ⟨b0, b1, b2, a1, a2⟩ := by rw [← hW1]; exact ⟨by simp, by simp [go_sem], by simp [go_sem], by simp [go_sem], by simp [go_sem], by simp [go_sem]⟩
  have S1 : Hid (w.Since w.heap.size W1) := Lib.hid (by rw [← hW1]; exact (World.Since.refl _ _).alloc (Nat.le_refl _) _)
  have F1 := Lib.hid FA
  clear hW1 FA
  go_wp2_with (go_at_call 34; refine (few_fil _ _ _ _ _ h2).mono ?_; rintro e w' ⟨rfl, rfl⟩)
  refine (HR.out W1 A c xs _ F1.out ((HA.out.since S1.out).more S1.out.size) (fun _ _ => rfl)).mono ?_
  rintro e w2 ⟨⟨pA, pn, px⟩, cp, qa, qb, qc, qd, rfl, hp, hg, ha, hs⟩
  simp only at hp hg; subst hp
  have G2 := Lib.hid hg.read; have A2 := Lib.hid ha; have S2 := Lib.hid (since_step S1.out hs)
  have F2 := Lib.hid (F1.out.since (since_mono hs (by omega)))
  clear hg ha hs
  go_wp2_with fail
  generalize hW3 : World.alloc w2 _ = w3
  have s3 : w2.Since w2.heap.size w3 := by rw [← hW3]; exact (World.Since.refl _ _).alloc (Nat.le_refl _) _
  have G3 := Lib.hid ((G2.out.since s3).more s3.size); have S3 := Lib.hid (since_step S2.out s3)
  have hz2 := S2.out.size
  have F3 := Lib.hid (F2.out.since (since_mono s3 (by have := F2.out.lt; omega)))
  clear hW3 s3
  go_at_call 42
  refine (specTurned_any pA pn cp px w3 G3.out hn).mono ?_
  rintro e w4 ⟨⟨rA, rn, rx⟩, cr, rfl, hp, hg, ha, hs⟩
  simp only at hp hg; subst hp
  have G4 := Lib.hid hg.read; have A4 := Lib.hid ha; have S4 := Lib.hid (since_step S3.out hs)
  have F4 := Lib.hid (F3.out.since (since_mono hs (by have := F3.out.lt; omega)))
  clear hg ha hs
  go_wp2_with fail
  refine (HR.out w4 rA cr rx (revX rn (filY 0 false F noM (fun k => ab .f32 (wd xs k)))) F4.out G4.out (fun k hk => (A4.out k hk).trans (revX_like (fun j hj => A2.out j hj) k hk))).mono ?_
  rintro e w5 ⟨⟨sA, sn, sx⟩, cs, ua, ub, uc, ud, rfl, hp, hg, ha, hs⟩
  simp only at hp hg; subst hp
  have G5 := Lib.hid hg.read; have A5 := Lib.hid ha; have S5 := Lib.hid (since_step S4.out hs)
  clear hg ha hs
  go_wp2_with fail
  generalize hW6 : World.alloc w5 _ = w6
  have s6 : w5.Since w5.heap.size w6 := by rw [← hW6]; exact (World.Since.refl _ _).alloc (Nat.le_refl _) _
  have G6 := Lib.hid ((G5.out.since s6).more s6.size); have S6 := Lib.hid (since_step S5.out s6)
  clear hW6 s6
  go_at_call 42
  refine (specTurned_any sA sn cs sx w6 G6.out hn).mono ?_
  rintro e w7 ⟨⟨tA, tn, tx⟩, ct, rfl, hp, hg, ha, hs⟩
  simp only at hp hg; subst hp
  have G7 := Lib.hid (hg.less S6.out.size); have A7 := Lib.hid ha; have S7 := Lib.hid (since_step S6.out hs)
  clear hg ha hs
  go_wp2
  go_ret2
  exact ⟨⟨tA, tn, tx⟩, ct, rfl, rfl, G7.out, fun k hk => (A7.out k hk).trans (revX_like (fun j hj => A5.out j hj) k hk), S7.out⟩
theorem specFBW_no (f : FilN) (A : Option Addr) (n c : Nat) (w : World) (h : ¬ n ≤ 256) (G : Nat → O) :
    Calls Try.prog 19 #[f.val, .slice A n c] w (PLB 0 G false w) := by
  have h2 : decide ((n : Int) ≤ 256) = false := decide_eq_false (by omega)
  obtain ⟨b0, b1, b2, a1, a2⟩ := f
  unfold FilN.val
  go_enter Try.func19, Try.ntmps19
  go_wp2_with (go_at_call 34; refine (few_fil _ _ _ _ _ h2).mono ?_; rintro e w' ⟨rfl, rfl⟩)
  go_ret2
  exact PLB.none_ ((World.Since.refl _ _).alloc (Nat.le_refl _) _) _
end Go.Proofs.Ytlddppnaakjamaa

/- Filters: both ways, the program's. -/
set_option linter.unusedVariables false
set_option linter.unusedSimpArgs false
namespace Go.Proofs.Ytlddppnaakjamaa
open Fl Go.RowKit
theorem Pr.any0 {w : World} {g n : Nat} {Y Z X : Nat → O} (h : Pr w g n 0 Y X) : Pr w g n 0 Z X := by
  obtain ⟨xs, h1, h2, h3, h4⟩ := h
  exact ⟨xs, h1, h2, h3, fun j hj => by rw [h4 j hj, if_neg (by omega), if_neg (by omega)]⟩
theorem Pr.next {w : World} {g n : Nat} {Y Z X : Nat → O} (h : Pr w g n n Y X) : Pr w g n 0 Z Y := by
  obtain ⟨xs, h1, h2, h3, h4⟩ := h
  exact ⟨xs, h1, h2, h3, fun j hj => by rw [h4 j hj, if_pos hj, if_neg (by omega)]⟩
theorem Pr.done0 {w : World} {g n lo : Nat} {Y X : Nat → O} (h : Pr w g n 0 Y X) (hl : lo ≤ g) : ∃ xs, Gs 22 w lo (some ⟨g, 0, none⟩) n xs ∧ Are ⟨some ⟨g, 0, none⟩, n, xs⟩ X := by
  obtain ⟨xs, h1, h2, ⟨cs, hb, hc⟩, h4⟩ := h
  exact ⟨xs, ⟨h1, h2, fun _ => ⟨g, cs, rfl, hl, hb, hc⟩⟩, fun j hj => by rw [h4 j hj, if_neg (by omega)]⟩
theorem implFBW_no (f : FilN) (A : Option Addr) (n c : Nat) (w : World) (h : ¬ n ≤ 256) (G : Nat → O) :
    Calls Try.prog 20 #[f.val, .slice A n c] w (PLB 0 G false w) := by
  have h2 : decide ((n : Int) ≤ 256) = false := decide_eq_false (by omega)
  obtain ⟨b0, b1, b2, a1, a2⟩ := f
  unfold FilN.val
  go_enter Try.func20, Try.ntmps20
  go_wp2_with (go_at_call 43; refine (implSamples_b _ _ _ _ _ h2).mono ?_; rintro e w' ⟨rfl, rfl⟩)
  go_ret2
  exact PLB.none_ ((World.Since.refl _ _).alloc (Nat.le_refl _) _) _
set_option maxHeartbeats 8000000 in
set_option maxRecDepth 100000 in
theorem implFBW_ok (f : FilN) (F : Fil) (A : Option Addr) (n c : Nat) (xs : List Nat) (w : World) (hF : FvF f F) (hA : Fs w w.heap.size A n xs) (hn : n ≤ 256) :
    Calls Try.prog 20 #[f.val, .slice A n c] w (PLB n (bothX F n (fun k => ab .f32 (wd xs k))) true w) := by
  have h2 : decide ((n : Int) ≤ 256) = true := decide_eq_true (by omega)
  have HR := Lib.hid fun (V : World) (B : Option Addr) (d g lo : Nat) (X : Nat → O) (hB : 0 < n → B = some ⟨g, 0, none⟩ ∧ lo ≤ g ∧ Pr V g n 0 X X) (hlo : lo ≤ V.heap.size) => (show Calls Try.prog 41 #[.agg #[.float .f32 f.b0, .float .f32 f.b1, .float .f32 f.b2, .float .f32 f.a1, .float .f32 f.a2, .bool false], .func (.func 45) #[] #[], .agg #[.float .f32 0, .float .f32 0, .float .f32 0, .float .f32 0], .slice B n d] V (fun e w' => ∃ (qa qb qc qd : Nat), e = .returned (.agg #[.float .f32 qa, .float .f32 qb, .float .f32 qc, .float .f32 qd]) ∧ (0 < n → Pr w' g n 0 (filY 0 false F noM X) (filY 0 false F noM X)) ∧ V.Since lo w' ∧ (∀ i, i < V.heap.size → i ≠ g → w'.heap[i]? = V.heap[i]?)) from by
    have h := implRun_any 0 _ (.inl ⟨rfl, rfl⟩) false f ⟨0, 0, 0, 0⟩ F noM B n d g lo X V hF noM_fv (fun h0 => ⟨(hB h0).1, (hB h0).2.1, (hB h0).2.2.any0⟩) hn hlo
    simp only [MemN.val, setV] at h
    refine Calls.mono h fun e w' => ?_
    rintro ⟨⟨qa, qb, qc, qd⟩, he, hm, hp, hs, hfr⟩
    exact ⟨qa, qb, qc, qd, he, fun h0 => (hp h0).next, hs, hfr⟩)
  obtain ⟨b0, b1, b2, a1, a2⟩ := f
  unfold FilN.val
  have HA := Lib.hid hA; clear hA
  go_enter Try.func20, Try.ntmps20
  go_wp2_with fail
  generalize hW1 : World.alloc w _ = W1
  have z1 : W1.heap.size = w.heap.size + 1 := by rw [← hW1]; simp
  have F1 : Hid (FilAt W1 w.heap.size ⟨b0, b1, b2, a1, a2⟩) := Lib.hid (by rw [← hW1]; exact ⟨by simp, by simp [go_sem], by simp [go_sem], by simp [go_sem], by simp [go_sem], by simp [go_sem]⟩)
  have S1 : Hid (w.Since w.heap.size W1) := Lib.hid (by rw [← hW1]; exact (World.Since.refl _ _).alloc (Nat.le_refl _) _)
  clear hW1
  go_wp2_with (go_at_call 43; refine (implSamples_b _ _ _ _ _ h2).mono ?_; rintro e w' ⟨rfl, rfl⟩)
  go_at_call 44
  refine (clone_any A n c xs W1 ((HA.out.since S1.out).more S1.out.size) hn).mono ?_
  rintro e w2 ⟨A', c', ys, rfl, hsome, hg, hy, hs⟩
  obtain ⟨X, hX⟩ : ∃ X : Nat → O, Hid (X = fun k => ab .f32 (wd xs k)) := ⟨_, Lib.hid rfl⟩
  have hgx : ∃ g, Hid (w.heap.size + 1 ≤ g ∧ (0 < n → A' = some ⟨g, 0, none⟩ ∧ Pr w2 g n 0 X X)) := by
    by_cases h0 : 0 < n
    · obtain ⟨g, cs, e9, hlg, hbg, _⟩ := hg.2.2 h0
      subst e9
      exact ⟨g, Lib.hid ⟨by omega, fun _ => ⟨rfl, (Pr.of hg h0 fun j hj => by rw [hX.out]; exact hy j hj).2⟩⟩⟩
    · exact ⟨w.heap.size + 1, Lib.hid ⟨Nat.le_refl _, fun h => absurd h h0⟩⟩
  obtain ⟨g, hgg⟩ := hgx
  have S2 := Lib.hid (since_step S1.out hs)
  have F2 := Lib.hid (F1.out.since (since_mono hs (by omega)))
  have G0 := Lib.hid (⟨hg.1, hg.2.1⟩ : ys.length = n ∧ Small ys)
  clear hg hy hs hsome F1 S1 z1
  have hzw := S2.out.size
  have hne : w.heap.size ≠ g := by have := hgg.out.1; omega
  go_wp2_with fail
  refine wp_loop_rounds 3 ?_
  rw [rounds_succ]
  have f0 := F2.out.b0; have f1 := F2.out.b1; have f2 := F2.out.b2; have f3 := F2.out.a1; have f4 := F2.out.a2
  go_wp2_with fail
  refine (HR.out w2 A' c' g w.heap.size X (fun h => ⟨(hgg.out.2 h).1, by have := hgg.out.1; omega, (hgg.out.2 h).2⟩) hzw).mono ?_
  rintro e w3 ⟨qa, qb, qc, qd, rfl, hp, hs, hfr⟩
  have P3 := Lib.hid hp; have S3 := Lib.hid (S2.out.trans hs)
  have F3 : Hid (FilAt w3 w.heap.size ⟨b0, b1, b2, a1, a2⟩) := Lib.hid (by
    have hb := hfr w.heap.size F2.out.lt hne
    exact ⟨Nat.lt_of_lt_of_le F2.out.lt hs.size, (cell_of_block hb _).trans F2.out.b0, (cell_of_block hb _).trans F2.out.b1, (cell_of_block hb _).trans F2.out.b2, (cell_of_block hb _).trans F2.out.a1, (cell_of_block hb _).trans F2.out.a2⟩)
  clear hp hs hfr f0 f1 f2 f3 f4
  go_wp2_with fail
  refine (reverse_any A' n c' g (filY 0 false F noM X) (filY 0 false F noM X) w3 (fun h => ⟨(hgg.out.2 h).1, P3.out h⟩) hn).mono ?_
  rintro e w4 ⟨rfl, hp, ho⟩
  have P4 := Lib.hid hp; have S4 := Lib.hid (S3.out.trans (since_mono ho.1 (show w.heap.size ≤ g by have := hgg.out.1; omega)))
  have F4 : Hid (FilAt w4 w.heap.size ⟨b0, b1, b2, a1, a2⟩) := Lib.hid (by
    have hb := ho.2 w.heap.size F3.out.lt hne
    exact ⟨Nat.lt_of_lt_of_le F3.out.lt ho.1.size, (cell_of_block hb _).trans F3.out.b0, (cell_of_block hb _).trans F3.out.b1, (cell_of_block hb _).trans F3.out.b2, (cell_of_block hb _).trans F3.out.a1, (cell_of_block hb _).trans F3.out.a2⟩)
  clear hp ho
  have f0 := F4.out.b0; have f1 := F4.out.b1; have f2 := F4.out.b2; have f3 := F4.out.a1; have f4 := F4.out.a2
  go_wp2_with fail
  rw [rounds_succ]
  go_wp2_with fail
  have hz4 := S4.out.size
  refine (HR.out w4 A' c' g w.heap.size (revX n (filY 0 false F noM X)) (fun h => ⟨(hgg.out.2 h).1, by have := hgg.out.1; omega, (P4.out h).any0⟩) hz4).mono ?_
  rintro e w5 ⟨ua, ub, uc, ud, rfl, hp, hs, hfr⟩
  have P5 := Lib.hid hp; have S5 := Lib.hid (S4.out.trans hs)
  clear hp hs hfr f0 f1 f2 f3 f4
  go_wp2_with fail
  refine (reverse_any A' n c' g (filY 0 false F noM (revX n (filY 0 false F noM X))) (filY 0 false F noM (revX n (filY 0 false F noM X))) w5 (fun h => ⟨(hgg.out.2 h).1, P5.out h⟩) hn).mono ?_
  rintro e w6 ⟨rfl, hp, ho⟩
  have P6 := Lib.hid hp; have S6 := Lib.hid (S5.out.trans (since_mono ho.1 (show w.heap.size ≤ g by have := hgg.out.1; omega)))
  clear hp ho
  go_wp2_with fail
  rw [rounds_succ]
  go_wp2
  go_ret2
  rw [← hX.out]
  by_cases h0 : 0 < n
  · obtain ⟨rfl, _⟩ := hgg.out.2 h0
    obtain ⟨zs, h1, h2⟩ := (P6.out h0).done0 (lo := w.heap.size) (by have := hgg.out.1; omega)
    exact ⟨⟨some ⟨g, 0, none⟩, n, zs⟩, c', rfl, rfl, h1, h2, S6.out⟩
  · exact ⟨⟨A', n, ys⟩, c', rfl, rfl, ⟨G0.out.1, G0.out.2, fun h => absurd h h0⟩, fun k hk => absurd (Nat.lt_of_le_of_lt (Nat.zero_le _) hk) h0, S6.out⟩
end Go.Proofs.Ytlddppnaakjamaa

/- Walks of laws whose arguments or results are lists. -/
set_option linter.unusedVariables false
set_option linter.unusedSimpArgs false
namespace Go.Proofs.Ytlddppnaakjamaa
open Fl Go.RowKit
set_option maxHeartbeats 16000000 in
set_option maxRecDepth 100000 in
theorem lawFilterBothWays_gen (a0 : FilN) (A1 : Option Addr) (n1 c1 : Nat) (x1 : List Nat) (rn0 : Nat) (rf0 : Nat → Option Nat) (rb1 : Bool) (w : World)
    (h1 : Fs w w.heap.size A1 n1 x1) (hn1 : n1 ≤ 1048576) (hr0 : rn0 ≤ 1048576)
    (hsp : ∀ (v : World) (b1 : Nat), Fs v v.heap.size (some ⟨b1, 0, none⟩) n1 x1 → Calls Try.prog 19 #[a0.val, .slice (some ⟨b1, 0, none⟩) n1 n1] v (PLB rn0 rf0 rb1 v))
    (him : ∀ (v : World) (b1 : Nat), Fs v v.heap.size (some ⟨b1, 0, none⟩) n1 x1 → Calls Try.prog 20 #[a0.val, .slice (some ⟨b1, 0, none⟩) n1 n1] v (PLB rn0 rf0 rb1 v)) :
    Calls Try.prog 5 #[a0.val, .slice A1 n1 c1] w fun e w' => e = .returned (.bool true) ∧ w.Since w.heap.size w' := by
  obtain ⟨a0_0, a0_1, a0_2, a0_3, a0_4⟩ := a0
  have hto0 := toFilter_any ⟨a0_0, a0_1, a0_2, a0_3, a0_4⟩
  simp only [FilN.val] at hto0 hsp him ⊢
  have HTO0 := Lib.hid hto0; clear hto0
  obtain ⟨W, hW⟩ : ∃ W, W = (w.alloc (.cells #[.float .f32 a0_0, .float .f32 a0_1, .float .f32 a0_2, .float .f32 a0_3, .float .f32 a0_4] 24)) := ⟨_, rfl⟩
  have S0 : Hid (w.Since w.heap.size W) := Lib.hid (by rw [hW]; exact (World.Since.refl _ _).alloc (Nat.le_refl _) _)
  have hz : w.heap.size < W.heap.size := by rw [hW]; simp
  have BX0_0 : Hid (W.cell? ⟨w.heap.size, 0, none⟩ = some (.float .f32 a0_0)) := Lib.hid (by rw [hW]; simp [go_sem])
  have BX0_1 : Hid (W.cell? ⟨w.heap.size, 1, none⟩ = some (.float .f32 a0_1)) := Lib.hid (by rw [hW]; simp [go_sem])
  have BX0_2 : Hid (W.cell? ⟨w.heap.size, 2, none⟩ = some (.float .f32 a0_2)) := Lib.hid (by rw [hW]; simp [go_sem])
  have BX0_3 : Hid (W.cell? ⟨w.heap.size, 3, none⟩ = some (.float .f32 a0_3)) := Lib.hid (by rw [hW]; simp [go_sem])
  have BX0_4 : Hid (W.cell? ⟨w.heap.size, 4, none⟩ = some (.float .f32 a0_4)) := Lib.hid (by rw [hW]; simp [go_sem])
  have F1 : Hid (Fs W W.heap.size A1 n1 x1) := Lib.hid (h1.now S0.out); clear h1
  have hd1 : decide ((1048576 : Int) < n1) = false := decide_eq_false (by omega)
  have HSP := Lib.hid hsp; have HIM := Lib.hid him; clear hsp him
  go_enter Try.func5, Try.ntmps5
  go_wp2_with fail
  rw [← hW]
  have S : Hid (W.Since W.heap.size W) := Lib.hid (World.Since.refl _ _)
  have LV : Hid (He W.heap.size W []) := Lib.hid trivial
  go_at_call 9
  refine (HTO0.out _).mono ?_
  rintro e v1 ⟨rfl, hs⟩
  have S' := Lib.hid (since_step S.out hs); clear S; have S := S'; clear S'
  have LV' := Lib.hid (LV.out.since hs); clear LV; have LV := LV'; clear LV'
  clear hs
  go_wp2_with fail
  go_at_call 11
  refine (toFE_any A1 n1 c1 x1 W _ F1.out S.out hn1).mono ?_
  rintro e v2 ⟨rfl, hg, hs⟩
  have LV' := Lib.hid (LV.out.new hs hg S.out.size); clear LV; have LV := LV'; clear LV'
  have S' := Lib.hid (since_step S.out hs); clear S; have S := S'; clear S'
  clear hs hg
  go_wp2_with fail
  go_at_call 19
  refine (HSP.out _ _ ((LV.out.1.1).readF)).mono ?_
  rintro e v3 ⟨w0, kw0, rfl, hnw0, hgw0, hfw0, hs⟩
  have LV' := Lib.hid ((LV.out.2).new hs hgw0.toE S.out.size); clear LV; have LV := LV'; clear LV'
  have S' := Lib.hid (since_step S.out hs); clear S; have S := S'; clear S'
  have Kw0 := Lib.hid hfw0; have Nw0 := Lib.hid hnw0; clear hfw0 hgw0 hnw0
  clear hs
  go_wp2_with fail
  go_at_call 11
  refine (toFE_any A1 n1 c1 x1 W _ F1.out S.out hn1).mono ?_
  rintro e v4 ⟨rfl, hg, hs⟩
  have LV' := Lib.hid (LV.out.new hs hg S.out.size); clear LV; have LV := LV'; clear LV'
  have S' := Lib.hid (since_step S.out hs); clear S; have S := S'; clear S'
  clear hs hg
  have bx0_0 := (S.out.cell (a := ⟨w.heap.size, 0, none⟩) (by omega)).trans BX0_0.out
  have bx0_1 := (S.out.cell (a := ⟨w.heap.size, 1, none⟩) (by omega)).trans BX0_1.out
  have bx0_2 := (S.out.cell (a := ⟨w.heap.size, 2, none⟩) (by omega)).trans BX0_2.out
  have bx0_3 := (S.out.cell (a := ⟨w.heap.size, 3, none⟩) (by omega)).trans BX0_3.out
  have bx0_4 := (S.out.cell (a := ⟨w.heap.size, 4, none⟩) (by omega)).trans BX0_4.out
  go_wp2_with fail
  go_at_call 9
  refine (HTO0.out _).mono ?_
  rintro e v5 ⟨rfl, hs⟩
  clear bx0_0 bx0_1 bx0_2 bx0_3 bx0_4
  have S' := Lib.hid (since_step S.out hs); clear S; have S := S'; clear S'
  have LV' := Lib.hid (LV.out.since hs); clear LV; have LV := LV'; clear LV'
  clear hs
  go_wp2_with fail
  go_at_call 20
  refine (HIM.out _ _ ((LV.out.1.1).readF)).mono ?_
  rintro e v6 ⟨g0, kg0, rfl, hng0, hgg0, hfg0, hs⟩
  have LV' := Lib.hid ((LV.out).new hs hgg0.toE S.out.size); clear LV; have LV := LV'; clear LV'
  have S' := Lib.hid (since_step S.out hs); clear S; have S := S'; clear S'
  have Kg0 := Lib.hid hfg0; have Ng0 := Lib.hid hng0; clear hfg0 hgg0 hng0
  clear hs
  go_wp2_with fail
  go_at_call 13
  refine (eqL_any g0 w0 _ _ _ _ (LV.out.1.1).readF (LV.out.2.2.1.1).readF (by rw [Ng0.out]; exact hr0) (Nw0.out.trans Ng0.out.symm) Kg0.out Kw0.out).mono ?_
  rintro e v7 ⟨rfl, hs⟩
  have S' := Lib.hid (since_step S.out hs); clear S; have S := S'; clear S'
  have LV' := Lib.hid (LV.out.since hs); clear LV; have LV := LV'; clear LV'
  clear hs
  go_wp2_with fail
  go_at_call 11
  refine (toFE_any A1 n1 c1 x1 W _ F1.out S.out hn1).mono ?_
  rintro e v8 ⟨rfl, hg, hs⟩
  have LV' := Lib.hid (LV.out.new hs hg S.out.size); clear LV; have LV := LV'; clear LV'
  have S' := Lib.hid (since_step S.out hs); clear S; have S := S'; clear S'
  clear hs hg
  go_wp2_with fail
  go_at_call 13
  refine (eqL_any ⟨some ⟨v3.heap.size, 0, none⟩, n1, x1⟩ ⟨some ⟨v7.heap.size, 0, none⟩, n1, x1⟩ _ _ _ _ (LV.out.2.2.1.1).readF (LV.out.1.1).readF (by omega) rfl (fun _ _ => rfl) (fun _ _ => rfl)).mono ?_
  rintro e v9 ⟨rfl, hs⟩
  have S' := Lib.hid (since_step S.out hs); clear S; have S := S'; clear S'
  have LV' := Lib.hid (LV.out.since hs); clear LV; have LV := LV'; clear LV'
  clear hs
  have LV' := Lib.hid LV.out.2; clear LV; have LV := LV'; clear LV'
  go_wp2_with fail
  go_at_call 15
  refine (markFE_any (some ⟨v3.heap.size, 0, none⟩) n1 x1 _ (1) _ _ _ _ (He.front [_] LV.out) (hn1) (by have := Ng0.out; omega) (by first | rfl | omega | (push_cast; omega))).mono ?_
  rintro e v10 ⟨rfl, hlv, hs⟩
  have LV' := Lib.hid hlv; clear LV hlv; have LV := LV'; clear LV'
  have S' := Lib.hid (since_mark S.out hs); clear S hs; have S := S'; clear S'
  go_wp2_with fail
  go_at_call 13
  refine (eqL_any g0 w0 _ _ _ _ (LV.out.2.1.1).readF (LV.out.2.2.1.1).readF (by rw [Ng0.out]; exact hr0) (Nw0.out.trans Ng0.out.symm) Kg0.out Kw0.out).mono ?_
  rintro e v11 ⟨rfl, hs⟩
  have S' := Lib.hid (since_step S.out hs); clear S; have S := S'; clear S'
  have LV' := Lib.hid (LV.out.since hs); clear LV; have LV := LV'; clear LV'
  clear hs
  go_wp2_with fail
  go_at_call 15
  refine (markFE_any g0.A g0.n g0.xs _ (1) _ _ _ _ (He.front [_] LV.out) (by rw [Ng0.out]; exact hr0) (by have := Ng0.out; omega) (by first | rfl | omega | (push_cast; omega))).mono ?_
  rintro e v12 ⟨rfl, hlv, hs⟩
  have LV' := Lib.hid hlv; clear LV hlv; have LV := LV'; clear LV'
  have S' := Lib.hid (since_mark S.out hs); clear S hs; have S := S'; clear S'
  go_wp2_with fail
  go_at_call 16
  refine (heldFE_any g0.A g0.n _ (1) _ _ _ ((LV.out.1.1)) (by rw [Ng0.out]; exact hr0) (by have := Ng0.out; omega) (by first | rfl | omega | (push_cast; omega))).mono ?_
  rintro e v ⟨rfl, rfl⟩
  have bx0_0 := (S.out.cell (a := ⟨w.heap.size, 0, none⟩) (by omega)).trans BX0_0.out
  have bx0_1 := (S.out.cell (a := ⟨w.heap.size, 1, none⟩) (by omega)).trans BX0_1.out
  have bx0_2 := (S.out.cell (a := ⟨w.heap.size, 2, none⟩) (by omega)).trans BX0_2.out
  have bx0_3 := (S.out.cell (a := ⟨w.heap.size, 3, none⟩) (by omega)).trans BX0_3.out
  have bx0_4 := (S.out.cell (a := ⟨w.heap.size, 4, none⟩) (by omega)).trans BX0_4.out
  go_wp2_with fail
  go_at_call 9
  refine (HTO0.out _).mono ?_
  rintro e v13 ⟨rfl, hs⟩
  clear bx0_0 bx0_1 bx0_2 bx0_3 bx0_4
  have S' := Lib.hid (since_step S.out hs); clear S; have S := S'; clear S'
  have LV' := Lib.hid (LV.out.since hs); clear LV; have LV := LV'; clear LV'
  clear hs
  go_wp2_with fail
  go_at_call 11
  refine (toFE_any A1 n1 c1 x1 W _ F1.out S.out hn1).mono ?_
  rintro e v14 ⟨rfl, hg, hs⟩
  have LV' := Lib.hid (LV.out.new hs hg S.out.size); clear LV; have LV := LV'; clear LV'
  have S' := Lib.hid (since_step S.out hs); clear S; have S := S'; clear S'
  clear hs hg
  go_wp2_with fail
  go_at_call 20
  refine (HIM.out _ _ ((LV.out.1.1).readF)).mono ?_
  rintro e v15 ⟨h0, kh0, rfl, hnh0, hgh0, hfh0, hs⟩
  have LV' := Lib.hid ((LV.out.2).new hs hgh0.toE S.out.size); clear LV; have LV := LV'; clear LV'
  have S' := Lib.hid (since_step S.out hs); clear S; have S := S'; clear S'
  have Kh0 := Lib.hid hfh0; have Nh0 := Lib.hid hnh0; clear hfh0 hgh0 hnh0
  clear hs
  go_wp2_with fail
  go_at_call 13
  refine (eqL_any h0 w0 _ _ _ _ (LV.out.1.1).readF (LV.out.2.2.2.1.1).readF (by rw [Nh0.out]; exact hr0) (Nw0.out.trans Nh0.out.symm) Kh0.out Kw0.out).mono ?_
  rintro e v16 ⟨rfl, hs⟩
  have S' := Lib.hid (since_step S.out hs); clear S; have S := S'; clear S'
  have LV' := Lib.hid (LV.out.since hs); clear LV; have LV := LV'; clear LV'
  clear hs
  go_wp2_with fail
  go_at_call 16
  refine (heldFE_any g0.A g0.n _ (1) _ _ _ ((LV.out.2.1.1)) (by rw [Ng0.out]; exact hr0) (by have := Ng0.out; omega) (by first | rfl | omega | (push_cast; omega))).mono ?_
  rintro e v ⟨rfl, rfl⟩
  go_wp2_with fail
  go_ret
  exact ⟨rfl, S0.out.trans (since_mono S.out (show w.heap.size ≤ W.heap.size by omega))⟩
set_option maxHeartbeats 2000000 in
set_option maxRecDepth 100000 in
theorem lawFilterBothWays_big (a0 : FilN) (A1 : Option Addr) (n1 c1 : Nat) (w : World) (h : 1048576 < n1)
    
    : Calls Try.prog 5 #[a0.val, .slice A1 n1 c1] w fun e w' => e = .returned (.bool true) ∧ w.Since w.heap.size w' := by
  obtain ⟨a0_0, a0_1, a0_2, a0_3, a0_4⟩ := a0
  simp only [FilN.val]
  by_cases b1 : 1048576 < n1
  · have hd1 : decide ((1048576 : Int) < n1) = true := decide_eq_true (by omega)
    go_enter Try.func5, Try.ntmps5
    go_wp2
    go_ret
    exact ⟨rfl, by (repeat (first | (with_reducible refine Fl.sinDrew ?_) | (with_reducible refine World.Since.drew ?_) | (with_reducible refine Fl.sinSet ?_ ?_; rotate_left) | (with_reducible refine Fl.sinAlloc ?_ ?_; rotate_left) | with_reducible exact World.Since.refl _ _ | with_reducible assumption | (with_reducible refine Fl.sinStep (by with_reducible assumption) ?_))); all_goals (first | omega | (simp; done) | (simp; omega) | (simp [go_sem]; done) | (simp [go_sem]; omega))⟩
  · have hd1 : decide ((1048576 : Int) < n1) = false := decide_eq_false (by omega)
    omega
end Go.Proofs.Ytlddppnaakjamaa

/- Filters: the law of both ways. -/
set_option linter.unusedVariables false
set_option linter.unusedSimpArgs false
namespace Go.Proofs.Ytlddppnaakjamaa
open Fl Go.RowKit
theorem lawFilterBothWays_any (f : FilN) (A1 : Option Addr) (n1 c1 : Nat) (x1 : List Nat) (w : World) (hF : FvF f ⟨ab .f32 f.b0, ab .f32 f.b1, ab .f32 f.b2, ab .f32 f.a1, ab .f32 f.a2⟩) (h1 : Fs w w.heap.size A1 n1 x1) (m1 : n1 ≤ 9223372036854775807) :
    Calls Try.prog 5 #[f.val, .slice A1 n1 c1] w fun e w' => e = .returned (.bool true) ∧ w.Since w.heap.size w' := by
  by_cases b : 1048576 < n1
  · exact lawFilterBothWays_big f A1 n1 c1 w b
  · by_cases h : n1 ≤ 256
    · exact lawFilterBothWays_gen f A1 n1 c1 x1 n1 _ true w h1 (by omega) (by omega) (fun v b hb => specFBW_ok f _ _ n1 n1 x1 v hF hb h) (fun v b hb => implFBW_ok f _ _ n1 n1 x1 v hF hb h)
    · exact lawFilterBothWays_gen f A1 n1 c1 x1 0 (fun _ => none) false w h1 (by omega) (by omega) (fun v b hb => specFBW_no f _ n1 n1 v h _) (fun v b hb => implFBW_no f _ n1 n1 v h _)
end Go.Proofs.Ytlddppnaakjamaa

