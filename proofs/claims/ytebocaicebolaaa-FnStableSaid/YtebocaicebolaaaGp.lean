/- Filters: a filter over samples in their places, the program's. -/
import Derived.Test.YtebocaicebolaaaGn
set_option linter.unusedVariables false
set_option linter.unusedSimpArgs false
namespace Go.Proofs.Ytebocaicebolaaa
open Fl Go.RowKit
/-- a block of so many numbers, the first k of which are the new ones -/
def Pr (w : World) (g n k : Nat) (Y X : Nat → O) : Prop := ∃ xs : List Nat, xs.length = n ∧ Small xs ∧ GCells w g n (fv xs) ∧ ∀ j, j < n → ab .f32 (wd xs j) = if j < k then Y j else X j
section
variable {w w' : World} {g n k : Nat} {Y X : Nat → O}
theorem Pr.put (h : Pr w g n k Y X) (hk : k < n) {r : Nat} (hr : Hid (Fv .f32 r (Y k))) : Pr (w.setCell ⟨g, k, none⟩ (.float .f32 r)) g n (k + 1) Y X := by
  obtain ⟨xs, h1, h2, h3, h4⟩ := h
  refine ⟨xs.set k r, by rw [List.length_set, h1], fun x hx => ?_, (h3.set k _).congr (fun j hj => ?_), fun j hj => ?_⟩
  · rcases List.mem_or_eq_of_mem_set hx with h | rfl
    · exact h2 x h
    · exact hr.out.1
  · unfold fv wd
    by_cases e : j = k
    · subst e; rw [if_pos rfl]; simp [List.getD_eq_getElem?_getD, List.getElem?_set, h1, hj]
    · rw [if_neg e]; simp [List.getD_eq_getElem?_getD, List.getElem?_set, show ¬ (k = j) from fun h => e h.symm]
  · unfold wd
    by_cases e : j = k
    · subst e
      rw [if_pos (by omega)]
      simp [List.getD_eq_getElem?_getD, List.getElem?_set, h1, hk]
      exact hr.out.2
    · have := h4 j hj
      unfold wd at this
      rw [show (if j < k + 1 then Y j else X j) = if j < k then Y j else X j by by_cases e2 : j < k; rw [if_pos e2, if_pos (by omega)]; rw [if_neg e2, if_neg (by omega)]]
      simpa [List.getD_eq_getElem?_getD, List.getElem?_set, show ¬ (k = j) from fun h => e h.symm] using this
theorem Pr.keep (h : Pr w g n k Y X) (e : w'.heap[g]? = w.heap[g]?) : Pr w' g n k Y X := by
  obtain ⟨xs, h1, h2, ⟨cs, hb, hc⟩, h4⟩ := h
  exact ⟨xs, h1, h2, ⟨cs, e.trans hb, hc⟩, h4⟩
theorem Pr.lt (h : Pr w g n k Y X) : g < w.heap.size := by
  obtain ⟨xs, h1, h2, h3, h4⟩ := h
  exact h3.lt
theorem Pr.cell (h : Pr w g n k Y X) {j : Nat} (hj : j < n) (hk : k ≤ j) : ∃ x, w.cell? ⟨g, j, none⟩ = some (.float .f32 x) ∧ Hid (Fv .f32 x (X j)) := by
  obtain ⟨xs, h1, h2, h3, h4⟩ := h
  exact ⟨wd xs j, h3.cell hj, Lib.hid ⟨h2.at_ j, by rw [h4 j hj, if_neg (by omega)]⟩⟩
theorem Pr.free (h : Pr w g n k Y X) (j : Nat) : w.frozen? ⟨g, j, none⟩ = false := by
  obtain ⟨xs, h1, h2, h3, h4⟩ := h
  exact h3.free j
theorem Pr.done {lo : Nat} (h : Pr w g n n Y X) (hl : lo ≤ g) : ∃ xs, Gs 22 w lo (some ⟨g, 0, none⟩) n xs ∧ Are ⟨some ⟨g, 0, none⟩, n, xs⟩ Y := by
  obtain ⟨xs, h1, h2, ⟨cs, hb, hc⟩, h4⟩ := h
  exact ⟨xs, ⟨h1, h2, fun _ => ⟨g, cs, rfl, hl, hb, hc⟩⟩, fun j hj => by rw [h4 j hj, if_pos hj]⟩
theorem Pr.of {lo : Nat} {xs : List Nat} (h : Gs 22 w lo (some ⟨g, 0, none⟩) n xs) (h0 : 0 < n) (hx : ∀ j, j < n → ab .f32 (wd xs j) = X j) : lo ≤ g ∧ Pr w g n 0 Y X := by
  obtain ⟨h1, h2, h3⟩ := h
  obtain ⟨g', cs, e, hl, hb, hc⟩ := h3 h0
  injection e with e
  injection e with e1 _ _
  subst e1
  exact ⟨hl, xs, h1, h2, ⟨cs, hb, hc⟩, fun j hj => by rw [if_neg (by omega)]; exact hx j hj⟩
end
def isNext (form : Nat) (k : FuncId) : Prop := (form = 0 ∧ k = 69) ∨ (form = 1 ∧ k = 88) ∨ (form = 2 ∧ k = 89)
theorem next_step {form : Nat} {k : FuncId} (h : isNext form k) (fu : Bool) (f : FilN) (m : MemN) (x : Nat) (F : Fil) (M : Mem) (X : O) (w : World) (hF : FvF f F) (hM : FvM m M) (hx : Hid (Fv .f32 x X)) :
    Calls Try.prog 74 #[setV f fu, .func (.func k) #[] #[], m.val, .float .f32 x] w (StepPost w (stepY form fu F M X) (stepM form fu F M X)) := by
  rw [stepM_raw]
  rcases h with ⟨rfl, rfl⟩ | ⟨rfl, rfl⟩ | ⟨rfl, rfl⟩
  · exact nextDir_any fu f m x F M X w hF hM hx
  · exact nextTur_any fu f m x F M X w hF hM hx
  · exact nextCan_any fu f m x F M X w hF hM hx
set_option maxHeartbeats 8000000 in
set_option maxRecDepth 100000 in
theorem implRun_any (form : Nat) (kk : FuncId) (hform : isNext form kk) (fu : Bool) (f : FilN) (m : MemN) (F : Fil) (M : Mem) (A : Option Addr) (n c g lo : Nat) (X : Nat → O) (w : World) (hF : FvF f F) (hM : FvM m M) (hA : 0 < n → A = some ⟨g, 0, none⟩ ∧ lo ≤ g ∧ Pr w g n 0 (filY form fu F M X) X) (hn : n ≤ 256) (hlo : lo ≤ w.heap.size) :
    Calls Try.prog 65 #[setV f fu, .func (.func kk) #[] #[], m.val, .slice A n c] w fun e w' => ∃ m' : MemN, e = .returned m'.val ∧ FvM m' (filM form fu F M X n) ∧ (0 < n → Pr w' g n n (filY form fu F M X) X) ∧ w.Since lo w' ∧ (∀ i, i < w.heap.size → i ≠ g → w'.heap[i]? = w.heap[i]?) := by
  have HT := Lib.hid fun (m : MemN) (M : Mem) (x : Nat) (X : O) (v : World) (hM : FvM m M) (hx : Hid (Fv .f32 x X)) => next_step hform fu f m x F M X v hF hM hx
  have HA := Lib.hid hA; clear hA
  obtain ⟨b0, b1, b2, a1, a2⟩ := f
  obtain ⟨ma, mb, mc, md⟩ := m
  unfold MemN.val at *
  unfold setV at *
  go_enter Try.func65, Try.ntmps65
  go_wp2_with fail
  generalize hW1 : World.alloc w _ = W1
  generalize hW2 : World.alloc W1 _ = W2
  generalize hW3 : World.alloc W2 _ = W3
  have z1 : W1.heap.size = w.heap.size + 1 := by rw [← hW1]; simp
  have z2 : W2.heap.size = w.heap.size + 1 + 1 := by rw [← hW2]; simp [z1]
  have z3 : W3.heap.size = w.heap.size + 1 + 1 + 1 := by rw [← hW3]; simp [z2]
  have b0 : W1.heap[w.heap.size]? = some (.cells #[.float .f32 b0, .float .f32 b1, .float .f32 b2, .float .f32 a1, .float .f32 a2, .bool fu] 95 (0, 0)) := by rw [← hW1]; exact Go.Deep.blk_alloc_new _ _
  have b1 : MemB 93 W2 (w.heap.size + 1) ⟨ma, mb, mc, md⟩ := by rw [← hW2, ← z1]; exact MemB.new _ _ _ _ _ _
  have b2 : MemB 93 W3 (w.heap.size + 1 + 1) ⟨0, 0, 0, 0⟩ := by rw [← hW3, ← z2]; exact MemB.new _ _ _ _ _ _
  have s1 : w.Since w.heap.size W1 := by rw [← hW1]; exact (World.Since.refl _ _).alloc (Nat.le_refl _) _
  have s2 : W1.Since W1.heap.size W2 := by rw [← hW2]; exact (World.Since.refl _ _).alloc (Nat.le_refl _) _
  have s3 : W2.Since W2.heap.size W3 := by rw [← hW3]; exact (World.Since.refl _ _).alloc (Nat.le_refl _) _
  have C0 := Lib.hid (((s3.block _ (by omega)).trans (s2.block _ (by omega))).trans b0)
  have B1 := Lib.hid (b1.since s3 (by omega))
  have B2 := Lib.hid b2
  have S3 : Hid (w.Since w.heap.size W3) := Lib.hid ((s1.trans (since_mono s2 (by omega))).trans (since_mono s3 (by omega)))
  clear hW1 hW2 hW3 s1 s2 s3 b0 b1 b2 z1 z2
  go_loopw [13] (fun i wr => ∃ (k : Nat) (q : MemN), k ≤ n ∧ i = .int .i64 (k : Int) ∧ (0 < n → Pr wr g n k (filY form fu F M X) X) ∧ wr.heap[w.heap.size]? = W3.heap[w.heap.size]? ∧ MemB 93 wr (w.heap.size + 1) q ∧ MemB 93 wr (w.heap.size + 1 + 1) ⟨0, 0, 0, 0⟩ ∧ FvM q (filM form fu F M X k) ∧ w.Since lo wr ∧ (∀ i, i < w.heap.size → i ≠ g → wr.heap[i]? = w.heap[i]?) ∧ w.heap.size + 1 + 1 + 1 ≤ wr.heap.size) (fun i _ => n - (intOf i).toNat)
  case atStart => exact ⟨0, _, Nat.zero_le _, rfl, fun h => (HA.out h).2.2.keep (S3.out.block _ (HA.out h).2.2.lt), rfl, B1.out, B2.out, hM, since_mono S3.out hlo, fun i hi _ => S3.out.block i hi, by omega⟩
  case round =>
    obtain ⟨k, q, hk, rfl, hp, hc0, hb1, hb2, hq, hs, ho, hz⟩ := hrel
    have HP := Lib.hid hp; have HC0 := Lib.hid (hc0.trans C0.out); have HC9 := Lib.hid hc0; have HB1 := Lib.hid hb1; have HB2 := Lib.hid hb2; have HQ := Lib.hid hq; have HS := Lib.hid hs; have HO := Lib.hid ho
    clear hp hc0 hb1 hb2 hq hs ho
    by_cases hlt : k < n
    · obtain ⟨rfl, hlg, hpw⟩ := HA.out (by omega)
      have hgw := hpw.lt
      have hpk := HP.out (by omega)
      obtain ⟨x, hcell, hx⟩ := hpk.cell hlt (Nat.le_refl _)
      have hfg := hpk.free k
      have hggr : g < wr.heap.size := by omega
      have HPK := Lib.hid hpk
      have m0 := HB1.out.c0; have m1 := HB1.out.c1; have m2 := HB1.out.c2; have m3 := HB1.out.c3
      have k0 : wr.cell? ⟨w.heap.size, 0, none⟩ = some (.float .f32 b0) := by have := HC0.out; simp [World.cell?, this]
      have k1 : wr.cell? ⟨w.heap.size, 1, none⟩ = some (.float .f32 b1) := by have := HC0.out; simp [World.cell?, this]
      have k2 : wr.cell? ⟨w.heap.size, 2, none⟩ = some (.float .f32 b2) := by have := HC0.out; simp [World.cell?, this]
      have k3 : wr.cell? ⟨w.heap.size, 3, none⟩ = some (.float .f32 a1) := by have := HC0.out; simp [World.cell?, this]
      have k4 : wr.cell? ⟨w.heap.size, 4, none⟩ = some (.float .f32 a2) := by have := HC0.out; simp [World.cell?, this]
      have k5 : wr.cell? ⟨w.heap.size, 5, none⟩ = some (.bool fu) := by have := HC0.out; simp [World.cell?, this]
      clear hpk hpw
      go_wp2_with fail
      refine (HT.out q _ x (X k) wr HQ.out hx).mono ?_
      rintro e w2 ⟨y, ⟨ra, rb, rc, rd⟩, rfl, hy, hm, hs⟩
      have HM2 := Lib.hid hm
      have hsz := hs.size
      have P2 := Lib.hid (HPK.out.keep (hs.block _ hggr))
      have E1 := Lib.hid (HB1.out.since hs (by omega))
      have E2 := Lib.hid (HB2.out.since hs (by omega))
      have E0 := Lib.hid ((hs.block w.heap.size (by omega)).trans HC9.out)
      have T2 := Lib.hid (HS.out.trans (since_mono hs (show lo ≤ wr.heap.size by omega)))
      have O2 : Hid (∀ i, i < w.heap.size → i ≠ g → w2.heap[i]? = w.heap[i]?) := Lib.hid fun i hi hn => (hs.block i (by omega)).trans (HO.out i hi hn)
      clear hs hm hcell hfg m0 m1 m2 m3 k0 k1 k2 k3 k4 k5
      obtain ⟨x', hcell, _⟩ := P2.out.cell hlt (Nat.le_refl _)
      have hfg := P2.out.free k
      have m0 := E1.out.c0; have m1 := E1.out.c1; have m2 := E1.out.c2; have m3 := E1.out.c3
      have l0 := E1.out.free 0; have l1 := E1.out.free 1; have l2 := E1.out.free 2; have l3 := E1.out.free 3
      have hne : ¬ g = w.heap.size + 1 := by omega
      have hne2 : ¬ w.heap.size + 1 = g := by omega
      simp only [MemN.val_mk]
      have P3 := Lib.hid (P2.out.put hlt hy)
      have OO : Hid (On (w.heap.size + 1) (w2.setCell ⟨g, k, none⟩ (.float .f32 y)) (((((w2.setCell ⟨g, k, none⟩ (.float .f32 y)).setCell ⟨w.heap.size + 1, 0, none⟩ (.float .f32 ra)).setCell ⟨w.heap.size + 1, 1, none⟩ (.float .f32 rb)).setCell ⟨w.heap.size + 1, 2, none⟩ (.float .f32 rc)).setCell ⟨w.heap.size + 1, 3, none⟩ (.float .f32 rd))) := Lib.hid (((((On.refl _ _).set _ _).set _ _).set _ _).set _ _)
      have NB := Lib.hid ((E1.out.of (w' := w2.setCell ⟨g, k, none⟩ (.float .f32 y)) (Go.Deep.blk_setCell_other _ _ _ _ hne2)).set ra rb rc rd)
      have oth : Hid (∀ i, i < w2.heap.size → i ≠ g → (w2.setCell ⟨g, k, none⟩ (.float .f32 y)).heap[i]? = w2.heap[i]?) := Lib.hid fun i _ hn => Go.Deep.blk_setCell_other _ _ _ _ hn
      have hsz3 : (w2.setCell ⟨g, k, none⟩ (.float .f32 y)).heap.size = w2.heap.size := Go.Deep.nblk_setCell _ _ _
      go_wp2_with fail
      go_roundw
      case rel => exact ⟨k + 1, ⟨ra, rb, rc, rd⟩, by omega, by go_num, fun _ => P3.out.keep (OO.out.2 _ (by omega) hne), (OO.out.2 _ (by omega) (by omega)).trans ((oth.out _ (by omega) (by omega)).trans E0.out), NB.out, E2.out.of ((OO.out.2 _ (by omega) (by omega)).trans (oth.out _ (by omega) (by omega))), HM2.out, (T2.out.setCell hlg _).trans (since_mono OO.out.1 (by omega)), fun i hi hn => (OO.out.2 _ (by omega) (by omega)).trans ((oth.out _ (by omega) hn).trans (O2.out i hi hn)), by have := OO.out.1.size; omega⟩
      case measure => simp [intOf]; omega
    · obtain rfl : k = n := by omega
      have m0 := HB1.out.c0; have m1 := HB1.out.c1; have m2 := HB1.out.c2; have m3 := HB1.out.c3
      have n0 := HB2.out.c0; have n1 := HB2.out.c1; have n2 := HB2.out.c2; have n3 := HB2.out.c3
      have f0 := HB2.out.free 0; have f1 := HB2.out.free 1; have f2 := HB2.out.free 2; have f3 := HB2.out.free 3
      have OO : Hid (On (w.heap.size + 1 + 1) wr (((((wr.setCell ⟨w.heap.size + 1 + 1, 0, none⟩ (.float .f32 q.a)).setCell ⟨w.heap.size + 1 + 1, 1, none⟩ (.float .f32 q.b)).setCell ⟨w.heap.size + 1 + 1, 2, none⟩ (.float .f32 q.c)).setCell ⟨w.heap.size + 1 + 1, 3, none⟩ (.float .f32 q.d)))) := Lib.hid (((((On.refl _ _).set _ _).set _ _).set _ _).set _ _)
      have NB := Lib.hid (HB2.out.set q.a q.b q.c q.d)
      go_wp2_with fail
      generalize hV : World.setCell _ _ _ = V at *
      have g0 := NB.out.c0; have g1 := NB.out.c1; have g2 := NB.out.c2; have g3 := NB.out.c3
      exact bodyPost_ret (v := .agg #[.float .f32 q.a, .float .f32 q.b, .float .f32 q.c, .float .f32 q.d]) (by simp [results, Try.results65, go_sem, g0, g1, g2, g3]) rfl
        ⟨q, rfl, HQ.out, fun h => (HP.out h).keep (OO.out.2 _ (HP.out h).lt (by have := (HA.out h).2.2.lt; omega)), HS.out.trans (since_mono OO.out.1 (by omega)), fun i hi hn => (OO.out.2 _ (by omega) (by omega)).trans (HO.out i hi hn)⟩
end Go.Proofs.Ytebocaicebolaaa
