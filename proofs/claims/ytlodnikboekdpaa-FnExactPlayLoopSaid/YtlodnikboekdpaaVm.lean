/- Voices: PlayLoop, the program's. -/
import Derived.Test.YtlodnikboekdpaaVl
set_option linter.unusedVariables false
set_option linter.unusedSimpArgs false
namespace Go.Proofs.Ytlodnikboekdpaa
open Fl Go.RowKit
theorem loopIn (gE gS F E L : Nat) (i : Int) (p : Nat) (W : World) (hi : i = (p : Int)) (hE : E = F + L) (hL : 0 < L) (hp : p ≤ 200000000) (hF : F ≤ 20000000) (hLL : L ≤ 20000000) (c0 : W.cell? ⟨gE, 0, none⟩ = some (.int .i64 (E : Int))) (c1 : W.cell? ⟨gS, 0, none⟩ = some (.int .i64 (F : Int))) :
    Calls Try.prog 97 (#[.int .i64 i] ++ #[.pointer (some ⟨gE, 0, none⟩), .pointer (some ⟨gS, 0, none⟩)]) W fun e W' => e = .returned (.int .i64 ((backN F L p : Nat) : Int)) ∧ ∃ m, W.drewN m = W' := by
  subst hi
  show Calls Try.prog 97 #[.int .i64 (p : Int), .pointer (some ⟨gE, 0, none⟩), .pointer (some ⟨gS, 0, none⟩)] W _
  by_cases h : p < E
  · have hb : backN F L p = p := backN_in (by omega)
    rw [hb]
    go_enter Try.func97, Try.ntmps97
    go_wp2
    go_ret
    exact ⟨rfl, 0, rfl⟩
  · have hb : backN F L p = F + (p - F) % L := by unfold backN; rw [if_neg (by omega)]
    have e0 : (E : Int) - (F : Int) = (L : Int) := by omega
    have e1 : (p : Int) - (F : Int) = ((p - F : Nat) : Int) := by omega
    have e2 : (((p - F : Nat) : Int).tmod (L : Int)) = (((p - F) % L : Nat) : Int) := by rw [Int.tmod_eq_emod_of_nonneg (by omega)]; rfl
    have h3 : ((p - F) % L) < L := Nat.mod_lt _ hL
    rw [hb]
    obtain ⟨q, hq⟩ : ∃ q, (p - F) % L = q := ⟨_, rfl⟩
    obtain ⟨t, ht⟩ : ∃ t, p - F = t := ⟨_, rfl⟩
    rw [hq] at e2 h3 ⊢
    rw [ht] at e1 e2
    clear hb hq ht hE
    go_enter Try.func97, Try.ntmps97
    go_wp2_with fail
    refine Lo.wp_loose_all [] (by kernel_rfl) (by kernel_rfl) ?_
    repeat (first
      | (refine Lo.wpL_move rfl _ (.inl rfl) (by decide) ?_; simp only [Act.put, List.setIfInBounds_toArray, List.set_cons_succ, List.set_cons_zero])
      | (refine Lo.wpL_move rfl _ (.inr rfl) (by decide) ?_; simp only [Act.put, List.setIfInBounds_toArray, List.set_cons_succ, List.set_cons_zero])
      | (refine Lo.wpL_fop rfl _ _ _ _ rfl rfl (by decide) _ _ _ _ _ rfl rfl (by assumption) (by assumption) ?_; intro rr hrr; simp only [Act.put, List.setIfInBounds_toArray, List.set_cons_succ, List.set_cons_zero])
      | (refine Lo.wpL_wide rfl _ _ _ rfl (by decide) _ _ rfl (by kernel_rfl) (by kernel_rfl) (by assumption) ?_; intro rr hrr; simp only [Act.put, List.setIfInBounds_toArray, List.set_cons_succ, List.set_cons_zero])
      | (refine Lo.wpL_quiet rfl (by decide) (fun K hK => ?_); go_big_quiet_op; (refine hK _ ?_; clear hK K)))
    refine Lo.wpL_nil ?_
    refine Lo.after_nil ?_; intro nq
    go_wp2
    go_ret
    exact ⟨by push_cast; rfl, _, rfl⟩
theorem loopAt (A : Option Addr) (n cc g0 g1 g2 : Nat) (xs : List Nat) (fi be : Nat) (i : Int) (q : Nat) (W : World) (hi : i = (q : Int)) (hA : Fs W W.heap.size A n xs) (hbe : be ≤ n) (hfi : fi < be) (hq : q ≤ be) (hn : n ≤ 256)
    (c0 : W.cell? ⟨g0, 0, none⟩ = some (.int .i64 (be : Int))) (c1 : W.cell? ⟨g1, 0, none⟩ = some (.slice A n cc)) (c2 : W.cell? ⟨g2, 0, none⟩ = some (.int .i64 (fi : Int))) :
    Calls Try.prog 98 (#[.int .i64 i] ++ #[.pointer (some ⟨g0, 0, none⟩), .pointer (some ⟨g1, 0, none⟩), .pointer (some ⟨g2, 0, none⟩)]) W fun e W' => ∃ r, e = .returned (.float .f32 r) ∧ Hid (Fv .f32 r (lpS be fi (fun k => ab .f32 (wd xs k)) q)) ∧ W = W' := by
  subst hi
  show Calls Try.prog 98 #[.int .i64 (q : Int), .pointer (some ⟨g0, 0, none⟩), .pointer (some ⟨g1, 0, none⟩), .pointer (some ⟨g2, 0, none⟩)] W _
  obtain ⟨gg, off, rfl, hg, hcc⟩ := hA.2.2 (by omega)
  unfold lpS
  by_cases h : q = be
  · rw [if_pos h]
    have hcell := hcc fi (by omega)
    have hx : Hid (Fv .f32 (wd xs fi) (ab .f32 (wd xs fi))) := Lib.hid ⟨hA.2.1.at_ fi, rfl⟩
    clear hcc hA
    subst h
    go_enter Try.func98, Try.ntmps98
    go_wp2
    go_ret
    exact ⟨_, rfl, hx, rfl⟩
  · rw [if_neg h]
    have hcell := hcc q (by omega)
    have hx : Hid (Fv .f32 (wd xs q) (ab .f32 (wd xs q))) := Lib.hid ⟨hA.2.1.at_ q, rfl⟩
    have hne : ¬ (q : Int) = (be : Int) := by omega
    clear hcc hA
    go_enter Try.func98, Try.ntmps98
    go_wp2
    go_ret
    exact ⟨_, rfl, hx, rfl⟩
set_option maxHeartbeats 8000000 in
set_option maxRecDepth 100000 in
theorem implLoop_ok (A : Option Addr) (n cc : Nat) (xs : List Nat) (fi be f s c F L : Nat) (w : World) (hA : Fs w w.heap.size A n xs) (h : okPlay n f s c = true) (h1 : inB be 1 n = true) (h2 : inB fi 0 ((be : Int) - 1) = true) (hF : F = 65536 * fi) (hL : L = 65536 * (be - fi)) :
    Calls Try.prog 54 #[.slice A n cc, .int .i64 fi, .int .i64 be, .int .i64 f, .int .i64 s, .int .i64 c] w (PLIB c (plY (lpS be fi (fun k => ab .f32 (wd xs k))) (plc (backN F L) f s)) (plc (backN F L) f s c : Nat) true w) := by
  have hb := h
  simp only [okPlay, inB, Bool.and_eq_true, decide_eq_true_eq] at hb h1 h2
  have hL0 : 0 < L := by omega
  have hE : ∃ E, E = F + L ∧ E = 65536 * be := ⟨F + L, rfl, by omega⟩
  obtain ⟨E, hE1, hE2⟩ := hE
  have hEi : (be : Int) * 65536 = (E : Int) := by omega
  have hFi : (fi : Int) * 65536 = (F : Int) := by omega
  have HA := Lib.hid hA
  clear hA
  obtain ⟨W, hW⟩ : ∃ W, W = ((w.alloc (.cells #[.slice A n cc] 34)).alloc (.cells #[.int .i64 fi] 2)).alloc (.cells #[.int .i64 be] 2) := ⟨_, rfl⟩
  have S0 : Hid (w.Since w.heap.size W) := Lib.hid (by rw [hW]; exact (((World.Since.refl _ _).alloc (Nat.le_refl _) _).alloc (by simp) _).alloc (by simp; omega) _)
  have z0 : w.heap.size + 1 + 1 < W.heap.size := by rw [hW]; simp
  have C0 : Hid (W.cell? ⟨w.heap.size, 0, none⟩ = some (.slice A n cc)) := Lib.hid (by rw [hW]; simp [go_sem])
  have C1 : Hid (W.cell? ⟨w.heap.size + 1, 0, none⟩ = some (.int .i64 fi)) := Lib.hid (by rw [hW]; simp [go_sem])
  have C2 : Hid (W.cell? ⟨w.heap.size + 1 + 1, 0, none⟩ = some (.int .i64 be)) := Lib.hid (by rw [hW]; simp [go_sem])
  have c0 := C0.out; have c1 := C1.out; have c2 := C2.out
  have HE2 := Lib.hid hE2; have HF := Lib.hid hF; have HL := Lib.hid hL
  clear hE2 hF hL
  go_enter Try.func54, Try.ntmps54
  go_wp2_with fail
  rw [← hW]; clear hW c0 c1 c2
  go_at_call 92
  refine (isPlay_b _ _ _ _ _ _ _ _ h).mono ?_
  rintro e w1 ⟨rfl, hs1⟩
  have z1 := hs1.size
  have y0 : w.heap.size < w1.heap.size := by omega
  have y1 : w.heap.size + 1 < w1.heap.size := by omega
  have y2 : w.heap.size + 1 + 1 < w1.heap.size := by omega
  have d0 := (hs1.cell (a := ⟨w.heap.size, 0, none⟩) (show w.heap.size < W.heap.size by omega)).trans C0.out
  have d1 := (hs1.cell (a := ⟨w.heap.size + 1, 0, none⟩) (show w.heap.size + 1 < W.heap.size by omega)).trans C1.out
  have d2 := (hs1.cell (a := ⟨w.heap.size + 1 + 1, 0, none⟩) z0).trans C2.out
  have HS1 := Lib.hid hs1; clear hs1
  have HP : Hid (∀ (w5 : World) (gE gS : Nat), w1.Since w1.heap.size w5 → gE < w5.heap.size → gS < w5.heap.size → w5.cell? ⟨gE, 0, none⟩ = some (.int .i64 (E : Int)) → w5.cell? ⟨gS, 0, none⟩ = some (.int .i64 (F : Int)) → _) := Lib.hid (fun w5 gE gS s5 hgE hgS hcE hcS =>
    play_any 97 98 #[.pointer (some ⟨gE, 0, none⟩), .pointer (some ⟨gS, 0, none⟩)] #[.pointer (some ⟨w.heap.size + 1 + 1, 0, none⟩), .pointer (some ⟨w.heap.size, 0, none⟩), .pointer (some ⟨w.heap.size + 1, 0, none⟩)] (backN F L) (lpS be fi (fun k => ab .f32 (wd xs k))) f s c w5 (by omega) (by omega) (by omega) (fun _ _ => rfl) (fun _ _ => rfl)
      (fun k _ => by have := plc_loop (F := F) (L := L) (f := f) (s := s) (k := k) hL0; have := HE2.out; omega)
      (fun i p W' hp hi hs' => loopIn gE gS F E L i p W' hi hE1 hL0 hp (by have := HE2.out; omega) (by have := HE2.out; omega) ((hs'.cell (a := ⟨gE, 0, none⟩) hgE).trans hcE) ((hs'.cell (a := ⟨gS, 0, none⟩) hgS).trans hcS))
      (fun k i q W' hk hq hi hs' => by
        have hlt := plc_loop (F := F) (L := L) (f := f) (s := s) (k := k) hL0
        have hE3 := HE2.out
        have hS := since_step s5 hs'
        have hS2 := since_step HS1.out hS
        exact loopAt A n cc _ _ _ xs fi be i q W' hi (HA.out.now (S0.out.trans (since_mono hS2 (show w.heap.size ≤ W.heap.size by omega)))) (by omega) (by omega) (by omega) (by omega) ((hS.cell (a := ⟨w.heap.size + 1 + 1, 0, none⟩) y2).trans d2) ((hS.cell (a := ⟨w.heap.size, 0, none⟩) y0).trans d0) ((hS.cell (a := ⟨w.heap.size + 1, 0, none⟩) y1).trans d1)))
  have E9 : Hid (∀ o o' : Obj, ((w1.alloc o).alloc o').drew.heap.size = w1.heap.size + 1 + 1) := Lib.hid (fun _ _ => by simp)
  clear hE1 hL0
  go_wp2_with fail
  go_region
  all_goals
    go_wp2_with fail
    refine (HP.out _ _ _ (by (repeat (first | (with_reducible refine Fl.sinDrew ?_) | (with_reducible refine World.Since.drew ?_) | (with_reducible refine Fl.sinSet ?_ ?_; rotate_left) | (with_reducible refine Fl.sinAlloc ?_ ?_; rotate_left) | with_reducible exact World.Since.refl _ _ | with_reducible assumption | (with_reducible refine Fl.sinStep (by with_reducible assumption) ?_))); all_goals (first | omega | (simp; done) | (simp; omega) | (simp [go_sem]; done) | (simp [go_sem]; omega))) (by (first | (simp; done) | (simp; omega))) (by (first | (simp; done) | (simp; omega))) (by simp [go_sem]) (by simp [go_sem])).mono ?_
    rintro e w2 ⟨ys, rfl, hg, ha, hs2⟩
    rw [E9.out] at hg
    have HG := Lib.hid hg; have HAA := Lib.hid ha; have HS2 := Lib.hid hs2; clear hg ha hs2
    go_wp2
    go_ret3
    exact ⟨⟨some ⟨_, 0, none⟩, c, ys⟩, c, rfl, rfl, HG.out.less (by omega), HAA.out, S0.out.trans (since_mono (since_step HS1.out (since_step (by (repeat (first | (with_reducible refine Fl.sinDrew ?_) | (with_reducible refine World.Since.drew ?_) | (with_reducible refine Fl.sinSet ?_ ?_; rotate_left) | (with_reducible refine Fl.sinAlloc ?_ ?_; rotate_left) | with_reducible exact World.Since.refl _ _ | with_reducible assumption | (with_reducible refine Fl.sinStep (by with_reducible assumption) ?_))); all_goals (first | omega | (simp; done) | (simp; omega) | (simp [go_sem]; done) | (simp [go_sem]; omega))) HS2.out)) (show w.heap.size ≤ W.heap.size by omega))⟩
end Go.Proofs.Ytlodnikboekdpaa
