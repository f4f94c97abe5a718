/- Folds behind zeros, of both. -/
import Derived.Test.YtdibobheggffnaaTd
set_option linter.unusedVariables false
set_option linter.unusedSimpArgs false
namespace Go.Proofs.Ytdibobheggffnaa
open Fl Go.RowKit
theorem fsum_congr {T Z Y : Nat → O} {p N : Nat} (hp : p < N) (h : ∀ j, j < N → Z j = Y j) : ∀ k, fsum T Z p k = fsum T Y p k
  | 0 => rfl
  | k + 1 => by
    show opO _ _ _ _ = opO _ _ _ _
    rw [fsum_congr hp h k, h (p - k) (by omega)]
theorem foldF_congr {T Z Y : Nat → O} {l t n : Nat} (h : ∀ j, j < l + n → Z j = Y j) {i : Nat} (hi : i < n) : foldF T Z l t i = foldF T Y l t i := fsum_congr (N := l + n) (by omega) h t
/-- zeros, and then these -/
def zth (F : Nat → O) (l j : Nat) : O := if j < l then some 0 else F (j - l)
theorem apO_zeros {xs : List Nat} {F : Nat → O} {l n : Nat} (h : ∀ j, j < n → ab .f32 (wd xs j) = F j) : ∀ j, j < l + n → apO (List.replicate l 0) xs l j = zth F l j := fun j hj => by
  unfold apO zth
  by_cases e : j < l
  · rw [if_pos e, if_pos e]
    unfold wd
    simp only [List.getD_eq_getElem?_getD, List.getElem?_replicate, e, if_true, Option.getD_some]
    exact ab0
  · rw [if_neg e, if_neg e]; exact h _ (by omega)
theorem zeros_fs (w : World) (l : Nat) : Fs (w.alloc (.cells (madeCells #[.float .f32 0] l) 46)) (w.heap.size + 1) (some ⟨w.heap.size, 0, none⟩) l (List.replicate l 0) :=
  ⟨by simp, fun x hx => by rw [(List.mem_replicate.1 hx).2]; decide, fun hl => ⟨w.heap.size, 0, rfl, by omega, fun k hk => by
    obtain ⟨cs, hb, _, hc⟩ := World.rowIs_made w (.float .f32 0) l 46
    have := hc k hk
    simp only [World.cell?, hb, Nat.zero_add]
    rw [show cs[k]? = some (.float .f32 0) from this]
    unfold fv wd
    simp [List.getD_eq_getElem?_getD, hk]⟩⟩
set_option maxHeartbeats 4000000 in
set_option maxRecDepth 100000 in
theorem implZeros_ok (A : Option Addr) (t c n c2 : Nat) (a2 : Addr) (ts xs : List Nat) (F : Nat → O) (w : World) (hA : Fs w w.heap.size A t ts) (hA2 : Fs w w.heap.size (some a2) n xs) (hx : ∀ j, j < n → ab .f32 (wd xs j) = F j) (ht : 1 ≤ t) (ht2 : t ≤ 32) (hn : n ≤ 256) :
    Calls Try.prog 83 #[.slice A t c, .slice (some a2) n c2] w (PEB n (foldF (fun k => ab .f32 (wd ts k)) (zth F (t - 1)) (t - 1) t) true w) := by
  have htb : inB (t : Int) 1 32 = true := by simp [inB]; omega
  obtain ⟨l, hl⟩ : ∃ l, l = t - 1 := ⟨_, rfl⟩
  have el : (t : Int) - 1 = (l : Nat) := by omega
  have hmk := fun W => run_make_row' (P := Try.prog) 22 46 (.float .f32 0) 4 Try.underlying22 Try.infoF rfl .i64 .i64 l (by omega) (by omega) W
  obtain ⟨W, hW⟩ : ∃ W, W = w.alloc (.cells (madeCells #[.float .f32 0] l) 46) := ⟨_, rfl⟩
  have S0 : Hid (w.Since w.heap.size W) := Lib.hid (by rw [hW]; exact (World.Since.refl _ _).alloc (Nat.le_refl _) _)
  have zW : W.heap.size = w.heap.size + 1 := by rw [hW]; simp
  have HZ := Lib.hid (show Fs W W.heap.size (some ⟨w.heap.size, 0, none⟩) l (List.replicate l 0) by rw [zW, hW]; exact zeros_fs w l)
  have HF := Lib.hid (implFold_ok A t c l n l c2 ⟨w.heap.size, 0, none⟩ a2 ts (List.replicate l 0) xs W (hA.now S0.out) HZ.out (hA2.now S0.out) (by omega) ht2 hn)
  have HL := Lib.hid hl
  have HX := Lib.hid (apO_zeros (l := l) hx)
  rw [← hl]
  have hl3 : l ≤ 31 := by omega
  clear hA hA2 hx hl zW
  go_enter Try.func83, Try.ntmps83
  go_wp2_with (first | (go_at_call 59; refine (implTaps_b _ _ _ _ _ htb).mono ?_; rintro e w' ⟨rfl, rfl⟩) | (go_at_call 24; rw [← hW]; refine HF.out.mono ?_; rintro e w1 ⟨p, q, cp, cq, rfl, h1, h2, h3, h4, h5, h6, h7, h8⟩; have H1 := Lib.hid h1; have H3 := Lib.hid h3; have H5 := Lib.hid h5; have H8 := Lib.hid h8; clear h1 h2 h3 h4 h5 h6 h7 h8))
  go_ret2
  exact ⟨p, cp, rfl, H1.out, H3.out.less S0.out.size, fun i hi => by rw [H5.out i hi]; exact foldF_congr HX.out (by rw [H1.out] at hi; exact hi), S0.out.trans (since_mono H8.out S0.out.size)⟩
def PLn (n0 : Nat) (f0 : Nat → O) (w : World) (e : Ending) (w' : World) : Prop :=
  ∃ (A : Option Addr) (c : Nat) (xs : List Nat), e = .returned (.slice A n0 c) ∧ Hid (A = none → n0 = 0 ∧ c = 0) ∧ Hid (Gs 46 w' w.heap.size A n0 xs) ∧ Hid (Are ⟨A, n0, xs⟩ f0) ∧ Hid (w.Since w.heap.size w')
def PLs (n0 : Nat) (f0 : Nat → O) (w : World) (e : Ending) (w' : World) : Prop :=
  ∃ (b : Nat) (xs : List Nat), e = .returned (.tuple #[.slice (some ⟨b, 0, none⟩) n0 n0, .bool true]) ∧ Hid (Gs 46 w' w.heap.size (some ⟨b, 0, none⟩) n0 xs) ∧ Hid (Are ⟨some ⟨b, 0, none⟩, n0, xs⟩ f0) ∧ Hid (w.Since w.heap.size w')
set_option maxHeartbeats 4000000 in
set_option maxRecDepth 100000 in
theorem specSpreadN_any (A : Option Addr) (n c f : Nat) (xs : List Nat) (w : World) (hA : Fs w w.heap.size A n xs) (hn : n ≤ 256) (hf : 1 ≤ f) (hf2 : f ≤ 8) (hfn : n * f ≤ 256) :
    Calls Try.prog 50 #[.int .i64 f, .slice A n c] w (PLn (n * f) (sprF xs f) w) := by
  have HA := Lib.hid hA
  clear hA
  go_enter Try.func50, Try.ntmps50
  go_wp2
  go_loopw [5, 6] (fun v i wr => ∃ k : Nat, k ≤ n ∧ i = .int .i64 k ∧ Rw w.heap.size wr v (k * f) (sprF xs f) ∧ w.Since w.heap.size wr) (fun _ i _ => n - (intOf i).toNat)
  case atStart => exact ⟨0, Nat.zero_le _, rfl, by rw [Nat.zero_mul]; exact Rw.start w _ (Nat.le_refl _) _, (World.Since.refl _ _).alloc (Nat.le_refl _) _⟩
  case round =>
    obtain ⟨k, hk, rfl, hr, hs⟩ := hrel
    have HR := Lib.hid hr; have HS := Lib.hid hs
    clear hr hs
    by_cases hlt : k < n
    · obtain ⟨g, off, rfl, hg, hc⟩ := HA.out.2.2 (by omega)
      have hcell : wr.cell? ⟨g, off + k, none⟩ = some (.float .f32 (wd xs k)) := (HS.out.cell (a := ⟨g, off + k, none⟩) hg).trans (hc k hlt)
      have hx : Hid (Fv .f32 (wd xs k) (sprF xs f (k * f))) := Lib.hid ⟨HA.out.2.1.at_ _, (spr_hd xs k hf).symm⟩
      have hsz := HS.out.size
      have hm : (k + 1) * f ≤ n * f := Nat.mul_le_mul_right f hlt
      have eN : (k + 1) * f = k * f + f := Nat.succ_mul k f
      have hz : ∀ r, 0 < r → r < f → Hid (Fv .f32 0 (sprF xs f (k * f + r))) := fun r h1 h2 => by rw [spr_tl xs k h1 h2]; exact fv0
      have HZ := Lib.hid hz
      clear hc hz
      go_wp2_with (first | (at_builtin; refine wpList_app1 rfl (.tmp 15) (.tmp 20) rfl w.heap.size _ (k * f) _ rfl _ _ rfl (by simp [go_sem]) (by omega) (by simp; omega) hx (HR.out.alloc _) ?_; intro v' w3 hR3 hS3))
      have S3 : Hid (w.Since w.heap.size w3) := Lib.hid (HS.out.trans (((World.Since.refl _ _).alloc hsz _).trans hS3.out))
      obtain ⟨wo, rfl⟩ : ∃ wo : World, wo = wr := ⟨_, rfl⟩
      clear HR hcell hx hsz hS3 HS
      generalize hp : k * f = p at *
      go_loopw [5, 7] (fun v i wr => ∃ r : Nat, 1 ≤ r ∧ r ≤ f ∧ i = .int .i64 r ∧ Rw w.heap.size wr v (p + r) (sprF xs f) ∧ w.Since w.heap.size wr) (fun _ i _ => f - (intOf i).toNat)
      case atStart => exact ⟨1, Nat.le_refl _, hf, rfl, hR3.out, S3.out⟩
      case round =>
        obtain ⟨r, hr1, hr2, rfl, hr, hs⟩ := hrel
        have HR := Lib.hid hr; have HS := Lib.hid hs
        have hsz := HS.out.size
        clear hr hs
        by_cases hlt2 : r < f
        · have hx := HZ.out r (by omega) hlt2
          go_wp2_with (first | (at_builtin; refine wpList_app1 rfl (.tmp 27) (.tmp 28) rfl w.heap.size _ (p + r) _ rfl _ _ rfl (by simp [go_sem]) (by omega) (by simp; omega) hx (HR.out.alloc _) ?_; intro v' w4 hR4 hS4))
          go_roundw
          case rel => exact ⟨r + 1, by omega, by omega, by go_num, by rw [← Nat.add_assoc]; exact hR4.out, HS.out.trans (((World.Since.refl _ _).alloc hsz _).trans hS4.out)⟩
          case measure => simp [intOf]; omega
        · obtain rfl : r = f := by omega
          go_wp2
          go_roundw
          case rel => exact ⟨k + 1, by omega, by go_num, by rw [eN]; exact HR.out, HS.out⟩
          case measure => simp [intOf]; omega
    · obtain rfl : k = n := by omega
      obtain ⟨A5, c5, xs5, rfl, _, hno, _, hg, ha⟩ := HR.out.end_
      have HNO := Lib.hid hno; have HG := Lib.hid hg; have HAA := Lib.hid ha; clear hg ha hno
      go_wp2
      go_ret
      exact ⟨A5, c5, xs5, rfl, HNO, HG, HAA, HS⟩
set_option maxHeartbeats 4000000 in
set_option maxRecDepth 100000 in
theorem implSpreadS_ok (A : Option Addr) (n c f : Nat) (xs : List Nat) (w : World) (hA : Fs w w.heap.size A n xs) (hn : n ≤ 256) (hf : 1 ≤ f) (hf2 : f ≤ 8) (hfn : f * n ≤ 256) :
    Calls Try.prog 17 #[.int .i64 f, .slice A n c] w (PLs (n * f) (sprF xs f) w) := by
  have HA := Lib.hid hA
  have h1 : inB (f : Int) 1 8 = true := inB_tt (by omega) (by omega)
  have hfn' : n * f ≤ 256 := by rw [Nat.mul_comm]; exact hfn
  obtain ⟨m, hm⟩ : ∃ m : Nat, m = n * f := ⟨_, rfl⟩
  have HM : (f : Int) * (n : Int) = (m : Int) := by rw [hm, Int.mul_comm]; exact (Int.natCast_mul n f).symm
  have hm3 : inB (m : Int) 0 256 = true := inB_tt (by omega) (by omega)
  have HMM := Lib.hid hm
  have hm2 : m ≤ 256 := by omega
  have hmk := fun W => run_make_row' (P := Try.prog) 22 46 (.float .f32 0) 4 Try.underlying22 Try.infoF rfl .i64 .i64 m (by omega) (by omega) W
  clear hA hm
  go_enter Try.func17, Try.ntmps17
  go_wp2_with (first | (go_at_call 51; refine (implFactor_b f true _ h1).mono ?_; rintro e w1 ⟨rfl, hs1⟩; have HS1 := Lib.hid hs1; clear hs1) | (go_at_call 52; refine (implCount_b m true _ hm3).mono ?_; rintro e w2 ⟨rfl, hs2⟩; have HS2 := Lib.hid hs2; clear hs2))
  have S2 : Hid (w.Since w.heap.size w2) := Lib.hid (since_step HS1.out HS2.out)
  have z2 := S2.out.size
  clear HS1 HS2
  go_loopw [27] (fun i wr => ∃ k : Nat, k ≤ n ∧ i = .int .i64 k ∧ GCells wr w2.heap.size m (sprV xs f k) ∧ w2.Since w2.heap.size wr) (fun i _ => n - (intOf i).toNat)
  case atStart =>
    obtain ⟨cs, hb, _, hc2⟩ := (World.rowIs_made w2 (.float .f32 0) m 46)
    exact ⟨0, Nat.zero_le _, rfl, ⟨cs, hb, fun j hj => by rw [hc2 j hj]; unfold sprV; rw [if_neg (fun h => Nat.not_lt_zero _ h.2)]⟩, (World.Since.refl _ _).alloc (Nat.le_refl _) _⟩
  case round =>
    obtain ⟨k, hk, rfl, hcs, hon⟩ := hrel
    have HC := Lib.hid hcs; have HON := Lib.hid hon
    have hsz : w2.heap.size < wr.heap.size := hcs.lt
    clear hcs hon
    by_cases hlt : k < n
    · obtain ⟨g, off, rfl, hg, hc⟩ := HA.out.2.2 (by omega)
      have hcell : wr.cell? ⟨g, off + k, none⟩ = some (.float .f32 (wd xs k)) := ((HON.out.cell (a := ⟨g, off + k, none⟩) (by show g < _; omega)).trans (S2.out.cell (a := ⟨g, off + k, none⟩) hg)).trans (hc k hlt)
      obtain ⟨q, hq⟩ : ∃ q : Nat, q = k * f := ⟨_, rfl⟩
      have HQ : (f : Int) * (k : Int) = (q : Int) := by rw [hq, Int.mul_comm]; exact (Int.natCast_mul k f).symm
      have hql : q < m := by
        have : (k + 1) * f ≤ n * f := Nat.mul_le_mul_right f hlt
        rw [Nat.succ_mul] at this
        have := HMM.out
        omega
      have hcq : wr.cell? ⟨w2.heap.size, q, none⟩ = some (sprV xs f k q) := HC.out.cell hql
      have hfq : wr.frozen? ⟨w2.heap.size, q, none⟩ = false := HC.out.free _
      have HQQ := Lib.hid hq
      clear hc hq
      go_wp2
      go_roundw
      case rel =>
        refine ⟨k + 1, by omega, by go_num, (HC.out.set q _).congr (fun j hj => ?_), HON.out.setCell (Nat.le_refl _) _⟩
        unfold sprV
        by_cases e : j = q
        · subst e
          rw [if_pos rfl, HQQ.out, Nat.mul_mod_left, Nat.mul_div_cancel _ hf, if_pos ⟨rfl, by omega⟩]
        · rw [if_neg e]
          by_cases e2 : j % f = 0 ∧ j / f < k
          · rw [if_pos e2, if_pos ⟨e2.1, by omega⟩]
          · rw [if_neg e2, if_neg (fun h3 => ?_)]
            refine e2 ⟨h3.1, ?_⟩
            have h4 : j / f ≠ k := fun h5 => e (by
              have := Nat.div_add_mod j f
              rw [h3.1, h5] at this
              rw [HQQ.out, Nat.mul_comm]; omega)
            omega
      case measure => simp [intOf]; omega
    · obtain rfl : k = n := by omega
      go_wp2
      go_ret2
      obtain ⟨cs, hb, hc⟩ := HC.out
      have hw : ∀ j, j < m → (if j % f = 0 ∧ j / f < k then wd xs (j / f) else 0) = sprW xs f j := fun j hj => by
        unfold sprW
        by_cases e : j % f = 0
        · rw [if_pos e, if_pos ⟨e, (Nat.div_lt_iff_lt_mul hf).2 (by have := HMM.out; omega)⟩]
        · rw [if_neg e, if_neg (fun h => e h.1)]
      have E := HMM.out
      subst E
      refine ⟨w2.heap.size, lst (k * f) (sprW xs f), rfl, Lib.hid ⟨lst_len _ _, fun y hy => ?_, fun _ => ⟨_, cs, rfl, z2, hb, fun j hj => ?_⟩⟩, Lib.hid (fun j hj => ?_), Lib.hid (S2.out.trans (since_mono HON.out z2))⟩
      · obtain ⟨i, hi, rfl⟩ := List.mem_map.1 hy
        unfold sprW
        split
        · exact HA.out.2.1.at_ _
        · decide
      · rw [hc j hj]; unfold sprV fv; rw [hw j hj, lst_wd hj]
      · show ab .f32 (wd (lst (k * f) (sprW xs f)) j) = _
        rw [lst_wd hj]
        unfold sprW sprF
        split
        · rfl
        · exact ab0
end Go.Proofs.Ytdibobheggffnaa
