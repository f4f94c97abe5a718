/- What a step makes of all samples; lines of one kind. -/
import Derived.Test.YtflpackchlpedaaDi
set_option linter.unusedVariables false
set_option linter.unusedSimpArgs false
namespace Go.Proofs.Ytflpackchlpedaa
open Fl Go.RowKit
/-- words as a list -/
def lst (n : Nat) (r : Nat → Nat) : List Nat := (List.range n).map r
theorem lst_wd {n : Nat} {r : Nat → Nat} {i : Nat} (h : i < n) : wd (lst n r) i = r i := by unfold lst wd; simp [h]
theorem lst_len (n : Nat) (r : Nat → Nat) : (lst n r).length = n := by simp [lst]
theorem On.setNew {g p o : Nat} {a b : World} {v : Value} (h : On g a b) (hp : a.heap.size ≤ p) (hg : g ≤ p) : On g a (b.setCell ⟨p, o, none⟩ v) :=
  ⟨h.1.setCell hg v, fun i hi hn => by rw [Go.Deep.blk_setCell_other _ _ _ _ (show i ≠ p by omega)]; exact h.2 i hi hn⟩
theorem GCells.on {w w' : World} {g b n : Nat} {f : Nat → Value} (h : GCells w g n f) (o : On b w w') (hn : g ≠ b) : GCells w' g n f := by
  have hl := h.lt
  obtain ⟨cs, hb, hc⟩ := h
  exact ⟨cs, (o.2 g hl hn).trans hb, hc⟩
def partial_ (k : Nat) (r : Nat → Nat) (j : Nat) : Value := .float .f32 (if j < k then r j else 0)
set_option maxHeartbeats 2000000 in
set_option maxRecDepth 100000 in
theorem results_any (A : Option Addr) (n c : Nat) (xs : List Nat) (F : FuncId) (caps : Array Value) (gr : Nat) (I : Nat → World → Prop) (Y : Nat → Option Nat) (w : World) (h : Fs w gr A n xs) (hgr : gr < w.heap.size) (hn : n ≤ 256)
    (hent : ∀ args w, (callFunc F args).run Try.prog w = .ok (.enter F args) w)
    (hI : ∀ k W W', I k W → w.heap.size ≤ W.heap.size → W.heap.size ≤ W'.heap.size → (∀ b, b < w.heap.size → W'.heap[b]? = W.heap[b]?) → I k W')
    (hstep : ∀ k q W, k < n → q = wd xs k → I k W → w.heap.size ≤ W.heap.size → Calls Try.prog F (#[.float .f32 q] ++ caps) W fun e W' => ∃ r, e = .returned (.float .f32 r) ∧ Hid (Fv .f32 r (Y k)) ∧ I (k + 1) W' ∧ On gr W W')
    (h0 : I 0 w) :
    Calls Try.prog 29 #[.slice A n c, .func (.func F) #[] caps] w fun e w' => ∃ ys, e = .returned (.slice (some ⟨w.heap.size, 0, none⟩) n n) ∧ Gs 33 w' w.heap.size (some ⟨w.heap.size, 0, none⟩) n ys ∧ Are' n ys Y ∧ I n w' ∧ On gr w w' := by
  have H := Lib.hid h
  have hmk := fun W => run_make_row' (P := Try.prog) 27 33 (.float .f32 0) 4 Try.underlying27 Try.infoF rfl .i64 .i64 n (by omega) (by omega) W
  have HI := Lib.hid hI; have HST := Lib.hid hstep; have H0 := Lib.hid h0; have HGR : gr < w.heap.size := hgr
  clear h hI hstep h0
  go_enter Try.func29, Try.ntmps29
  go_wp2
  go_loopw [13] (fun i wr => ∃ (k : Nat) (r : Nat → Nat), k ≤ n ∧ i = .int .i64 k ∧ GCells wr w.heap.size n (partial_ k r) ∧ (∀ j, j < k → Hid (Fv .f32 (r j) (Y j))) ∧ I k wr ∧ On gr w wr) (fun i _ => n - (intOf i).toNat)
  case atStart =>
    have hr := (World.rowIs_made w (.float .f32 0) n 33)
    obtain ⟨cs, hb, _, hc⟩ := hr
    exact ⟨0, fun _ => 0, Nat.zero_le _, rfl, ⟨cs, hb, fun j hj => hc j hj⟩, fun j hj => by omega, HI.out 0 _ _ H0.out (Nat.le_refl _) (by simp) (fun b hb => ((World.Since.refl w.heap.size w).alloc (Nat.le_refl _) _).block b hb), (On.refl gr w).alloc (by omega) _⟩
  case round =>
    obtain ⟨k, r, hk, rfl, hcs, hr, hi, hon⟩ := hrel
    have HC := Lib.hid hcs; have HR := Lib.hid hr; have HIK := Lib.hid hi; have HON := Lib.hid hon
    have hsz : w.heap.size < wr.heap.size := hcs.lt
    clear hcs hr hi hon
    by_cases hlt : k < n
    · obtain ⟨g, off, rfl, hg, hc⟩ := H.out.2.2 (by omega)
      have hcell : wr.cell? ⟨g, off + k, none⟩ = some (.float .f32 (wd xs k)) := (HON.out.1.cell (a := ⟨g, off + k, none⟩) hg).trans (hc k hlt)
      clear hc
      go_wp2_with fail
      refine (HST.out k _ wr hlt rfl HIK.out (by omega)).mono ?_
      rintro e w2 ⟨r1, rfl, hr1, hi1, ho1⟩
      have HC2 := Lib.hid (HC.out.on ho1 (by omega))
      have hc2 : w2.cell? ⟨w.heap.size, k, none⟩ = some (partial_ k r k) := HC2.out.cell hlt
      have hf2 : w2.frozen? ⟨w.heap.size, k, none⟩ = false := HC2.out.free _
      have HR1 := Lib.hid hr1; have HI1 := Lib.hid hi1; have HO1 := Lib.hid ho1
      clear hr1 hi1 ho1
      go_wp2
      go_roundw
      case rel =>
        refine ⟨k + 1, fun j => if j = k then r1 else r j, by omega, by go_num, (HC2.out.set k _).congr (fun j hj => ?_), fun j hj => ?_, HI.out (k + 1) _ _ HI1.out (Nat.le_trans (by omega) HO1.out.1.size) (by rw [Go.Deep.nblk_setCell]; exact Nat.le_refl _) (fun b hb => Go.Deep.blk_setCell_other _ _ _ _ (show b ≠ w.heap.size by omega)), On.setNew (HON.out.trans HO1.out) (Nat.le_refl _) (by omega)⟩
        · unfold partial_
          dsimp only
          by_cases e : j = k
          · rw [if_pos e, if_pos (by omega), if_pos e]
          · rw [if_neg e, if_neg e]
            by_cases e2 : j < k
            · rw [if_pos e2, if_pos (by omega)]
            · rw [if_neg e2, if_neg (by omega)]
        · show Hid (Fv .f32 (if j = k then r1 else r j) (Y j))
          by_cases e : j = k
          · subst e; rw [if_pos rfl]; exact HR1
          · rw [if_neg e]; exact HR.out j (by omega)
      case measure => simp [intOf]; omega
    · obtain rfl : k = n := by omega
      go_wp2
      go_ret
      refine ⟨lst k r, rfl, ⟨lst_len _ _, fun y hy => ?_, fun _ => ?_⟩, fun i hi => by rw [lst_wd hi]; exact (HR.out i hi).out.2, HIK.out, HON.out⟩
      · obtain ⟨i, hi, rfl⟩ := List.mem_map.1 hy
        exact (HR.out i (List.mem_range.1 hi)).out.1
      · obtain ⟨cs, hb, hc⟩ := HC.out
        refine ⟨_, cs, rfl, Nat.le_refl _, hb, fun j hj => ?_⟩
        rw [hc j hj]; unfold partial_ fv; rw [if_pos hj, lst_wd hj]
end Go.Proofs.Ytflpackchlpedaa
