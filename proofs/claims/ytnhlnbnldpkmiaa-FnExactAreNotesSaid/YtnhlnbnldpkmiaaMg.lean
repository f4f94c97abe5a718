/- Lists of Note as a law holds them. -/
import Derived.Test.YtnhlnbnldpkmiaaMa
import Derived.Test.YtnhlnbnldpkmiaaMc
import Derived.Test.YtnhlnbnldpkmiaaSf
import Derived.Test.YtnhlnbnldpkmiaaEa
import Derived.StillTailTactics
set_option linter.unusedVariables false
set_option linter.unusedSimpArgs false
namespace Go.Proofs.Ytnhlnbnldpkmiaa
open Fl Go.RowKit
structure NoteR where
  st : Int
  h : Int
  p : Int
  g : Nat
def NoteR.cells (x : NoteR) : List Value := [.int .i64 x.st, .int .i64 x.h, .int .i64 x.p, .float .f32 x.g]
def NoteR.val (x : NoteR) : Value := .agg #[.int .i64 x.st, .int .i64 x.h, .int .i64 x.p, .float .f32 x.g]
def NoteR.zero : NoteR := ⟨0, 0, 0, 0⟩
def NoteR.ok (x : NoteR) : Prop := x.g < 4294967296
/-- the same but for bits of not-a-numbers -/
def NoteR.same (x y : NoteR) : Prop := x.st = y.st ∧ x.h = y.h ∧ x.p = y.p ∧ ab .f32 x.g = ab .f32 y.g
theorem NoteR.same_refl (x : NoteR) : x.same x := ⟨rfl, rfl, rfl, rfl⟩
set_option maxRecDepth 100000 in
theorem toNote_row (x : NoteR) (w : World) : Calls Try.prog 39 #[x.val] w fun e w' => e = .returned x.val ∧ w.Since w.heap.size w' := by
  obtain ⟨x_st, x_h, x_p, x_g⟩ := x
  unfold NoteR.val
  go_enter Try.func39, Try.ntmps39
  go_wp2
  exact bodyPost_ret (v := .agg #[.int .i64 x_st, .int .i64 x_h, .int .i64 x_p, .float .f32 x_g]) (by simp [results, Try.results39, go_sem]) rfl ⟨rfl, by (repeat (first | (with_reducible refine Fl.sinDrew ?_) | (with_reducible refine World.Since.drew ?_) | (with_reducible refine Fl.sinSet ?_ ?_; rotate_left) | (with_reducible refine Fl.sinAlloc ?_ ?_; rotate_left) | with_reducible exact World.Since.refl _ _ | with_reducible assumption | (with_reducible refine Fl.sinStep (by with_reducible assumption) ?_))); all_goals (first | omega | (simp; done) | (simp; omega) | (simp [go_sem]; done) | (simp [go_sem]; omega))⟩
set_option maxRecDepth 100000 in
set_option maxHeartbeats 2000000 in
theorem eqNote_row (x y : NoteR) (w : World) (hx : x.ok) (hy : y.ok) (h : x.same y) : Calls Try.prog 90 #[x.val, y.val] w fun e w' => e = .returned (.bool true) ∧ w.Since w.heap.size w' := by
  obtain ⟨x_st, x_h, x_p, x_g⟩ := x
  obtain ⟨y_st, y_h, y_p, y_g⟩ := y
  unfold NoteR.val
  have k_g := hx; have l_g := hy; clear hx hy
  obtain ⟨m_st, m_h, m_p, m_g⟩ := h
  simp only [NoteR.ok] at *
  subst m_st
  subst m_h
  subst m_p
  have px_g : Hid (Fv .f32 x_g (ab .f32 x_g)) := Lib.hid ⟨k_g, rfl⟩
  have py_g : Hid (Fv .f32 y_g (ab .f32 x_g)) := Lib.hid ⟨l_g, m_g.symm⟩
  clear k_g l_g m_g
  go_enter Try.func90, Try.ntmps90
  go_wp2_with (first | (with_reducible_and_instances refine Lo.wpList_wi _ rfl _ _ _ rfl _ _ rfl (by kernel_rfl) (by kernel_rfl) (by assumption) ?_; intro rr nn hrr) | (go_at_call 53; refine (sameFloat_any _ _ _ _ (by assumption : Hid _) (by assumption : Hid _)).mono ?_; rintro e w' ⟨rfl, n1, rfl⟩))
  go_ret
  exact ⟨rfl, by (repeat (first | (with_reducible refine Fl.sinDrew ?_) | (with_reducible refine World.Since.drew ?_) | (with_reducible refine Fl.sinSet ?_ ?_; rotate_left) | (with_reducible refine Fl.sinAlloc ?_ ?_; rotate_left) | with_reducible exact World.Since.refl _ _ | with_reducible assumption | (with_reducible refine Fl.sinStep (by with_reducible assumption) ?_))); all_goals (first | omega | (simp; done) | (simp; omega) | (simp [go_sem]; done) | (simp [go_sem]; omega))⟩
theorem Try.infoNote : (Try.prog.info? 59).map (fun i => (i.zero, i.size, decide (i.bytes ≤ 1024))) = some (some (.agg #[.int .i64 0, .int .i64 0, .int .i64 0, .float .f32 0]), 4, true) := by kernel_rfl
set_option maxHeartbeats 4000000 in
set_option maxRecDepth 100000 in
theorem toNoteS_any (A : Option Addr) (n c : Nat) (e : Nat → NoteR) (W v : World) (h : Rs NoteR.cells 4 W W.heap.size A n e) (s : W.Since W.heap.size v) (hn : n ≤ 1048576) :
    Calls Try.prog 34 #[.slice A n c] v fun r v' => r = .returned (.slice (some ⟨v.heap.size, 0, none⟩) n n) ∧ Ge v.heap.size v' (se NoteR.cells 4 59 (some ⟨v.heap.size, 0, none⟩) n e) ∧ v.Since v.heap.size v' := by
  have H := Lib.hid (h.now s)
  clear h s
  obtain ⟨i0, hi, hzz⟩ := Option.map_eq_some_iff.1 Try.infoNote
  simp only [Prod.mk.injEq] at hzz
  obtain ⟨hz0, hz1, hz2⟩ := hzz
  have hby : i0.bytes ≤ 1024 := of_decide_eq_true hz2
  have hbn : (i0.bytes : Int) * (n : Int) ≤ 281474976710656 := by
    have : i0.bytes * n ≤ 1024 * 1048576 := Nat.mul_le_mul hby hn
    rw [← Int.natCast_mul]
    omega
  have hmk := fun (w : World) => run_make (P := Try.prog) w 47 59 i0 (.agg #[.int .i64 0, .int .i64 0, .int .i64 0, .float .f32 0]) Try.underlying47 hi hz0 .i64 .i64 (n : Int) (n : Int) (by omega) (Int.le_refl _) hbn (by omega)
  simp only [Int.toNat_natCast, hz1] at hmk
  have hzc : (Value.agg #[.int .i64 0, .int .i64 0, .int .i64 0, .float .f32 0]).cells = #[.int .i64 0, .int .i64 0, .int .i64 0, .float .f32 0] := by rfl
  rw [hzc] at hmk
  have hzero : (NoteR.cells NoteR.zero).toArray = #[.int .i64 0, .int .i64 0, .int .i64 0, .float .f32 0] := rfl
  have hmd := Lib.hid (GF.made (cells := NoteR.cells) (s := 4) v 59 #[.int .i64 0, .int .i64 0, .int .i64 0, .float .f32 0] NoteR.zero n hzero rfl (by decide))
  clear hi hz0 hz1 hz2 hby hbn hzc hzero
  go_enter Try.func34, Try.ntmps34
  go_wp2
  go_loopw [4] (fun i wr => ∃ k : Nat, k ≤ n ∧ i = .int .i64 (k : Nat) ∧ GF wr v.heap.size 59 (n * 4) (ceL NoteR.cells 4 fun i => if i < k then e i else NoteR.zero) ∧ v.Since v.heap.size wr) (fun i _ => n - (intOf i).toNat)
  case atStart => exact ⟨0, Nat.zero_le _, rfl, hmd.out, (World.Since.refl _ _).alloc (Nat.le_refl _) _⟩
  case round =>
    obtain ⟨k, hk, rfl, hg, hs⟩ := hrel
    have HG := Lib.hid hg; have HS := Lib.hid hs
    clear hg hs hmd
    by_cases hlt : k < n
    · obtain ⟨g, off, rfl, hgl, hc⟩ := H.out.at_ hlt
      have HTO := Lib.hid (toNote_row (e k))
      have HE := Lib.hid (show ∀ j, j < n * 4 → ceL NoteR.cells 4 (fun i => if i < k + 1 then e i else NoteR.zero) j = if k * 4 ≤ j ∧ j < k * 4 + 4 then ((e k).cells).getD (j - k * 4) undef else ceL NoteR.cells 4 (fun i => if i < k then e i else NoteR.zero) j from fun j hj => by
        rw [← ceL_upd _ k (e k) (by decide) j]
        congr 1
        funext i
        unfold upd
        by_cases h1 : i = k
        · subst h1; rw [if_pos (by omega), if_pos rfl]
        · rw [if_neg h1]
          by_cases h2 : i < k
          · rw [if_pos (by omega)]; simp only [if_pos h2]
          · rw [if_neg (by omega)]; simp only [if_neg h2])
      have hc0 := (HS.out.cell (a := ⟨g, off + k * 4 + 0, none⟩) hgl).trans (hc 0 (by decide))
      have hc1 := (HS.out.cell (a := ⟨g, off + k * 4 + 1, none⟩) hgl).trans (hc 1 (by decide))
      have hc2 := (HS.out.cell (a := ⟨g, off + k * 4 + 2, none⟩) hgl).trans (hc 2 (by decide))
      have hc3 := (HS.out.cell (a := ⟨g, off + k * 4 + 3, none⟩) hgl).trans (hc 3 (by decide))
      have hkk : k * 4 + 4 ≤ n * 4 := by omega
      generalize e k = y at *
      obtain ⟨y_st, y_h, y_p, y_g⟩ := y
      simp only [NoteR.cells, NoteR.val, List.getD_cons_zero, List.getD_cons_succ, Nat.add_zero] at hc0 hc1 hc2 hc3 HTO HE
      clear hc
      go_wp2_with fail
      refine (HTO.out _).mono ?_
      rintro r w2 ⟨rfl, hs2⟩
      have HG2 := Lib.hid (HG.out.of (hs2.block _ HG.out.lt))
      have HS2 := Lib.hid (since_step HS.out hs2)
      clear hs2 HG hc0 hc1 hc2 hc3
      have hd0 := HG2.out.cell (j := k * 4 + 0) (by omega)
      have hf0 := HG2.out.free (k * 4 + 0)
      have hd1 := HG2.out.cell (j := k * 4 + 1) (by omega)
      have hf1 := HG2.out.free (k * 4 + 1)
      have hd2 := HG2.out.cell (j := k * 4 + 2) (by omega)
      have hf2 := HG2.out.free (k * 4 + 2)
      have hd3 := HG2.out.cell (j := k * 4 + 3) (by omega)
      have hf3 := HG2.out.free (k * 4 + 3)
      simp only [Nat.add_zero] at hd0 hf0 hd1 hf1 hd2 hf2 hd3 hf3
      generalize ceL NoteR.cells 4 (fun i => if i < k then e i else NoteR.zero) (k * 4) = u0q at hd0
      generalize ceL NoteR.cells 4 (fun i => if i < k then e i else NoteR.zero) (k * 4 + 1) = u1q at hd1
      generalize ceL NoteR.cells 4 (fun i => if i < k then e i else NoteR.zero) (k * 4 + 2) = u2q at hd2
      generalize ceL NoteR.cells 4 (fun i => if i < k then e i else NoteR.zero) (k * 4 + 3) = u3q at hd3
      go_wp2
      go_roundw
      case rel =>
        refine ⟨k + 1, by omega, by go_num, ?_, (((HS2.out.setCell (Nat.le_refl _) _).setCell (Nat.le_refl _) _).setCell (Nat.le_refl _) _).setCell (Nat.le_refl _) _⟩
        refine ((((HG2.out.set (k * 4) _).set (k * 4 + 1) _).set (k * 4 + 2) _).set (k * 4 + 3) _).congr (fun j hj => ?_)
        rw [HE.out j hj]
        by_cases h : k * 4 ≤ j ∧ j < k * 4 + 4
        · rw [if_pos h]
          obtain rfl | rfl | rfl | rfl : j = k * 4 + 0 ∨ j = k * 4 + 1 ∨ j = k * 4 + 2 ∨ j = k * 4 + 3 := by omega
          all_goals simp
        · rw [if_neg h, if_neg (by omega), if_neg (by omega), if_neg (by omega), if_neg (by omega)]
      case measure => simp [intOf]; omega
    · obtain rfl : k = n := by omega
      go_wp2
      go_ret
      refine ⟨rfl, GF.entry (HG.out.congr fun j hj => ?_) (Nat.le_refl _), HS.out⟩
      unfold ceL
      dsimp only
      rw [if_pos (Nat.div_lt_of_lt_mul (by rw [Nat.mul_comm]; exact hj))]
theorem szNoteS_any (A : Option Addr) (n c : Nat) (w : World) (hn : n ≤ 1048576) : Calls Try.prog 32 #[.slice A n c, .int .i64 1048576] w fun r w' => r = .returned (.int .i64 (1048576 - (n : Int))) ∧ w = w' := by
  go_enter Try.func32, Try.ntmps32
  go_wp2
  go_ret
  exact ⟨rfl, rfl⟩
theorem szNoteS_big (A : Option Addr) (n c : Nat) (w : World) (hn : 1048576 < n) (hn2 : n ≤ 9223372036854775807) : Calls Try.prog 32 #[.slice A n c, .int .i64 1048576] w fun r w' => r = .returned (.int .i64 (-1)) ∧ w = w' := by
  go_enter Try.func32, Try.ntmps32
  go_wp2
  go_ret
  exact ⟨rfl, rfl⟩
set_option maxHeartbeats 4000000 in
set_option maxRecDepth 100000 in
theorem eqNoteS_any (A C : Option Addr) (n c d : Nat) (e f : Nat → NoteR) (w : World) (B : Nat) (hB : B ≤ w.heap.size) (ha : Rs NoteR.cells 4 w B A n e) (hc : Rs NoteR.cells 4 w B C n f) (hn : n ≤ 1048576) (he : ∀ k, k < n → (e k).ok ∧ (f k).ok ∧ (e k).same (f k)) :
    Calls Try.prog 36 #[.slice A n c, .slice C n d] w fun r w' => r = .returned (.bool true) ∧ w.Since w.heap.size w' := by
  have HA := Lib.hid ha; have HC := Lib.hid hc; have HE := Lib.hid he
  clear ha hc he
  go_enter Try.func36, Try.ntmps36
  go_wp2
  go_loopw [5] (fun i wr => ∃ k : Nat, k ≤ n ∧ i = .int .i64 (k : Nat) ∧ w.Since w.heap.size wr) (fun i _ => n - (intOf i).toNat)
  case atStart => exact ⟨0, Nat.zero_le _, rfl, World.Since.refl _ _⟩
  case round =>
    obtain ⟨k, hk, rfl, hs⟩ := hrel
    have HS := Lib.hid hs
    clear hs
    by_cases hlt : k < n
    · obtain ⟨g, off, rfl, hgl, hc1⟩ := HA.out.range hlt (by rfl)
      obtain ⟨g2, off2, rfl, hgl2, hc2⟩ := HC.out.range hlt (by rfl)
      have HEQ := Lib.hid (fun W => eqNote_row (e k) (f k) W (HE.out k hlt).1 (HE.out k hlt).2.1 (HE.out k hlt).2.2)
      have R1 := Lib.hid (Lo.range_since hc1 HS.out (by omega))
      have R2 := Lib.hid (Lo.range_since hc2 HS.out (by omega))
      have hz := HS.out.size
      generalize e k = x at *
      generalize f k = y at *
      obtain ⟨x_st, x_h, x_p, x_g⟩ := x
      obtain ⟨y_st, y_h, y_p, y_g⟩ := y
      simp only [NoteR.cells, NoteR.val] at R1 R2 HEQ
      clear hc1 hc2
      go_wp2_with fail
      refine Lo.wp_looseG_all [] (by kernel_rfl) (by kernel_rfl) ?_
      repeat (first
        | (refine Lo.wpL_loadRow rfl 59 _ rfl (by decide) g (off + k * 4) rfl [.int .i64 x_st, .int .i64 x_h, .int .i64 x_p, .float .f32 x_g] _ Try.underlying59 rfl (by kernel_rfl) (fun v ⟨hs, dd, hv⟩ => hv ▸ Lo.range_since R1.out (Lo.mkW_since _ hs dd) (by omega)) ?_; simp only [Act.put, List.setIfInBounds_toArray, List.set_cons_succ, List.set_cons_zero])
        | (refine Lo.wpL_loadRow rfl 59 _ rfl (by decide) g2 (off2 + k * 4) rfl [.int .i64 y_st, .int .i64 y_h, .int .i64 y_p, .float .f32 y_g] _ Try.underlying59 rfl (by kernel_rfl) (fun v ⟨hs, dd, hv⟩ => hv ▸ Lo.range_since R2.out (Lo.mkW_since _ hs dd) (by omega)) ?_; simp only [Act.put, List.setIfInBounds_toArray, List.set_cons_succ, List.set_cons_zero])
        | (refine Lo.wpG_callQ rfl 90 [.tmp _, .tmp _] [.agg #[.int .i64 x_st, .int .i64 x_h, .int .i64 x_p, .float .f32 x_g], .agg #[.int .i64 y_st, .int .i64 y_h, .int .i64 y_p, .float .f32 y_g]] _ rfl (by decide) (callsEnter 90 Try.f90 _ (by kernel_rfl) (by kernel_rfl) rfl) rfl (.bool true) (fun v hv => (HEQ.out v).mono fun e v2 ⟨h1, h2⟩ => ⟨h1, Lo.mkW_mkW hv h2⟩) ?_; simp only [Act.put, List.setIfInBounds_toArray, List.set_cons_succ, List.set_cons_zero])
        | (refine Lo.wpL_move rfl _ (.inl rfl) (by decide) ?_; simp only [Act.put, List.setIfInBounds_toArray, List.set_cons_succ, List.set_cons_zero])
        | (refine Lo.wpL_move rfl _ (.inr rfl) (by decide) ?_; simp only [Act.put, List.setIfInBounds_toArray, List.set_cons_succ, List.set_cons_zero])
        | (refine Lo.wpG_fop (fun _ m h => Lo.drewG m h) rfl _ _ _ _ rfl rfl (by decide) _ _ _ _ _ rfl rfl (by assumption) (by assumption) ?_; intro rr hrr; simp only [Act.put, List.setIfInBounds_toArray, List.set_cons_succ, List.set_cons_zero])
        | (refine Lo.wpL_quiet rfl (by decide) (fun K hK => ?_); go_big_quiet_op; first | (refine hK _ ?_; clear hK K) | (refine ⟨_, fun _ _ _ _ => rfl, hK _ ?_⟩; clear hK K)))
      refine Lo.wpL_nil ?_; intro hsG dG
      refine Lo.after_nil ?_; intro nq
      generalize hwG : Lo.mkW _ hsG dG = wG
      replace hwG := Lo.sinceG hwG
      clear hsG dG
      go_wp2
      go_roundw
      case rel => exact ⟨k + 1, by omega, by go_num, since_step HS.out hwG⟩
      case measure => simp [intOf]; omega
    · go_wp2
      go_ret
      exact ⟨rfl, HS.out⟩
def NoteR.wf (x : NoteR) : Prop := x.ok ∧ (Lit.int .i64 x.st).wf = true ∧ (Lit.int .i64 x.h).wf = true ∧ (Lit.int .i64 x.p).wf = true
section
open Go.ChangeShapes Go.WideShapes Go.Deep
variable {H : Type} {enc : TypeId × Value → H} {P : Program} {w : World} {base : Nat}
theorem openNote_row {t : TypeId} {f0 f1 f2 f3 : Field} (hs : P.underlying t = some (.struct #[f0, f1, f2, f3])) (hone : oneCellFields P #[f0, f1, f2, f3] = true) (hC : P.cellsOf t = 4) (h0 : P.underlying f0.type = some (.int .i64)) (h1 : P.underlying f1.type = some (.int .i64)) (h2 : P.underlying f2.type = some (.int .i64)) (h3 : P.underlying f3.type = some (.float .f32))
    (fuel : Nat) (cs : List Value) (x : DataW H × List MemPlace) (h : DataW.trod enc P w base (fun _ => true) true fuel t cs = some x) : ∃ y : NoteR, y.wf ∧ y.cells = cs := by
  obtain ⟨hl, hc⟩ := row_cells hs hone hC h
  obtain ⟨c0, y0, n0, e0, t0⟩ := hc 0 f0 rfl
  obtain ⟨x0, hx0, w0⟩ := trod_int h0 t0
  injection hx0 with hx0 _; subst hx0
  obtain ⟨c1, y1, n1, e1, t1⟩ := hc 1 f1 rfl
  obtain ⟨x1, hx1, w1⟩ := trod_int h1 t1
  injection hx1 with hx1 _; subst hx1
  obtain ⟨c2, y2, n2, e2, t2⟩ := hc 2 f2 rfl
  obtain ⟨x2, hx2, w2⟩ := trod_int h2 t2
  injection hx2 with hx2 _; subst hx2
  obtain ⟨c3, y3, n3, e3, t3⟩ := hc 3 f3 rfl
  obtain ⟨x3, hx3, w3⟩ := trod_fl h3 t3
  injection hx3 with hx3 _; subst hx3
  refine ⟨⟨x0, x1, x2, x3⟩, ⟨wf_f32 w3, w0, w1, w2⟩, ?_⟩
  unfold NoteR.cells
  match cs, hl with
  | [d0, d1, d2, d3], _ =>
    have g0 : d0 = _ := Option.some.inj e0
    have g1 : d1 = _ := Option.some.inj e1
    have g2 : d2 = _ := Option.some.inj e2
    have g3 : d3 = _ := Option.some.inj e3
    rw [g0, g1, g2, g3]
end
end Go.Proofs.Ytnhlnbnldpkmiaa
