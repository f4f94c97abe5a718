/- Lists of Tap as a law holds them. -/
import Derived.Test.YtnhlnbnldpkmiaaMa
import Derived.Test.YtnhlnbnldpkmiaaMc
import Derived.Test.YtnhlnbnldpkmiaaSf
import Derived.Test.YtnhlnbnldpkmiaaEa
import Derived.StillTailTactics
set_option linter.unusedVariables false
set_option linter.unusedSimpArgs false
namespace Go.Proofs.Ytnhlnbnldpkmiaa
open Fl Go.RowKit
structure TapR where
  b : Int
  g : Nat
def TapR.cells (x : TapR) : List Value := [.int .i64 x.b, .float .f32 x.g]
def TapR.val (x : TapR) : Value := .agg #[.int .i64 x.b, .float .f32 x.g]
def TapR.zero : TapR := ⟨0, 0⟩
def TapR.ok (x : TapR) : Prop := x.g < 4294967296
/-- the same but for bits of not-a-numbers -/
def TapR.same (x y : TapR) : Prop := x.b = y.b ∧ ab .f32 x.g = ab .f32 y.g
theorem TapR.same_refl (x : TapR) : x.same x := ⟨rfl, rfl⟩
set_option maxRecDepth 100000 in
theorem toTap_row (x : TapR) (w : World) : Calls Try.prog 64 #[x.val] w fun e w' => e = .returned x.val ∧ w.Since w.heap.size w' := by
  obtain ⟨x_b, x_g⟩ := x
  unfold TapR.val
  go_enter Try.func64, Try.ntmps64
  go_wp2
  exact bodyPost_ret (v := .agg #[.int .i64 x_b, .float .f32 x_g]) (by simp [results, Try.results64, go_sem]) rfl ⟨rfl, by (repeat (first | (with_reducible refine Fl.sinDrew ?_) | (with_reducible refine World.Since.drew ?_) | (with_reducible refine Fl.sinSet ?_ ?_; rotate_left) | (with_reducible refine Fl.sinAlloc ?_ ?_; rotate_left) | with_reducible exact World.Since.refl _ _ | with_reducible assumption | (with_reducible refine Fl.sinStep (by with_reducible assumption) ?_))); all_goals (first | omega | (simp; done) | (simp; omega) | (simp [go_sem]; done) | (simp [go_sem]; omega))⟩
set_option maxRecDepth 100000 in
set_option maxHeartbeats 2000000 in
theorem eqTap_row (x y : TapR) (w : World) (hx : x.ok) (hy : y.ok) (h : x.same y) : Calls Try.prog 67 #[x.val, y.val] w fun e w' => e = .returned (.bool true) ∧ w.Since w.heap.size w' := by
  obtain ⟨x_b, x_g⟩ := x
  obtain ⟨y_b, y_g⟩ := y
  unfold TapR.val
  have k_g := hx; have l_g := hy; clear hx hy
  obtain ⟨m_b, m_g⟩ := h
  simp only [TapR.ok] at *
  subst m_b
  have px_g : Hid (Fv .f32 x_g (ab .f32 x_g)) := Lib.hid ⟨k_g, rfl⟩
  have py_g : Hid (Fv .f32 y_g (ab .f32 x_g)) := Lib.hid ⟨l_g, m_g.symm⟩
  clear k_g l_g m_g
  go_enter Try.func67, Try.ntmps67
  go_wp2_with (first | (with_reducible_and_instances refine Lo.wpList_wi _ rfl _ _ _ rfl _ _ rfl (by kernel_rfl) (by kernel_rfl) (by assumption) ?_; intro rr nn hrr) | (go_at_call 53; refine (sameFloat_any _ _ _ _ (by assumption : Hid _) (by assumption : Hid _)).mono ?_; rintro e w' ⟨rfl, n1, rfl⟩))
  go_ret
  exact ⟨rfl, by (repeat (first | (with_reducible refine Fl.sinDrew ?_) | (with_reducible refine World.Since.drew ?_) | (with_reducible refine Fl.sinSet ?_ ?_; rotate_left) | (with_reducible refine Fl.sinAlloc ?_ ?_; rotate_left) | with_reducible exact World.Since.refl _ _ | with_reducible assumption | (with_reducible refine Fl.sinStep (by with_reducible assumption) ?_))); all_goals (first | omega | (simp; done) | (simp; omega) | (simp [go_sem]; done) | (simp [go_sem]; omega))⟩
theorem Try.infoTap : (Try.prog.info? 106).map (fun i => (i.zero, i.size, decide (i.bytes ≤ 1024))) = some (some (.agg #[.int .i64 0, .float .f32 0]), 2, true) := by kernel_rfl
set_option maxHeartbeats 4000000 in
set_option maxRecDepth 100000 in
theorem toTapS_any (A : Option Addr) (n c : Nat) (e : Nat → TapR) (W v : World) (h : Rs TapR.cells 2 W W.heap.size A n e) (s : W.Since W.heap.size v) (hn : n ≤ 1048576) :
    Calls Try.prog 17 #[.slice A n c] v fun r v' => r = .returned (.slice (some ⟨v.heap.size, 0, none⟩) n n) ∧ Ge v.heap.size v' (se TapR.cells 2 106 (some ⟨v.heap.size, 0, none⟩) n e) ∧ v.Since v.heap.size v' := by
  have H := Lib.hid (h.now s)
  clear h s
  obtain ⟨i0, hi, hzz⟩ := Option.map_eq_some_iff.1 Try.infoTap
  simp only [Prod.mk.injEq] at hzz
  obtain ⟨hz0, hz1, hz2⟩ := hzz
  have hby : i0.bytes ≤ 1024 := of_decide_eq_true hz2
  have hbn : (i0.bytes : Int) * (n : Int) ≤ 281474976710656 := by
    have : i0.bytes * n ≤ 1024 * 1048576 := Nat.mul_le_mul hby hn
    rw [← Int.natCast_mul]
    omega
  have hmk := fun (w : World) => run_make (P := Try.prog) w 25 106 i0 (.agg #[.int .i64 0, .float .f32 0]) Try.underlying25 hi hz0 .i64 .i64 (n : Int) (n : Int) (by omega) (Int.le_refl _) hbn (by omega)
  simp only [Int.toNat_natCast, hz1] at hmk
  have hzc : (Value.agg #[.int .i64 0, .float .f32 0]).cells = #[.int .i64 0, .float .f32 0] := by rfl
  rw [hzc] at hmk
  have hzero : (TapR.cells TapR.zero).toArray = #[.int .i64 0, .float .f32 0] := rfl
  have hmd := Lib.hid (GF.made (cells := TapR.cells) (s := 2) v 106 #[.int .i64 0, .float .f32 0] TapR.zero n hzero rfl (by decide))
  clear hi hz0 hz1 hz2 hby hbn hzc hzero
  go_enter Try.func17, Try.ntmps17
  go_wp2
  go_loopw [4] (fun i wr => ∃ k : Nat, k ≤ n ∧ i = .int .i64 (k : Nat) ∧ GF wr v.heap.size 106 (n * 2) (ceL TapR.cells 2 fun i => if i < k then e i else TapR.zero) ∧ v.Since v.heap.size wr) (fun i _ => n - (intOf i).toNat)
  case atStart => exact ⟨0, Nat.zero_le _, rfl, hmd.out, (World.Since.refl _ _).alloc (Nat.le_refl _) _⟩
  case round =>
    obtain ⟨k, hk, rfl, hg, hs⟩ := hrel
    have HG := Lib.hid hg; have HS := Lib.hid hs
    clear hg hs hmd
    by_cases hlt : k < n
    · obtain ⟨g, off, rfl, hgl, hc⟩ := H.out.at_ hlt
      have HTO := Lib.hid (toTap_row (e k))
      have HE := Lib.hid (show ∀ j, j < n * 2 → ceL TapR.cells 2 (fun i => if i < k + 1 then e i else TapR.zero) j = if k * 2 ≤ j ∧ j < k * 2 + 2 then ((e k).cells).getD (j - k * 2) undef else ceL TapR.cells 2 (fun i => if i < k then e i else TapR.zero) j from fun j hj => by
        rw [← ceL_upd _ k (e k) (by decide) j]
        congr 1
        funext i
        unfold upd
        by_cases h1 : i = k
        · subst h1; rw [if_pos (by omega), if_pos rfl]
        · rw [if_neg h1]
          by_cases h2 : i < k
          · rw [if_pos (by omega)]; simp only [if_pos h2]
          · rw [if_neg (by omega)]; simp only [if_neg h2])
      have hc0 := (HS.out.cell (a := ⟨g, off + k * 2 + 0, none⟩) hgl).trans (hc 0 (by decide))
      have hc1 := (HS.out.cell (a := ⟨g, off + k * 2 + 1, none⟩) hgl).trans (hc 1 (by decide))
      have hkk : k * 2 + 2 ≤ n * 2 := by omega
      generalize e k = y at *
      obtain ⟨y_b, y_g⟩ := y
      simp only [TapR.cells, TapR.val, List.getD_cons_zero, List.getD_cons_succ, Nat.add_zero] at hc0 hc1 HTO HE
      clear hc
      go_wp2_with fail
      refine (HTO.out _).mono ?_
      rintro r w2 ⟨rfl, hs2⟩
      have HG2 := Lib.hid (HG.out.of (hs2.block _ HG.out.lt))
      have HS2 := Lib.hid (since_step HS.out hs2)
      clear hs2 HG hc0 hc1
      have hd0 := HG2.out.cell (j := k * 2 + 0) (by omega)
      have hf0 := HG2.out.free (k * 2 + 0)
      have hd1 := HG2.out.cell (j := k * 2 + 1) (by omega)
      have hf1 := HG2.out.free (k * 2 + 1)
      simp only [Nat.add_zero] at hd0 hf0 hd1 hf1
      generalize ceL TapR.cells 2 (fun i => if i < k then e i else TapR.zero) (k * 2) = u0q at hd0
      generalize ceL TapR.cells 2 (fun i => if i < k then e i else TapR.zero) (k * 2 + 1) = u1q at hd1
      go_wp2
      go_roundw
      case rel =>
        refine ⟨k + 1, by omega, by go_num, ?_, (HS2.out.setCell (Nat.le_refl _) _).setCell (Nat.le_refl _) _⟩
        refine ((HG2.out.set (k * 2) _).set (k * 2 + 1) _).congr (fun j hj => ?_)
        rw [HE.out j hj]
        by_cases h : k * 2 ≤ j ∧ j < k * 2 + 2
        · rw [if_pos h]
          obtain rfl | rfl : j = k * 2 + 0 ∨ j = k * 2 + 1 := by omega
          all_goals simp
        · rw [if_neg h, if_neg (by omega), if_neg (by omega)]
      case measure => simp [intOf]; omega
    · obtain rfl : k = n := by omega
      go_wp2
      go_ret
      refine ⟨rfl, GF.entry (HG.out.congr fun j hj => ?_) (Nat.le_refl _), HS.out⟩
      unfold ceL
      dsimp only
      rw [if_pos (Nat.div_lt_of_lt_mul (by rw [Nat.mul_comm]; exact hj))]
theorem szTapS_any (A : Option Addr) (n c : Nat) (w : World) (hn : n ≤ 1048576) : Calls Try.prog 15 #[.slice A n c, .int .i64 1048576] w fun r w' => r = .returned (.int .i64 (1048576 - (n : Int))) ∧ w = w' := by
  go_enter Try.func15, Try.ntmps15
  go_wp2
  go_ret
  exact ⟨rfl, rfl⟩
theorem szTapS_big (A : Option Addr) (n c : Nat) (w : World) (hn : 1048576 < n) (hn2 : n ≤ 9223372036854775807) : Calls Try.prog 15 #[.slice A n c, .int .i64 1048576] w fun r w' => r = .returned (.int .i64 (-1)) ∧ w = w' := by
  go_enter Try.func15, Try.ntmps15
  go_wp2
  go_ret
  exact ⟨rfl, rfl⟩
set_option maxHeartbeats 4000000 in
set_option maxRecDepth 100000 in
theorem eqTapS_any (A C : Option Addr) (n c d : Nat) (e f : Nat → TapR) (w : World) (B : Nat) (hB : B ≤ w.heap.size) (ha : Rs TapR.cells 2 w B A n e) (hc : Rs TapR.cells 2 w B C n f) (hn : n ≤ 1048576) (he : ∀ k, k < n → (e k).ok ∧ (f k).ok ∧ (e k).same (f k)) :
    Calls Try.prog 19 #[.slice A n c, .slice C n d] w fun r w' => r = .returned (.bool true) ∧ w.Since w.heap.size w' := by
  have HA := Lib.hid ha; have HC := Lib.hid hc; have HE := Lib.hid he
  clear ha hc he
  go_enter Try.func19, Try.ntmps19
  go_wp2
  go_loopw [5] (fun i wr => ∃ k : Nat, k ≤ n ∧ i = .int .i64 (k : Nat) ∧ w.Since w.heap.size wr) (fun i _ => n - (intOf i).toNat)
  case atStart => exact ⟨0, Nat.zero_le _, rfl, World.Since.refl _ _⟩
  case round =>
    obtain ⟨k, hk, rfl, hs⟩ := hrel
    have HS := Lib.hid hs
    clear hs
    by_cases hlt : k < n
    · obtain ⟨g, off, rfl, hgl, hc1⟩ := HA.out.range hlt (by rfl)
      obtain ⟨g2, off2, rfl, hgl2, hc2⟩ := HC.out.range hlt (by rfl)
      have HEQ := Lib.hid (fun W => eqTap_row (e k) (f k) W (HE.out k hlt).1 (HE.out k hlt).2.1 (HE.out k hlt).2.2)
      have R1 := Lib.hid (Lo.range_since hc1 HS.out (by omega))
      have R2 := Lib.hid (Lo.range_since hc2 HS.out (by omega))
      have hz := HS.out.size
      generalize e k = x at *
      generalize f k = y at *
      obtain ⟨x_b, x_g⟩ := x
      obtain ⟨y_b, y_g⟩ := y
      simp only [TapR.cells, TapR.val] at R1 R2 HEQ
      clear hc1 hc2
      go_wp2_with fail
      refine Lo.wp_looseG_all [] (by kernel_rfl) (by kernel_rfl) ?_
      repeat (first
        | (refine Lo.wpL_loadRow rfl 106 _ rfl (by decide) g (off + k * 2) rfl [.int .i64 x_b, .float .f32 x_g] _ Try.underlying106 rfl (by kernel_rfl) (fun v ⟨hs, dd, hv⟩ => hv ▸ Lo.range_since R1.out (Lo.mkW_since _ hs dd) (by omega)) ?_; simp only [Act.put, List.setIfInBounds_toArray, List.set_cons_succ, List.set_cons_zero])
        | (refine Lo.wpL_loadRow rfl 106 _ rfl (by decide) g2 (off2 + k * 2) rfl [.int .i64 y_b, .float .f32 y_g] _ Try.underlying106 rfl (by kernel_rfl) (fun v ⟨hs, dd, hv⟩ => hv ▸ Lo.range_since R2.out (Lo.mkW_since _ hs dd) (by omega)) ?_; simp only [Act.put, List.setIfInBounds_toArray, List.set_cons_succ, List.set_cons_zero])
        | (refine Lo.wpG_callQ rfl 67 [.tmp _, .tmp _] [.agg #[.int .i64 x_b, .float .f32 x_g], .agg #[.int .i64 y_b, .float .f32 y_g]] _ rfl (by decide) (callsEnter 67 Try.f67 _ (by kernel_rfl) (by kernel_rfl) rfl) rfl (.bool true) (fun v hv => (HEQ.out v).mono fun e v2 ⟨h1, h2⟩ => ⟨h1, Lo.mkW_mkW hv h2⟩) ?_; simp only [Act.put, List.setIfInBounds_toArray, List.set_cons_succ, List.set_cons_zero])
        | (refine Lo.wpL_move rfl _ (.inl rfl) (by decide) ?_; simp only [Act.put, List.setIfInBounds_toArray, List.set_cons_succ, List.set_cons_zero])
        | (refine Lo.wpL_move rfl _ (.inr rfl) (by decide) ?_; simp only [Act.put, List.setIfInBounds_toArray, List.set_cons_succ, List.set_cons_zero])
        | (refine Lo.wpG_fop (fun _ m h => Lo.drewG m h) rfl _ _ _ _ rfl rfl (by decide) _ _ _ _ _ rfl rfl (by assumption) (by assumption) ?_; intro rr hrr; simp only [Act.put, List.setIfInBounds_toArray, List.set_cons_succ, List.set_cons_zero])
        | (refine Lo.wpL_quiet rfl (by decide) (fun K hK => ?_); go_big_quiet_op; first | (refine hK _ ?_; clear hK K) | (refine ⟨_, fun _ _ _ _ => rfl, hK _ ?_⟩; clear hK K)))
      refine Lo.wpL_nil ?_; intro hsG dG
      refine Lo.after_nil ?_; intro nq
      generalize hwG : Lo.mkW _ hsG dG = wG
      replace hwG := Lo.sinceG hwG
      clear hsG dG
      go_wp2
      go_roundw
      case rel => exact ⟨k + 1, by omega, by go_num, since_step HS.out hwG⟩
      case measure => simp [intOf]; omega
    · go_wp2
      go_ret
      exact ⟨rfl, HS.out⟩
def TapR.wf (x : TapR) : Prop := x.ok ∧ (Lit.int .i64 x.b).wf = true
section
open Go.ChangeShapes Go.WideShapes Go.Deep
variable {H : Type} {enc : TypeId × Value → H} {P : Program} {w : World} {base : Nat}
theorem openTap_row {t : TypeId} {f0 f1 : Field} (hs : P.underlying t = some (.struct #[f0, f1])) (hone : oneCellFields P #[f0, f1] = true) (hC : P.cellsOf t = 2) (h0 : P.underlying f0.type = some (.int .i64)) (h1 : P.underlying f1.type = some (.float .f32))
    (fuel : Nat) (cs : List Value) (x : DataW H × List MemPlace) (h : DataW.trod enc P w base (fun _ => true) true fuel t cs = some x) : ∃ y : TapR, y.wf ∧ y.cells = cs := by
  obtain ⟨hl, hc⟩ := row_cells hs hone hC h
  obtain ⟨c0, y0, n0, e0, t0⟩ := hc 0 f0 rfl
  obtain ⟨x0, hx0, w0⟩ := trod_int h0 t0
  injection hx0 with hx0 _; subst hx0
  obtain ⟨c1, y1, n1, e1, t1⟩ := hc 1 f1 rfl
  obtain ⟨x1, hx1, w1⟩ := trod_fl h1 t1
  injection hx1 with hx1 _; subst hx1
  refine ⟨⟨x0, x1⟩, ⟨wf_f32 w1, w0⟩, ?_⟩
  unfold TapR.cells
  match cs, hl with
  | [d0, d1], _ =>
    have g0 : d0 = _ := Option.some.inj e0
    have g1 : d1 = _ := Option.some.inj e1
    rw [g0, g1]
end
end Go.Proofs.Ytnhlnbnldpkmiaa
