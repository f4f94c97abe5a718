/- Lists of Send as a law holds them. -/
import Derived.Test.YtmdnalkfndoicaaMa
import Derived.Test.YtmdnalkfndoicaaMc
import Derived.Test.YtmdnalkfndoicaaSf
import Derived.Test.YtmdnalkfndoicaaEa
import Derived.StillTailTactics
set_option linter.unusedVariables false
set_option linter.unusedSimpArgs false
namespace Go.Proofs.Ytmdnalkfndoicaa
open Fl Go.RowKit
structure SendR where
  f : Int
  t : Int
  g : Nat
def SendR.cells (x : SendR) : List Value := [.int .i64 x.f, .int .i64 x.t, .float .f32 x.g]
def SendR.val (x : SendR) : Value := .agg #[.int .i64 x.f, .int .i64 x.t, .float .f32 x.g]
def SendR.zero : SendR := ⟨0, 0, 0⟩
def SendR.ok (x : SendR) : Prop := x.g < 4294967296
/-- the same but for bits of not-a-numbers -/
def SendR.same (x y : SendR) : Prop := x.f = y.f ∧ x.t = y.t ∧ ab .f32 x.g = ab .f32 y.g
theorem SendR.same_refl (x : SendR) : x.same x := ⟨rfl, rfl, rfl⟩
set_option maxRecDepth 100000 in
theorem toSend_row (x : SendR) (w : World) : Calls Try.prog 75 #[x.val] w fun e w' => e = .returned x.val ∧ w.Since w.heap.size w' := by
  obtain ⟨x_f, x_t, x_g⟩ := x
  unfold SendR.val
  go_enter Try.func75, Try.ntmps75
  go_wp2
  exact bodyPost_ret (v := .agg #[.int .i64 x_f, .int .i64 x_t, .float .f32 x_g]) (by simp [results, Try.results75, go_sem]) rfl ⟨rfl, by (repeat (first | (with_reducible refine Fl.sinDrew ?_) | (with_reducible refine World.Since.drew ?_) | (with_reducible refine Fl.sinSet ?_ ?_; rotate_left) | (with_reducible refine Fl.sinAlloc ?_ ?_; rotate_left) | with_reducible exact World.Since.refl _ _ | with_reducible assumption | (with_reducible refine Fl.sinStep (by with_reducible assumption) ?_))); all_goals (first | omega | (simp; done) | (simp; omega) | (simp [go_sem]; done) | (simp [go_sem]; omega))⟩
set_option maxRecDepth 100000 in
set_option maxHeartbeats 2000000 in
theorem eqSend_row (x y : SendR) (w : World) (hx : x.ok) (hy : y.ok) (h : x.same y) : Calls Try.prog 80 #[x.val, y.val] w fun e w' => e = .returned (.bool true) ∧ w.Since w.heap.size w' := by
  obtain ⟨x_f, x_t, x_g⟩ := x
  obtain ⟨y_f, y_t, y_g⟩ := y
  unfold SendR.val
  have k_g := hx; have l_g := hy; clear hx hy
  obtain ⟨m_f, m_t, m_g⟩ := h
  simp only [SendR.ok] at *
  subst m_f
  subst m_t
  have px_g : Hid (Fv .f32 x_g (ab .f32 x_g)) := Lib.hid ⟨k_g, rfl⟩
  have py_g : Hid (Fv .f32 y_g (ab .f32 x_g)) := Lib.hid ⟨l_g, m_g.symm⟩
  clear k_g l_g m_g
  go_enter Try.func80, Try.ntmps80
  go_wp2_with (first | (with_reducible_and_instances refine Lo.wpList_wi _ rfl _ _ _ rfl _ _ rfl (by kernel_rfl) (by kernel_rfl) (by assumption) ?_; intro rr nn hrr) | (go_at_call 22; refine (sameFloat_any _ _ _ _ (by assumption : Hid _) (by assumption : Hid _)).mono ?_; rintro e w' ⟨rfl, n1, rfl⟩))
  go_ret
  exact ⟨rfl, by (repeat (first | (with_reducible refine Fl.sinDrew ?_) | (with_reducible refine World.Since.drew ?_) | (with_reducible refine Fl.sinSet ?_ ?_; rotate_left) | (with_reducible refine Fl.sinAlloc ?_ ?_; rotate_left) | with_reducible exact World.Since.refl _ _ | with_reducible assumption | (with_reducible refine Fl.sinStep (by with_reducible assumption) ?_))); all_goals (first | omega | (simp; done) | (simp; omega) | (simp [go_sem]; done) | (simp [go_sem]; omega))⟩
theorem Try.infoSend : (Try.prog.info? 92).map (fun i => (i.zero, i.size, decide (i.bytes ≤ 1024))) = some (some (.agg #[.int .i64 0, .int .i64 0, .float .f32 0]), 3, true) := by kernel_rfl
set_option maxHeartbeats 4000000 in
set_option maxRecDepth 100000 in
theorem toSendS_any (A : Option Addr) (n c : Nat) (e : Nat → SendR) (W v : World) (h : Rs SendR.cells 3 W W.heap.size A n e) (s : W.Since W.heap.size v) (hn : n ≤ 1048576) :
    Calls Try.prog 40 #[.slice A n c] v fun r v' => r = .returned (.slice (some ⟨v.heap.size, 0, none⟩) n n) ∧ Ge v.heap.size v' (se SendR.cells 3 92 (some ⟨v.heap.size, 0, none⟩) n e) ∧ v.Since v.heap.size v' := by
  have H := Lib.hid (h.now s)
  clear h s
  obtain ⟨i0, hi, hzz⟩ := Option.map_eq_some_iff.1 Try.infoSend
  simp only [Prod.mk.injEq] at hzz
  obtain ⟨hz0, hz1, hz2⟩ := hzz
  have hby : i0.bytes ≤ 1024 := of_decide_eq_true hz2
  have hbn : (i0.bytes : Int) * (n : Int) ≤ 281474976710656 := by
    have : i0.bytes * n ≤ 1024 * 1048576 := Nat.mul_le_mul hby hn
    rw [← Int.natCast_mul]
    omega
  have hmk := fun (w : World) => run_make (P := Try.prog) w 53 92 i0 (.agg #[.int .i64 0, .int .i64 0, .float .f32 0]) Try.underlying53 hi hz0 .i64 .i64 (n : Int) (n : Int) (by omega) (Int.le_refl _) hbn (by omega)
  simp only [Int.toNat_natCast, hz1] at hmk
  have hzc : (Value.agg #[.int .i64 0, .int .i64 0, .float .f32 0]).cells = #[.int .i64 0, .int .i64 0, .float .f32 0] := by rfl
  rw [hzc] at hmk
  have hzero : (SendR.cells SendR.zero).toArray = #[.int .i64 0, .int .i64 0, .float .f32 0] := rfl
  have hmd := Lib.hid (GF.made (cells := SendR.cells) (s := 3) v 92 #[.int .i64 0, .int .i64 0, .float .f32 0] SendR.zero n hzero rfl (by decide))
  clear hi hz0 hz1 hz2 hby hbn hzc hzero
  go_enter Try.func40, Try.ntmps40
  go_wp2
  go_loopw [4] (fun i wr => ∃ k : Nat, k ≤ n ∧ i = .int .i64 (k : Nat) ∧ GF wr v.heap.size 92 (n * 3) (ceL SendR.cells 3 fun i => if i < k then e i else SendR.zero) ∧ v.Since v.heap.size wr) (fun i _ => n - (intOf i).toNat)
  case atStart => exact ⟨0, Nat.zero_le _, rfl, hmd.out, (World.Since.refl _ _).alloc (Nat.le_refl _) _⟩
  case round =>
    obtain ⟨k, hk, rfl, hg, hs⟩ := hrel
    have HG := Lib.hid hg; have HS := Lib.hid hs
    clear hg hs hmd
    by_cases hlt : k < n
    · obtain ⟨g, off, rfl, hgl, hc⟩ := H.out.at_ hlt
      have HTO := Lib.hid (toSend_row (e k))
      have HE := Lib.hid (show ∀ j, j < n * 3 → ceL SendR.cells 3 (fun i => if i < k + 1 then e i else SendR.zero) j = if k * 3 ≤ j ∧ j < k * 3 + 3 then ((e k).cells).getD (j - k * 3) undef else ceL SendR.cells 3 (fun i => if i < k then e i else SendR.zero) j from fun j hj => by
        rw [← ceL_upd _ k (e k) (by decide) j]
        congr 1
        funext i
        unfold upd
        by_cases h1 : i = k
        · subst h1; rw [if_pos (by omega), if_pos rfl]
        · rw [if_neg h1]
          by_cases h2 : i < k
          · rw [if_pos (by omega)]; simp only [if_pos h2]
          · rw [if_neg (by omega)]; simp only [if_neg h2])
      have hc0 := (HS.out.cell (a := ⟨g, off + k * 3 + 0, none⟩) hgl).trans (hc 0 (by decide))
      have hc1 := (HS.out.cell (a := ⟨g, off + k * 3 + 1, none⟩) hgl).trans (hc 1 (by decide))
      have hc2 := (HS.out.cell (a := ⟨g, off + k * 3 + 2, none⟩) hgl).trans (hc 2 (by decide))
      have hkk : k * 3 + 3 ≤ n * 3 := by omega
      generalize e k = y at *
      obtain ⟨y_f, y_t, y_g⟩ := y
      simp only [SendR.cells, SendR.val, List.getD_cons_zero, List.getD_cons_succ, Nat.add_zero] at hc0 hc1 hc2 HTO HE
      clear hc
      go_wp2_with fail
      refine (HTO.out _).mono ?_
      rintro r w2 ⟨rfl, hs2⟩
      have HG2 := Lib.hid (HG.out.of (hs2.block _ HG.out.lt))
      have HS2 := Lib.hid (since_step HS.out hs2)
      clear hs2 HG hc0 hc1 hc2
      have hd0 := HG2.out.cell (j := k * 3 + 0) (by omega)
      have hf0 := HG2.out.free (k * 3 + 0)
      have hd1 := HG2.out.cell (j := k * 3 + 1) (by omega)
      have hf1 := HG2.out.free (k * 3 + 1)
      have hd2 := HG2.out.cell (j := k * 3 + 2) (by omega)
      have hf2 := HG2.out.free (k * 3 + 2)
      simp only [Nat.add_zero] at hd0 hf0 hd1 hf1 hd2 hf2
      generalize ceL SendR.cells 3 (fun i => if i < k then e i else SendR.zero) (k * 3) = u0q at hd0
      generalize ceL SendR.cells 3 (fun i => if i < k then e i else SendR.zero) (k * 3 + 1) = u1q at hd1
      generalize ceL SendR.cells 3 (fun i => if i < k then e i else SendR.zero) (k * 3 + 2) = u2q at hd2
      go_wp2
      go_roundw
      case rel =>
        refine ⟨k + 1, by omega, by go_num, ?_, ((HS2.out.setCell (Nat.le_refl _) _).setCell (Nat.le_refl _) _).setCell (Nat.le_refl _) _⟩
        refine (((HG2.out.set (k * 3) _).set (k * 3 + 1) _).set (k * 3 + 2) _).congr (fun j hj => ?_)
        rw [HE.out j hj]
        by_cases h : k * 3 ≤ j ∧ j < k * 3 + 3
        · rw [if_pos h]
          obtain rfl | rfl | rfl : j = k * 3 + 0 ∨ j = k * 3 + 1 ∨ j = k * 3 + 2 := by omega
          all_goals simp
        · rw [if_neg h, if_neg (by omega), if_neg (by omega), if_neg (by omega)]
      case measure => simp [intOf]; omega
    · obtain rfl : k = n := by omega
      go_wp2
      go_ret
      refine ⟨rfl, GF.entry (HG.out.congr fun j hj => ?_) (Nat.le_refl _), HS.out⟩
      unfold ceL
      dsimp only
      rw [if_pos (Nat.div_lt_of_lt_mul (by rw [Nat.mul_comm]; exact hj))]
theorem szSendS_any (A : Option Addr) (n c : Nat) (w : World) (hn : n ≤ 1048576) : Calls Try.prog 38 #[.slice A n c, .int .i64 1048576] w fun r w' => r = .returned (.int .i64 (1048576 - (n : Int))) ∧ w = w' := by
  go_enter Try.func38, Try.ntmps38
  go_wp2
  go_ret
  exact ⟨rfl, rfl⟩
theorem szSendS_big (A : Option Addr) (n c : Nat) (w : World) (hn : 1048576 < n) (hn2 : n ≤ 9223372036854775807) : Calls Try.prog 38 #[.slice A n c, .int .i64 1048576] w fun r w' => r = .returned (.int .i64 (-1)) ∧ w = w' := by
  go_enter Try.func38, Try.ntmps38
  go_wp2
  go_ret
  exact ⟨rfl, rfl⟩
set_option maxHeartbeats 4000000 in
set_option maxRecDepth 100000 in
theorem eqSendS_any (A C : Option Addr) (n c d : Nat) (e f : Nat → SendR) (w : World) (B : Nat) (hB : B ≤ w.heap.size) (ha : Rs SendR.cells 3 w B A n e) (hc : Rs SendR.cells 3 w B C n f) (hn : n ≤ 1048576) (he : ∀ k, k < n → (e k).ok ∧ (f k).ok ∧ (e k).same (f k)) :
    Calls Try.prog 42 #[.slice A n c, .slice C n d] w fun r w' => r = .returned (.bool true) ∧ w.Since w.heap.size w' := by
  have HA := Lib.hid ha; have HC := Lib.hid hc; have HE := Lib.hid he
  clear ha hc he
  go_enter Try.func42, Try.ntmps42
  go_wp2
  go_loopw [5] (fun i wr => ∃ k : Nat, k ≤ n ∧ i = .int .i64 (k : Nat) ∧ w.Since w.heap.size wr) (fun i _ => n - (intOf i).toNat)
  case atStart => exact ⟨0, Nat.zero_le _, rfl, World.Since.refl _ _⟩
  case round =>
    obtain ⟨k, hk, rfl, hs⟩ := hrel
    have HS := Lib.hid hs
    clear hs
    by_cases hlt : k < n
    · obtain ⟨g, off, rfl, hgl, hc1⟩ := HA.out.range hlt (by rfl)
      obtain ⟨g2, off2, rfl, hgl2, hc2⟩ := HC.out.range hlt (by rfl)
      have HEQ := Lib.hid (fun W => eqSend_row (e k) (f k) W (HE.out k hlt).1 (HE.out k hlt).2.1 (HE.out k hlt).2.2)
      have R1 := Lib.hid (Lo.range_since hc1 HS.out (by omega))
      have R2 := Lib.hid (Lo.range_since hc2 HS.out (by omega))
      have hz := HS.out.size
      generalize e k = x at *
      generalize f k = y at *
      obtain ⟨x_f, x_t, x_g⟩ := x
      obtain ⟨y_f, y_t, y_g⟩ := y
      simp only [SendR.cells, SendR.val] at R1 R2 HEQ
      clear hc1 hc2
      go_wp2_with fail
      refine Lo.wp_looseG_all [] (by kernel_rfl) (by kernel_rfl) ?_
      repeat (first
        | (refine Lo.wpL_loadRow rfl 92 _ rfl (by decide) g (off + k * 3) rfl [.int .i64 x_f, .int .i64 x_t, .float .f32 x_g] _ Try.underlying92 rfl (by kernel_rfl) (fun v ⟨hs, dd, hv⟩ => hv ▸ Lo.range_since R1.out (Lo.mkW_since _ hs dd) (by omega)) ?_; simp only [Act.put, List.setIfInBounds_toArray, List.set_cons_succ, List.set_cons_zero])
        | (refine Lo.wpL_loadRow rfl 92 _ rfl (by decide) g2 (off2 + k * 3) rfl [.int .i64 y_f, .int .i64 y_t, .float .f32 y_g] _ Try.underlying92 rfl (by kernel_rfl) (fun v ⟨hs, dd, hv⟩ => hv ▸ Lo.range_since R2.out (Lo.mkW_since _ hs dd) (by omega)) ?_; simp only [Act.put, List.setIfInBounds_toArray, List.set_cons_succ, List.set_cons_zero])
        | (refine Lo.wpG_callQ rfl 80 [.tmp _, .tmp _] [.agg #[.int .i64 x_f, .int .i64 x_t, .float .f32 x_g], .agg #[.int .i64 y_f, .int .i64 y_t, .float .f32 y_g]] _ rfl (by decide) (callsEnter 80 Try.f80 _ (by kernel_rfl) (by kernel_rfl) rfl) rfl (.bool true) (fun v hv => (HEQ.out v).mono fun e v2 ⟨h1, h2⟩ => ⟨h1, Lo.mkW_mkW hv h2⟩) ?_; simp only [Act.put, List.setIfInBounds_toArray, List.set_cons_succ, List.set_cons_zero])
        | (refine Lo.wpL_move rfl _ (.inl rfl) (by decide) ?_; simp only [Act.put, List.setIfInBounds_toArray, List.set_cons_succ, List.set_cons_zero])
        | (refine Lo.wpL_move rfl _ (.inr rfl) (by decide) ?_; simp only [Act.put, List.setIfInBounds_toArray, List.set_cons_succ, List.set_cons_zero])
        | (refine Lo.wpG_fop (fun _ m h => Lo.drewG m h) rfl _ _ _ _ rfl rfl (by decide) _ _ _ _ _ rfl rfl (by assumption) (by assumption) ?_; intro rr hrr; simp only [Act.put, List.setIfInBounds_toArray, List.set_cons_succ, List.set_cons_zero])
        | (refine Lo.wpL_quiet rfl (by decide) (fun K hK => ?_); go_big_quiet_op; first | (refine hK _ ?_; clear hK K) | (refine ⟨_, fun _ _ _ _ => rfl, hK _ ?_⟩; clear hK K)))
      refine Lo.wpL_nil ?_; intro hsG dG
      refine Lo.after_nil ?_; intro nq
      generalize hwG : Lo.mkW _ hsG dG = wG
      replace hwG := Lo.sinceG hwG
      clear hsG dG
      go_wp2
      go_roundw
      case rel => exact ⟨k + 1, by omega, by go_num, since_step HS.out hwG⟩
      case measure => simp [intOf]; omega
    · go_wp2
      go_ret
      exact ⟨rfl, HS.out⟩
def SendR.wf (x : SendR) : Prop := x.ok ∧ (Lit.int .i64 x.f).wf = true ∧ (Lit.int .i64 x.t).wf = true
section
open Go.ChangeShapes Go.WideShapes Go.Deep
variable {H : Type} {enc : TypeId × Value → H} {P : Program} {w : World} {base : Nat}
theorem openSend_row {t : TypeId} {f0 f1 f2 : Field} (hs : P.underlying t = some (.struct #[f0, f1, f2])) (hone : oneCellFields P #[f0, f1, f2] = true) (hC : P.cellsOf t = 3) (h0 : P.underlying f0.type = some (.int .i64)) (h1 : P.underlying f1.type = some (.int .i64)) (h2 : P.underlying f2.type = some (.float .f32))
    (fuel : Nat) (cs : List Value) (x : DataW H × List MemPlace) (h : DataW.trod enc P w base (fun _ => true) true fuel t cs = some x) : ∃ y : SendR, y.wf ∧ y.cells = cs := by
  obtain ⟨hl, hc⟩ := row_cells hs hone hC h
  obtain ⟨c0, y0, n0, e0, t0⟩ := hc 0 f0 rfl
  obtain ⟨x0, hx0, w0⟩ := trod_int h0 t0
  injection hx0 with hx0 _; subst hx0
  obtain ⟨c1, y1, n1, e1, t1⟩ := hc 1 f1 rfl
  obtain ⟨x1, hx1, w1⟩ := trod_int h1 t1
  injection hx1 with hx1 _; subst hx1
  obtain ⟨c2, y2, n2, e2, t2⟩ := hc 2 f2 rfl
  obtain ⟨x2, hx2, w2⟩ := trod_fl h2 t2
  injection hx2 with hx2 _; subst hx2
  refine ⟨⟨x0, x1, x2⟩, ⟨wf_f32 w2, w0, w1⟩, ?_⟩
  unfold SendR.cells
  match cs, hl with
  | [d0, d1, d2], _ =>
    have g0 : d0 = _ := Option.some.inj e0
    have g1 : d1 = _ := Option.some.inj e1
    have g2 : d2 = _ := Option.some.inj e2
    rw [g0, g1, g2]
end
/-- what a mark leaves -/
def SendR.mkd (k0 : Nat) (i : Nat) : SendR := ⟨((k0 + i * 3 + 0 : Nat) : Int), ((k0 + i * 3 + 1 : Nat) : Int), floatOfInt .f32 ((k0 + i * 3 + 2 : Nat) : Int)⟩
set_option maxHeartbeats 4000000 in
set_option maxRecDepth 100000 in
theorem markSendS_any (g n : Nat) (e : Nat → SendR) (c k0 : Nat) (K : Int) (v : World) (B : Nat) (r : List En) (h : He B v (se SendR.cells 3 92 (some ⟨g, 0, none⟩) n e :: r)) (hn : n ≤ 1048576) (hk0 : k0 ≤ 1073741824) (hK : K = (k0 : Nat)) :
    Calls Try.prog 46 #[.slice (some ⟨g, 0, none⟩) n c, .int .i64 K] v fun r1 v' => r1 = .returned (.int .i64 ((k0 + n * 3 : Nat) : Int)) ∧ He B v' (se SendR.cells 3 92 (some ⟨g, 0, none⟩) n (SendR.mkd k0) :: r) ∧ v.Since B v' := by
  subst hK
  have HH := Lib.hid h
  by_cases hpos : 0 < n
  · obtain ⟨g1, off1, cs1, e1, hg, hgl, hb, hc⟩ := h.1.1.ce (Nat.mul_pos hpos (by decide))
    injection e1 with e1; injection e1 with e1 e2 _; subst e1; subst e2
    have HG0 : Hid (GF v g 92 (n * 3) (ceL SendR.cells 3 e)) := Lib.hid ⟨cs1, hb, fun j hj => by have := hc j hj; rwa [Nat.zero_add] at this⟩
    clear hb hc h
    go_enter Try.func46, Try.ntmps46
    go_wp2
    go_loopw [1, 5] (fun kv i wr => ∃ k : Nat, k ≤ n ∧ i = .int .i64 (k : Nat) ∧ kv = .int .i64 ((k0 + k * 3 : Nat) : Int) ∧ GF wr g 92 (n * 3) (ceL SendR.cells 3 fun i => if i < k then SendR.mkd k0 i else e i) ∧ v.Since B wr ∧ wr.heap.size = v.heap.size ∧ (∀ b, b ≠ g → wr.heap[b]? = v.heap[b]?)) (fun _ i _ => n - (intOf i).toNat)
    case atStart => exact ⟨0, Nat.zero_le _, rfl, by simp, HG0.out.congr (fun j hj => by unfold ceL; simp), World.Since.refl _ _, rfl, fun _ _ => rfl⟩
    case round =>
      obtain ⟨k, hk, rfl, rfl, hgf, hs, hsz, hoth⟩ := hrel
      have HG2 := Lib.hid hgf; have HS := Lib.hid hs; have HZ := Lib.hid hsz; have HO := Lib.hid hoth
      clear hgf hs hsz hoth HG0
      by_cases hlt : k < n
      · have HE := Lib.hid (show ∀ j, j < n * 3 → ceL SendR.cells 3 (fun i => if i < k + 1 then SendR.mkd k0 i else e i) j = if k * 3 ≤ j ∧ j < k * 3 + 3 then ((SendR.mkd k0 k).cells).getD (j - k * 3) undef else ceL SendR.cells 3 (fun i => if i < k then SendR.mkd k0 i else e i) j from fun j hj => by
          rw [← ceL_upd _ k (SendR.mkd k0 k) (by decide) j]
          congr 1
          funext i
          unfold upd
          by_cases h1 : i = k
          · subst h1; rw [if_pos (by omega), if_pos rfl]
          · rw [if_neg h1]
            by_cases h2 : i < k
            · rw [if_pos (by omega)]; simp only [if_pos h2]
            · rw [if_neg (by omega)]; simp only [if_neg h2])
        have hkk : k * 3 + 3 ≤ n * 3 := by omega
        have hsp : Hid (∀ B', B' ≤ g → True) := Lib.hid fun _ _ => trivial
        have hd0 := HG2.out.cell (j := k * 3 + 0) (by omega)
        have hf0 := HG2.out.free (k * 3 + 0)
        have hd1 := HG2.out.cell (j := k * 3 + 1) (by omega)
        have hf1 := HG2.out.free (k * 3 + 1)
        have hd2 := HG2.out.cell (j := k * 3 + 2) (by omega)
        have hf2 := HG2.out.free (k * 3 + 2)
        simp only [Nat.add_zero] at hd0 hf0 hd1 hf1 hd2 hf2
        generalize ceL SendR.cells 3 (fun i => if i < k then SendR.mkd k0 i else e i) (k * 3) = u0q at hd0
        generalize ceL SendR.cells 3 (fun i => if i < k then SendR.mkd k0 i else e i) (k * 3 + 1) = u1q at hd1
        generalize ceL SendR.cells 3 (fun i => if i < k then SendR.mkd k0 i else e i) (k * 3 + 2) = u2q at hd2
        go_wp2
        go_roundw
        case rel =>
          refine ⟨k + 1, by omega, by go_num, by go_num, ?_, ((HS.out.setCell hg _).setCell hg _).setCell hg _, by simp only [Go.Deep.nblk_setCell]; exact HZ.out, fun b hb => ?_⟩
          · refine (((HG2.out.set (k * 3) _).set (k * 3 + 1) _).set (k * 3 + 2) _).congr (fun j hj => ?_)
            rw [HE.out j hj]
            by_cases h : k * 3 ≤ j ∧ j < k * 3 + 3
            · rw [if_pos h]
              obtain rfl | rfl | rfl : j = k * 3 + 0 ∨ j = k * 3 + 1 ∨ j = k * 3 + 2 := by omega
              all_goals simp [SendR.cells, SendR.mkd, Nat.add_assoc, Int.add_assoc]
            · rw [if_neg h, if_neg (by omega), if_neg (by omega), if_neg (by omega)]
          · rw [Go.Deep.blk_setCell_other _ _ _ _ hb]; rw [Go.Deep.blk_setCell_other _ _ _ _ hb]; rw [Go.Deep.blk_setCell_other _ _ _ _ hb]; exact HO.out b hb
        case measure => simp [intOf]; omega
      · obtain rfl : k = n := by omega
        go_wp2
        go_ret
        refine ⟨rfl, HH.out.mark_hd (GF.entry (HG2.out.congr fun j hj => ?_) hg) rfl (fun b hb => HO.out b fun e => hb ⟨Nat.mul_pos hpos (by decide), 0, by rw [e]⟩) (by rw [HZ.out]; exact Nat.le_refl _), HS.out⟩
        unfold ceL
        dsimp only
        rw [if_pos (Nat.div_lt_of_lt_mul (by rw [Nat.mul_comm]; exact hj))]
  · obtain rfl : n = 0 := by omega
    clear h
    go_enter Try.func46, Try.ntmps46
    go_wp2
    go_loopw [1, 5] (fun kv i wr => i = .int .i64 0 ∧ kv = .int .i64 k0 ∧ wr = v) (fun _ _ _ => 0)
    case atStart => exact ⟨rfl, rfl, rfl⟩
    case round =>
      obtain ⟨rfl, rfl, rfl⟩ := hrel
      go_wp2
      go_ret
      exact ⟨by simp, HH.out.mark_hd (ce_ge trivial (fun h => by omega)) (funext fun g => by simp [se, ce]) (fun _ _ => rfl) (Nat.le_refl _), World.Since.refl _ _⟩
end Go.Proofs.Ytmdnalkfndoicaa
