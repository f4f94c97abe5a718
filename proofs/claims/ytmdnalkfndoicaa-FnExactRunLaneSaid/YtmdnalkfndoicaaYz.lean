/- Joined: Ya Yb Yf Yc Yd Yg Yh Yi Yk Yl Ym Yn Yj -/
import Derived.Test.YtmdnalkfndoicaaMa
import Derived.Test.YtmdnalkfndoicaaMc
import Derived.Test.YtmdnalkfndoicaaSf
import Derived.Test.YtmdnalkfndoicaaEa
import Derived.StillTailTactics
import Derived.Test.YtmdnalkfndoicaaHb
import Derived.Test.YtmdnalkfndoicaaVb
import Derived.Test.YtmdnalkfndoicaaVa
import Derived.PlainAid
import Derived.Test.YtmdnalkfndoicaaLg
import Derived.RegionTactic
/- Lists of Point as a law holds them. -/
set_option linter.unusedVariables false
set_option linter.unusedSimpArgs false
namespace Go.Proofs.Ytmdnalkfndoicaa
open Fl Go.RowKit
structure PointR where
  a : Int
  v : Nat
def PointR.cells (x : PointR) : List Value := [.int .i64 x.a, .float .f32 x.v]
def PointR.val (x : PointR) : Value := .agg #[.int .i64 x.a, .float .f32 x.v]
def PointR.zero : PointR := ⟨0, 0⟩
def PointR.ok (x : PointR) : Prop := x.v < 4294967296
/-- the same but for bits of not-a-numbers -/
def PointR.same (x y : PointR) : Prop := x.a = y.a ∧ ab .f32 x.v = ab .f32 y.v
theorem PointR.same_refl (x : PointR) : x.same x := ⟨rfl, rfl⟩
set_option maxRecDepth 100000 in
theorem toPoint_row (x : PointR) (w : World) : Calls Try.prog 56 #[x.val] w fun e w' => e = .returned x.val ∧ w.Since w.heap.size w' := by
  obtain ⟨x_a, x_v⟩ := x
  unfold PointR.val
  go_enter Try.func56, Try.ntmps56
  go_wp2
  exact bodyPost_ret (v := .agg #[.int .i64 x_a, .float .f32 x_v]) (by simp [results, Try.results56, go_sem]) rfl ⟨rfl, by (repeat (first | (with_reducible refine Fl.sinDrew ?_) | (with_reducible refine World.Since.drew ?_) | (with_reducible refine Fl.sinSet ?_ ?_; rotate_left) | (with_reducible refine Fl.sinAlloc ?_ ?_; rotate_left) | with_reducible exact World.Since.refl _ _ | with_reducible assumption | (with_reducible refine Fl.sinStep (by with_reducible assumption) ?_))); all_goals (first | omega | (simp; done) | (simp; omega) | (simp [go_sem]; done) | (simp [go_sem]; omega))⟩
set_option maxRecDepth 100000 in
set_option maxHeartbeats 2000000 in
theorem eqPoint_row (x y : PointR) (w : World) (hx : x.ok) (hy : y.ok) (h : x.same y) : Calls Try.prog 58 #[x.val, y.val] w fun e w' => e = .returned (.bool true) ∧ w.Since w.heap.size w' := by
  obtain ⟨x_a, x_v⟩ := x
  obtain ⟨y_a, y_v⟩ := y
  unfold PointR.val
  have k_v := hx; have l_v := hy; clear hx hy
  obtain ⟨m_a, m_v⟩ := h
  simp only [PointR.ok] at *
  subst m_a
  have px_v : Hid (Fv .f32 x_v (ab .f32 x_v)) := Lib.hid ⟨k_v, rfl⟩
  have py_v : Hid (Fv .f32 y_v (ab .f32 x_v)) := Lib.hid ⟨l_v, m_v.symm⟩
  clear k_v l_v m_v
  go_enter Try.func58, Try.ntmps58
  go_wp2_with (first | (with_reducible_and_instances refine Lo.wpList_wi _ rfl _ _ _ rfl _ _ rfl (by kernel_rfl) (by kernel_rfl) (by assumption) ?_; intro rr nn hrr) | (go_at_call 22; refine (sameFloat_any _ _ _ _ (by assumption : Hid _) (by assumption : Hid _)).mono ?_; rintro e w' ⟨rfl, n1, rfl⟩))
  go_ret
  exact ⟨rfl, by (repeat (first | (with_reducible refine Fl.sinDrew ?_) | (with_reducible refine World.Since.drew ?_) | (with_reducible refine Fl.sinSet ?_ ?_; rotate_left) | (with_reducible refine Fl.sinAlloc ?_ ?_; rotate_left) | with_reducible exact World.Since.refl _ _ | with_reducible assumption | (with_reducible refine Fl.sinStep (by with_reducible assumption) ?_))); all_goals (first | omega | (simp; done) | (simp; omega) | (simp [go_sem]; done) | (simp [go_sem]; omega))⟩
theorem Try.infoPoint : (Try.prog.info? 69).map (fun i => (i.zero, i.size, decide (i.bytes ≤ 1024))) = some (some (.agg #[.int .i64 0, .float .f32 0]), 2, true) := by kernel_rfl
set_option maxHeartbeats 4000000 in
set_option maxRecDepth 100000 in
theorem toPointS_any (A : Option Addr) (n c : Nat) (e : Nat → PointR) (W v : World) (h : Rs PointR.cells 2 W W.heap.size A n e) (s : W.Since W.heap.size v) (hn : n ≤ 1048576) :
    Calls Try.prog 17 #[.slice A n c] v fun r v' => r = .returned (.slice (some ⟨v.heap.size, 0, none⟩) n n) ∧ Ge v.heap.size v' (se PointR.cells 2 69 (some ⟨v.heap.size, 0, none⟩) n e) ∧ v.Since v.heap.size v' := by
  have H := Lib.hid (h.now s)
  clear h s
  obtain ⟨i0, hi, hzz⟩ := Option.map_eq_some_iff.1 Try.infoPoint
  simp only [Prod.mk.injEq] at hzz
  obtain ⟨hz0, hz1, hz2⟩ := hzz
  have hby : i0.bytes ≤ 1024 := of_decide_eq_true hz2
  have hbn : (i0.bytes : Int) * (n : Int) ≤ 281474976710656 := by
    have : i0.bytes * n ≤ 1024 * 1048576 := Nat.mul_le_mul hby hn
    rw [← Int.natCast_mul]
    omega
  have hmk := fun (w : World) => run_make (P := Try.prog) w 25 69 i0 (.agg #[.int .i64 0, .float .f32 0]) Try.underlying25 hi hz0 .i64 .i64 (n : Int) (n : Int) (by omega) (Int.le_refl _) hbn (by omega)
  simp only [Int.toNat_natCast, hz1] at hmk
  have hzc : (Value.agg #[.int .i64 0, .float .f32 0]).cells = #[.int .i64 0, .float .f32 0] := by rfl
  rw [hzc] at hmk
  have hzero : (PointR.cells PointR.zero).toArray = #[.int .i64 0, .float .f32 0] := rfl
  have hmd := Lib.hid (GF.made (cells := PointR.cells) (s := 2) v 69 #[.int .i64 0, .float .f32 0] PointR.zero n hzero rfl (by decide))
  clear hi hz0 hz1 hz2 hby hbn hzc hzero
  go_enter Try.func17, Try.ntmps17
  go_wp2
  go_loopw [4] (fun i wr => ∃ k : Nat, k ≤ n ∧ i = .int .i64 (k : Nat) ∧ GF wr v.heap.size 69 (n * 2) (ceL PointR.cells 2 fun i => if i < k then e i else PointR.zero) ∧ v.Since v.heap.size wr) (fun i _ => n - (intOf i).toNat)
  case atStart => exact ⟨0, Nat.zero_le _, rfl, hmd.out, (World.Since.refl _ _).alloc (Nat.le_refl _) _⟩
  case round =>
    obtain ⟨k, hk, rfl, hg, hs⟩ := hrel
    have HG := Lib.hid hg; have HS := Lib.hid hs
    clear hg hs hmd
    by_cases hlt : k < n
    · obtain ⟨g, off, rfl, hgl, hc⟩ := H.out.at_ hlt
      have HTO := Lib.hid (toPoint_row (e k))
      have HE := Lib.hid (show ∀ j, j < n * 2 → ceL PointR.cells 2 (fun i => if i < k + 1 then e i else PointR.zero) j = if k * 2 ≤ j ∧ j < k * 2 + 2 then ((e k).cells).getD (j - k * 2) undef else ceL PointR.cells 2 (fun i => if i < k then e i else PointR.zero) j from fun j hj => by
        rw [← ceL_upd _ k (e k) (by decide) j]
        congr 1
        funext i
        unfold upd
        by_cases h1 : i = k
        · subst h1; rw [if_pos (by omega), if_pos rfl]
        · rw [if_neg h1]
          by_cases h2 : i < k
          · rw [if_pos (by omega)]; simp only [if_pos h2]
          · rw [if_neg (by omega)]; simp only [if_neg h2])
      have hc0 := (HS.out.cell (a := ⟨g, off + k * 2 + 0, none⟩) hgl).trans (hc 0 (by decide))
      have hc1 := (HS.out.cell (a := ⟨g, off + k * 2 + 1, none⟩) hgl).trans (hc 1 (by decide))
      have hkk : k * 2 + 2 ≤ n * 2 := by omega
      generalize e k = y at *
      obtain ⟨y_a, y_v⟩ := y
      simp only [PointR.cells, PointR.val, List.getD_cons_zero, List.getD_cons_succ, Nat.add_zero] at hc0 hc1 HTO HE
      clear hc
      go_wp2_with fail
      refine (HTO.out _).mono ?_
      rintro r w2 ⟨rfl, hs2⟩
      have HG2 := Lib.hid (HG.out.of (hs2.block _ HG.out.lt))
      have HS2 := Lib.hid (since_step HS.out hs2)
      clear hs2 HG hc0 hc1
      have hd0 := HG2.out.cell (j := k * 2 + 0) (by omega)
      have hf0 := HG2.out.free (k * 2 + 0)
      have hd1 := HG2.out.cell (j := k * 2 + 1) (by omega)
      have hf1 := HG2.out.free (k * 2 + 1)
      simp only [Nat.add_zero] at hd0 hf0 hd1 hf1
      generalize ceL PointR.cells 2 (fun i => if i < k then e i else PointR.zero) (k * 2) = u0q at hd0
      generalize ceL PointR.cells 2 (fun i => if i < k then e i else PointR.zero) (k * 2 + 1) = u1q at hd1
      go_wp2
      go_roundw
      case rel =>
        refine ⟨k + 1, by omega, by go_num, ?_, (HS2.out.setCell (Nat.le_refl _) _).setCell (Nat.le_refl _) _⟩
        refine ((HG2.out.set (k * 2) _).set (k * 2 + 1) _).congr (fun j hj => ?_)
        rw [HE.out j hj]
        by_cases h : k * 2 ≤ j ∧ j < k * 2 + 2
        · rw [if_pos h]
          obtain rfl | rfl : j = k * 2 + 0 ∨ j = k * 2 + 1 := by omega
          all_goals simp
        · rw [if_neg h, if_neg (by omega), if_neg (by omega)]
      case measure => simp [intOf]; omega
    · obtain rfl : k = n := by omega
      go_wp2
      go_ret
      refine ⟨rfl, GF.entry (HG.out.congr fun j hj => ?_) (Nat.le_refl _), HS.out⟩
      unfold ceL
      dsimp only
      rw [if_pos (Nat.div_lt_of_lt_mul (by rw [Nat.mul_comm]; exact hj))]
theorem szPointS_any (A : Option Addr) (n c : Nat) (w : World) (hn : n ≤ 1048576) : Calls Try.prog 15 #[.slice A n c, .int .i64 1048576] w fun r w' => r = .returned (.int .i64 (1048576 - (n : Int))) ∧ w = w' := by
  go_enter Try.func15, Try.ntmps15
  go_wp2
  go_ret
  exact ⟨rfl, rfl⟩
theorem szPointS_big (A : Option Addr) (n c : Nat) (w : World) (hn : 1048576 < n) (hn2 : n ≤ 9223372036854775807) : Calls Try.prog 15 #[.slice A n c, .int .i64 1048576] w fun r w' => r = .returned (.int .i64 (-1)) ∧ w = w' := by
  go_enter Try.func15, Try.ntmps15
  go_wp2
  go_ret
  exact ⟨rfl, rfl⟩
set_option maxHeartbeats 4000000 in
set_option maxRecDepth 100000 in
theorem eqPointS_any (A C : Option Addr) (n c d : Nat) (e f : Nat → PointR) (w : World) (B : Nat) (hB : B ≤ w.heap.size) (ha : Rs PointR.cells 2 w B A n e) (hc : Rs PointR.cells 2 w B C n f) (hn : n ≤ 1048576) (he : ∀ k, k < n → (e k).ok ∧ (f k).ok ∧ (e k).same (f k)) :
    Calls Try.prog 19 #[.slice A n c, .slice C n d] w fun r w' => r = .returned (.bool true) ∧ w.Since w.heap.size w' := by
  have HA := Lib.hid ha; have HC := Lib.hid hc; have HE := Lib.hid he
  clear ha hc he
  go_enter Try.func19, Try.ntmps19
  go_wp2
  go_loopw [5] (fun i wr => ∃ k : Nat, k ≤ n ∧ i = .int .i64 (k : Nat) ∧ w.Since w.heap.size wr) (fun i _ => n - (intOf i).toNat)
  case atStart => exact ⟨0, Nat.zero_le _, rfl, World.Since.refl _ _⟩
  case round =>
    obtain ⟨k, hk, rfl, hs⟩ := hrel
    have HS := Lib.hid hs
    clear hs
    by_cases hlt : k < n
    · obtain ⟨g, off, rfl, hgl, hc1⟩ := HA.out.range hlt (by rfl)
      obtain ⟨g2, off2, rfl, hgl2, hc2⟩ := HC.out.range hlt (by rfl)
      have HEQ := Lib.hid (fun W => eqPoint_row (e k) (f k) W (HE.out k hlt).1 (HE.out k hlt).2.1 (HE.out k hlt).2.2)
      have R1 := Lib.hid (Lo.range_since hc1 HS.out (by omega))
      have R2 := Lib.hid (Lo.range_since hc2 HS.out (by omega))
      have hz := HS.out.size
      generalize e k = x at *
      generalize f k = y at *
      obtain ⟨x_a, x_v⟩ := x
      obtain ⟨y_a, y_v⟩ := y
      simp only [PointR.cells, PointR.val] at R1 R2 HEQ
      clear hc1 hc2
      go_wp2_with fail
      refine Lo.wp_looseG_all [] (by kernel_rfl) (by kernel_rfl) ?_
      repeat (first
        | (refine Lo.wpL_loadRow rfl 69 _ rfl (by decide) g (off + k * 2) rfl [.int .i64 x_a, .float .f32 x_v] _ Try.underlying69 rfl (by kernel_rfl) (fun v ⟨hs, dd, hv⟩ => hv ▸ Lo.range_since R1.out (Lo.mkW_since _ hs dd) (by omega)) ?_; simp only [Act.put, List.setIfInBounds_toArray, List.set_cons_succ, List.set_cons_zero])
        | (refine Lo.wpL_loadRow rfl 69 _ rfl (by decide) g2 (off2 + k * 2) rfl [.int .i64 y_a, .float .f32 y_v] _ Try.underlying69 rfl (by kernel_rfl) (fun v ⟨hs, dd, hv⟩ => hv ▸ Lo.range_since R2.out (Lo.mkW_since _ hs dd) (by omega)) ?_; simp only [Act.put, List.setIfInBounds_toArray, List.set_cons_succ, List.set_cons_zero])
        | (refine Lo.wpG_callQ rfl 58 [.tmp _, .tmp _] [.agg #[.int .i64 x_a, .float .f32 x_v], .agg #[.int .i64 y_a, .float .f32 y_v]] _ rfl (by decide) (callsEnter 58 Try.f58 _ (by kernel_rfl) (by kernel_rfl) rfl) rfl (.bool true) (fun v hv => (HEQ.out v).mono fun e v2 ⟨h1, h2⟩ => ⟨h1, Lo.mkW_mkW hv h2⟩) ?_; simp only [Act.put, List.setIfInBounds_toArray, List.set_cons_succ, List.set_cons_zero])
        | (refine Lo.wpL_move rfl _ (.inl rfl) (by decide) ?_; simp only [Act.put, List.setIfInBounds_toArray, List.set_cons_succ, List.set_cons_zero])
        | (refine Lo.wpL_move rfl _ (.inr rfl) (by decide) ?_; simp only [Act.put, List.setIfInBounds_toArray, List.set_cons_succ, List.set_cons_zero])
        | (refine Lo.wpG_fop (fun _ m h => Lo.drewG m h) rfl _ _ _ _ rfl rfl (by decide) _ _ _ _ _ rfl rfl (by assumption) (by assumption) ?_; intro rr hrr; simp only [Act.put, List.setIfInBounds_toArray, List.set_cons_succ, List.set_cons_zero])
        | (refine Lo.wpL_quiet rfl (by decide) (fun K hK => ?_); go_big_quiet_op; first | (refine hK _ ?_; clear hK K) | (refine ⟨_, fun _ _ _ _ => rfl, hK _ ?_⟩; clear hK K)))
      refine Lo.wpL_nil ?_; intro hsG dG
      refine Lo.after_nil ?_; intro nq
      generalize hwG : Lo.mkW _ hsG dG = wG
      replace hwG := Lo.sinceG hwG
      clear hsG dG
      go_wp2
      go_roundw
      case rel => exact ⟨k + 1, by omega, by go_num, since_step HS.out hwG⟩
      case measure => simp [intOf]; omega
    · go_wp2
      go_ret
      exact ⟨rfl, HS.out⟩
def PointR.wf (x : PointR) : Prop := x.ok ∧ (Lit.int .i64 x.a).wf = true
section
open Go.ChangeShapes Go.WideShapes Go.Deep
variable {H : Type} {enc : TypeId × Value → H} {P : Program} {w : World} {base : Nat}
theorem openPoint_row {t : TypeId} {f0 f1 : Field} (hs : P.underlying t = some (.struct #[f0, f1])) (hone : oneCellFields P #[f0, f1] = true) (hC : P.cellsOf t = 2) (h0 : P.underlying f0.type = some (.int .i64)) (h1 : P.underlying f1.type = some (.float .f32))
    (fuel : Nat) (cs : List Value) (x : DataW H × List MemPlace) (h : DataW.trod enc P w base (fun _ => true) true fuel t cs = some x) : ∃ y : PointR, y.wf ∧ y.cells = cs := by
  obtain ⟨hl, hc⟩ := row_cells hs hone hC h
  obtain ⟨c0, y0, n0, e0, t0⟩ := hc 0 f0 rfl
  obtain ⟨x0, hx0, w0⟩ := trod_int h0 t0
  injection hx0 with hx0 _; subst hx0
  obtain ⟨c1, y1, n1, e1, t1⟩ := hc 1 f1 rfl
  obtain ⟨x1, hx1, w1⟩ := trod_fl h1 t1
  injection hx1 with hx1 _; subst hx1
  refine ⟨⟨x0, x1⟩, ⟨wf_f32 w1, w0⟩, ?_⟩
  unfold PointR.cells
  match cs, hl with
  | [d0, d1], _ =>
    have g0 : d0 = _ := Option.some.inj e0
    have g1 : d1 = _ := Option.some.inj e1
    rw [g0, g1]
end
/-- what a mark leaves -/
def PointR.mkd (k0 : Nat) (i : Nat) : PointR := ⟨((k0 + i * 2 + 0 : Nat) : Int), floatOfInt .f32 ((k0 + i * 2 + 1 : Nat) : Int)⟩
set_option maxHeartbeats 4000000 in
set_option maxRecDepth 100000 in
theorem markPointS_any (g n : Nat) (e : Nat → PointR) (c k0 : Nat) (K : Int) (v : World) (B : Nat) (r : List En) (h : He B v (se PointR.cells 2 69 (some ⟨g, 0, none⟩) n e :: r)) (hn : n ≤ 1048576) (hk0 : k0 ≤ 1073741824) (hK : K = (k0 : Nat)) :
    Calls Try.prog 26 #[.slice (some ⟨g, 0, none⟩) n c, .int .i64 K] v fun r1 v' => r1 = .returned (.int .i64 ((k0 + n * 2 : Nat) : Int)) ∧ He B v' (se PointR.cells 2 69 (some ⟨g, 0, none⟩) n (PointR.mkd k0) :: r) ∧ v.Since B v' := by
  subst hK
  have HH := Lib.hid h
  by_cases hpos : 0 < n
  · obtain ⟨g1, off1, cs1, e1, hg, hgl, hb, hc⟩ := h.1.1.ce (Nat.mul_pos hpos (by decide))
    injection e1 with e1; injection e1 with e1 e2 _; subst e1; subst e2
    have HG0 : Hid (GF v g 69 (n * 2) (ceL PointR.cells 2 e)) := Lib.hid ⟨cs1, hb, fun j hj => by have := hc j hj; rwa [Nat.zero_add] at this⟩
    clear hb hc h
    go_enter Try.func26, Try.ntmps26
    go_wp2
    go_loopw [1, 5] (fun kv i wr => ∃ k : Nat, k ≤ n ∧ i = .int .i64 (k : Nat) ∧ kv = .int .i64 ((k0 + k * 2 : Nat) : Int) ∧ GF wr g 69 (n * 2) (ceL PointR.cells 2 fun i => if i < k then PointR.mkd k0 i else e i) ∧ v.Since B wr ∧ wr.heap.size = v.heap.size ∧ (∀ b, b ≠ g → wr.heap[b]? = v.heap[b]?)) (fun _ i _ => n - (intOf i).toNat)
    case atStart => exact ⟨0, Nat.zero_le _, rfl, by simp, HG0.out.congr (fun j hj => by unfold ceL; simp), World.Since.refl _ _, rfl, fun _ _ => rfl⟩
    case round =>
      obtain ⟨k, hk, rfl, rfl, hgf, hs, hsz, hoth⟩ := hrel
      have HG2 := Lib.hid hgf; have HS := Lib.hid hs; have HZ := Lib.hid hsz; have HO := Lib.hid hoth
      clear hgf hs hsz hoth HG0
      by_cases hlt : k < n
      · have HE := Lib.hid (show ∀ j, j < n * 2 → ceL PointR.cells 2 (fun i => if i < k + 1 then PointR.mkd k0 i else e i) j = if k * 2 ≤ j ∧ j < k * 2 + 2 then ((PointR.mkd k0 k).cells).getD (j - k * 2) undef else ceL PointR.cells 2 (fun i => if i < k then PointR.mkd k0 i else e i) j from fun j hj => by
          rw [← ceL_upd _ k (PointR.mkd k0 k) (by decide) j]
          congr 1
          funext i
          unfold upd
          by_cases h1 : i = k
          · subst h1; rw [if_pos (by omega), if_pos rfl]
          · rw [if_neg h1]
            by_cases h2 : i < k
            · rw [if_pos (by omega)]; simp only [if_pos h2]
            · rw [if_neg (by omega)]; simp only [if_neg h2])
        have hkk : k * 2 + 2 ≤ n * 2 := by omega
        have hsp : Hid (∀ B', B' ≤ g → True) := Lib.hid fun _ _ => trivial
        have hd0 := HG2.out.cell (j := k * 2 + 0) (by omega)
        have hf0 := HG2.out.free (k * 2 + 0)
        have hd1 := HG2.out.cell (j := k * 2 + 1) (by omega)
        have hf1 := HG2.out.free (k * 2 + 1)
        simp only [Nat.add_zero] at hd0 hf0 hd1 hf1
        generalize ceL PointR.cells 2 (fun i => if i < k then PointR.mkd k0 i else e i) (k * 2) = u0q at hd0
        generalize ceL PointR.cells 2 (fun i => if i < k then PointR.mkd k0 i else e i) (k * 2 + 1) = u1q at hd1
        go_wp2
        go_roundw
        case rel =>
          refine ⟨k + 1, by omega, by go_num, by go_num, ?_, (HS.out.setCell hg _).setCell hg _, by simp only [Go.Deep.nblk_setCell]; exact HZ.out, fun b hb => ?_⟩
          · refine ((HG2.out.set (k * 2) _).set (k * 2 + 1) _).congr (fun j hj => ?_)
            rw [HE.out j hj]
            by_cases h : k * 2 ≤ j ∧ j < k * 2 + 2
            · rw [if_pos h]
              obtain rfl | rfl : j = k * 2 + 0 ∨ j = k * 2 + 1 := by omega
              all_goals simp [PointR.cells, PointR.mkd, Nat.add_assoc, Int.add_assoc]
            · rw [if_neg h, if_neg (by omega), if_neg (by omega)]
          · rw [Go.Deep.blk_setCell_other _ _ _ _ hb]; rw [Go.Deep.blk_setCell_other _ _ _ _ hb]; exact HO.out b hb
        case measure => simp [intOf]; omega
      · obtain rfl : k = n := by omega
        go_wp2
        go_ret
        refine ⟨rfl, HH.out.mark_hd (GF.entry (HG2.out.congr fun j hj => ?_) hg) rfl (fun b hb => HO.out b fun e => hb ⟨Nat.mul_pos hpos (by decide), 0, by rw [e]⟩) (by rw [HZ.out]; exact Nat.le_refl _), HS.out⟩
        unfold ceL
        dsimp only
        rw [if_pos (Nat.div_lt_of_lt_mul (by rw [Nat.mul_comm]; exact hj))]
  · obtain rfl : n = 0 := by omega
    clear h
    go_enter Try.func26, Try.ntmps26
    go_wp2
    go_loopw [1, 5] (fun kv i wr => i = .int .i64 0 ∧ kv = .int .i64 k0 ∧ wr = v) (fun _ _ _ => 0)
    case atStart => exact ⟨rfl, rfl, rfl⟩
    case round =>
      obtain ⟨rfl, rfl, rfl⟩ := hrel
      go_wp2
      go_ret
      exact ⟨by simp, HH.out.mark_hd (ce_ge trivial (fun h => by omega)) (funext fun g => by simp [se, ce]) (fun _ _ => rfl) (Nat.le_refl _), World.Since.refl _ _⟩
end Go.Proofs.Ytmdnalkfndoicaa

/- Walks of laws whose results are lists. -/
set_option linter.unusedVariables false
set_option linter.unusedSimpArgs false
namespace Go.Proofs.Ytmdnalkfndoicaa
open Fl Go.RowKit
set_option maxHeartbeats 16000000 in
set_option maxRecDepth 100000 in
theorem lawIsLane_gen (A0 : Option Addr) (n0 c0 : Nat) (x0 : Nat → PointR) (rb0 : Bool) (w : World)
    (h0 : Rs PointR.cells 2 w w.heap.size A0 n0 x0) (hn0 : n0 ≤ 1048576) 
    (hk0 : ∀ k, k < n0 → (x0 k).ok)
    (hsp : ∀ (v : World) (b0 : Nat), Rs PointR.cells 2 v v.heap.size (some ⟨b0, 0, none⟩) n0 x0 → Calls Try.prog 16 #[.slice (some ⟨b0, 0, none⟩) n0 n0] v (PB rb0 v))
    (him : ∀ (v : World) (b0 : Nat), Rs PointR.cells 2 v v.heap.size (some ⟨b0, 0, none⟩) n0 x0 → Calls Try.prog 18 #[.slice (some ⟨b0, 0, none⟩) n0 n0] v (PB rb0 v)) :
    Calls Try.prog 3 #[.slice A0 n0 c0] w fun e w' => e = .returned (.bool true) ∧ w.Since w.heap.size w' := by
  have S0 : Hid (w.Since w.heap.size w) := Lib.hid (World.Since.refl _ _)
  have F0 : Hid (Rs PointR.cells 2 w w.heap.size A0 n0 x0) := Lib.hid (h0.now S0.out); clear h0
  have hd0 : decide ((1048576 : Int) < n0) = false := decide_eq_false (by omega)
  have HSP := Lib.hid hsp; have HIM := Lib.hid him; clear hsp him
  have hz0 : decide ((1048576 : Int) - n0 < 0) = false := decide_eq_false (by omega)
  have HK0 := Lib.hid hk0; clear hk0
  go_enter Try.func3, Try.ntmps3
  go_wp2_with fail
  go_at_call 15
  refine (szPointS_any A0 n0 c0 _ hn0).mono ?_; rintro e w' ⟨rfl, rfl⟩
  go_wp2_with fail
  have S : Hid (w.Since w.heap.size w) := Lib.hid (World.Since.refl _ _)
  have LV : Hid (He w.heap.size w []) := Lib.hid trivial
  go_at_call 17
  refine (toPointS_any A0 n0 c0 x0 w _ F0.out S.out hn0).mono ?_
  rintro e v1 ⟨rfl, hg, hs⟩
  have LV' := Lib.hid (LV.out.new hs hg S.out.size); clear LV; have LV := LV'; clear LV'
  have S' := Lib.hid (since_step S.out hs); clear S; have S := S'; clear S'
  clear hs hg
  go_wp2_with fail
  go_at_call 16
  refine (HSP.out _ _ ((LV.out.1.1).readS (by decide))).mono ?_
  rintro e v2 ⟨rfl, hs⟩
  have LV' := Lib.hid ((LV.out.2).since hs); clear LV; have LV := LV'; clear LV'
  have S' := Lib.hid (since_step S.out hs); clear S; have S := S'; clear S'
  clear hs
  go_wp2_with fail
  go_at_call 17
  refine (toPointS_any A0 n0 c0 x0 w _ F0.out S.out hn0).mono ?_
  rintro e v3 ⟨rfl, hg, hs⟩
  have LV' := Lib.hid (LV.out.new hs hg S.out.size); clear LV; have LV := LV'; clear LV'
  have S' := Lib.hid (since_step S.out hs); clear S; have S := S'; clear S'
  clear hs hg
  go_wp2_with fail
  go_at_call 18
  refine (HIM.out _ _ ((LV.out.1.1).readS (by decide))).mono ?_
  rintro e v4 ⟨rfl, hs⟩
  have LV' := Lib.hid ((LV.out).since hs); clear LV; have LV := LV'; clear LV'
  have S' := Lib.hid (since_step S.out hs); clear S; have S := S'; clear S'
  clear hs
  go_wp2_with fail
  go_at_call 17
  refine (toPointS_any A0 n0 c0 x0 w _ F0.out S.out hn0).mono ?_
  rintro e v5 ⟨rfl, hg, hs⟩
  have LV' := Lib.hid (LV.out.new hs hg S.out.size); clear LV; have LV := LV'; clear LV'
  have S' := Lib.hid (since_step S.out hs); clear S; have S := S'; clear S'
  clear hs hg
  go_wp2_with fail
  go_at_call 19
  refine (eqPointS_any _ _ n0 _ _ x0 x0 _ _ (Nat.le_refl _) ((LV.out.2.1.1).readS (by decide)) ((LV.out.1.1).readS (by decide)) hn0 (fun k hk => ⟨HK0.out k hk, HK0.out k hk, PointR.same_refl _⟩)).mono ?_
  rintro e v6 ⟨rfl, hs⟩
  have S' := Lib.hid (since_step S.out hs); clear S; have S := S'; clear S'
  have LV' := Lib.hid (LV.out.since hs); clear LV; have LV := LV'; clear LV'
  clear hs
  have LV' := Lib.hid LV.out.2; clear LV; have LV := LV'; clear LV'
  go_wp2_with fail
  go_ret
  exact ⟨rfl, S.out⟩
set_option maxHeartbeats 2000000 in
set_option maxRecDepth 100000 in
theorem lawIsLane_big (A0 : Option Addr) (n0 c0 : Nat) (w : World) (h : 1048576 < n0)
    (hb0 : n0 ≤ 9223372036854775807)
    : Calls Try.prog 3 #[.slice A0 n0 c0] w fun e w' => e = .returned (.bool true) ∧ w.Since w.heap.size w' := by
  by_cases b0 : 1048576 < n0
  · have hd0 : decide ((1048576 : Int) < n0) = true := decide_eq_true (by omega)
    go_enter Try.func3, Try.ntmps3
    go_wp2_with (go_at_call 15; refine (szPointS_big A0 n0 c0 _ b0 hb0).mono ?_; rintro e w' ⟨rfl, rfl⟩)
    go_ret
    exact ⟨rfl, by (repeat (first | (with_reducible refine Fl.sinDrew ?_) | (with_reducible refine World.Since.drew ?_) | (with_reducible refine Fl.sinSet ?_ ?_; rotate_left) | (with_reducible refine Fl.sinAlloc ?_ ?_; rotate_left) | with_reducible exact World.Since.refl _ _ | with_reducible assumption | (with_reducible refine Fl.sinStep (by with_reducible assumption) ?_))); all_goals (first | omega | (simp; done) | (simp; omega) | (simp [go_sem]; done) | (simp [go_sem]; omega))⟩
  · have hd0 : decide ((1048576 : Int) < n0) = false := decide_eq_false (by omega)
    omega
set_option maxHeartbeats 16000000 in
set_option maxRecDepth 100000 in
theorem lawLaneAt_gen (A0 : Option Addr) (n0 c0 : Nat) (x0 : Nat → PointR) (a1 : Int) (ro0 : O) (rb1 : Bool) (w : World)
    (h0 : Rs PointR.cells 2 w w.heap.size A0 n0 x0) (hn0 : n0 ≤ 1048576) 
    (hk0 : ∀ k, k < n0 → (x0 k).ok)
    (hsp : ∀ (v : World) (b0 : Nat), Rs PointR.cells 2 v v.heap.size (some ⟨b0, 0, none⟩) n0 x0 → Calls Try.prog 20 #[.slice (some ⟨b0, 0, none⟩) n0 n0, .int .i64 a1] v (PVB ro0 rb1 v))
    (him : ∀ (v : World) (b0 : Nat), Rs PointR.cells 2 v v.heap.size (some ⟨b0, 0, none⟩) n0 x0 → Calls Try.prog 21 #[.slice (some ⟨b0, 0, none⟩) n0 n0, .int .i64 a1] v (PVB ro0 rb1 v)) :
    Calls Try.prog 4 #[.slice A0 n0 c0, .int .i64 a1] w fun e w' => e = .returned (.bool true) ∧ w.Since w.heap.size w' := by
  have S0 : Hid (w.Since w.heap.size w) := Lib.hid (World.Since.refl _ _)
  have F0 : Hid (Rs PointR.cells 2 w w.heap.size A0 n0 x0) := Lib.hid (h0.now S0.out); clear h0
  have hd0 : decide ((1048576 : Int) < n0) = false := decide_eq_false (by omega)
  have HSP := Lib.hid hsp; have HIM := Lib.hid him; clear hsp him
  have hz0 : decide ((1048576 : Int) - n0 < 0) = false := decide_eq_false (by omega)
  have HK0 := Lib.hid hk0; clear hk0
  go_enter Try.func4, Try.ntmps4
  go_wp2_with fail
  go_at_call 15
  refine (szPointS_any A0 n0 c0 _ hn0).mono ?_; rintro e w' ⟨rfl, rfl⟩
  go_wp2_with fail
  have S : Hid (w.Since w.heap.size w) := Lib.hid (World.Since.refl _ _)
  have LV : Hid (He w.heap.size w []) := Lib.hid trivial
  go_at_call 17
  refine (toPointS_any A0 n0 c0 x0 w _ F0.out S.out hn0).mono ?_
  rintro e v1 ⟨rfl, hg, hs⟩
  have LV' := Lib.hid (LV.out.new hs hg S.out.size); clear LV; have LV := LV'; clear LV'
  have S' := Lib.hid (since_step S.out hs); clear S; have S := S'; clear S'
  clear hs hg
  go_wp2_with fail
  go_at_call 20
  refine (HSP.out _ _ ((LV.out.1.1).readS (by decide))).mono ?_
  rintro e v2 ⟨w0, rfl, how0, hs⟩
  have LV' := Lib.hid ((LV.out.2).since hs); clear LV; have LV := LV'; clear LV'
  have S' := Lib.hid (since_step S.out hs); clear S; have S := S'; clear S'
  clear hs
  have Vw0 := Lib.hid how0; have Lw0 := Lib.hid how0.out.1; clear how0
  go_wp2_with fail
  go_at_call 17
  refine (toPointS_any A0 n0 c0 x0 w _ F0.out S.out hn0).mono ?_
  rintro e v3 ⟨rfl, hg, hs⟩
  have LV' := Lib.hid (LV.out.new hs hg S.out.size); clear LV; have LV := LV'; clear LV'
  have S' := Lib.hid (since_step S.out hs); clear S; have S := S'; clear S'
  clear hs hg
  go_wp2_with fail
  go_at_call 21
  refine (HIM.out _ _ ((LV.out.1.1).readS (by decide))).mono ?_
  rintro e v4 ⟨g0, rfl, hog0, hs⟩
  have LV' := Lib.hid ((LV.out).since hs); clear LV; have LV := LV'; clear LV'
  have S' := Lib.hid (since_step S.out hs); clear S; have S := S'; clear S'
  clear hs
  have Vg0 := Lib.hid hog0; have Lg0 := Lib.hid hog0.out.1; clear hog0
  have L1 := Lg0.out; have L2 := Lw0.out
  go_wp2_with (first | (with_reducible_and_instances refine wpList_wide _ rfl _ _ _ rfl _ rfl (by kernel_rfl) (by kernel_rfl) L1 ?_; intro r3 m3 hr; have X1 := Lib.hid hr; clear hr) | (with_reducible_and_instances refine wpList_wide _ rfl _ _ _ rfl _ rfl (by kernel_rfl) (by kernel_rfl) L2 ?_; intro r4 m4 hr; have X2 := Lib.hid hr; clear hr))
  clear L1 L2
  go_at_call 22
  refine (sameFloat_any _ _ _ _ X1.out (by have := X2.out; rw [Vw0.out.out.2, ← Vg0.out.out.2] at this; exact this)).mono ?_
  rintro e w' ⟨rfl, m5, rfl⟩
  clear X1 X2
  have hs : World.Since v4.heap.size v4 (v4.drewN (m3 + m4 + m5)) := since_drewN (World.Since.refl _ _) _
  simp only [World.drewN_drewN]
  generalize hV : World.drewN v4 (m3 + m4 + m5) = v5 at hs ⊢
  clear hV
  have S' := Lib.hid (since_step S.out hs); clear S; have S := S'; clear S'
  have LV' := Lib.hid (LV.out.since hs); clear LV; have LV := LV'; clear LV'
  clear hs
  go_wp2_with fail
  go_at_call 17
  refine (toPointS_any A0 n0 c0 x0 w _ F0.out S.out hn0).mono ?_
  rintro e v6 ⟨rfl, hg, hs⟩
  have LV' := Lib.hid (LV.out.new hs hg S.out.size); clear LV; have LV := LV'; clear LV'
  have S' := Lib.hid (since_step S.out hs); clear S; have S := S'; clear S'
  clear hs hg
  go_wp2_with fail
  go_at_call 19
  refine (eqPointS_any _ _ n0 _ _ x0 x0 _ _ (Nat.le_refl _) ((LV.out.2.1.1).readS (by decide)) ((LV.out.1.1).readS (by decide)) hn0 (fun k hk => ⟨HK0.out k hk, HK0.out k hk, PointR.same_refl _⟩)).mono ?_
  rintro e v7 ⟨rfl, hs⟩
  have S' := Lib.hid (since_step S.out hs); clear S; have S := S'; clear S'
  have LV' := Lib.hid (LV.out.since hs); clear LV; have LV := LV'; clear LV'
  clear hs
  have LV' := Lib.hid LV.out.2; clear LV; have LV := LV'; clear LV'
  go_wp2_with fail
  go_ret
  exact ⟨rfl, S.out⟩
set_option maxHeartbeats 2000000 in
set_option maxRecDepth 100000 in
theorem lawLaneAt_big (A0 : Option Addr) (n0 c0 : Nat) (a1 : Int) (w : World) (h : 1048576 < n0)
    (hb0 : n0 ≤ 9223372036854775807)
    : Calls Try.prog 4 #[.slice A0 n0 c0, .int .i64 a1] w fun e w' => e = .returned (.bool true) ∧ w.Since w.heap.size w' := by
  by_cases b0 : 1048576 < n0
  · have hd0 : decide ((1048576 : Int) < n0) = true := decide_eq_true (by omega)
    go_enter Try.func4, Try.ntmps4
    go_wp2_with (go_at_call 15; refine (szPointS_big A0 n0 c0 _ b0 hb0).mono ?_; rintro e w' ⟨rfl, rfl⟩)
    go_ret
    exact ⟨rfl, by (repeat (first | (with_reducible refine Fl.sinDrew ?_) | (with_reducible refine World.Since.drew ?_) | (with_reducible refine Fl.sinSet ?_ ?_; rotate_left) | (with_reducible refine Fl.sinAlloc ?_ ?_; rotate_left) | with_reducible exact World.Since.refl _ _ | with_reducible assumption | (with_reducible refine Fl.sinStep (by with_reducible assumption) ?_))); all_goals (first | omega | (simp; done) | (simp; omega) | (simp [go_sem]; done) | (simp [go_sem]; omega))⟩
  · have hd0 : decide ((1048576 : Int) < n0) = false := decide_eq_false (by omega)
    omega
end Go.Proofs.Ytmdnalkfndoicaa

/- Walks of laws whose results are lists. -/
set_option linter.unusedVariables false
set_option linter.unusedSimpArgs false
namespace Go.Proofs.Ytmdnalkfndoicaa
open Fl Go.RowKit
set_option maxHeartbeats 16000000 in
set_option maxRecDepth 100000 in
theorem lawRunLane_gen (A0 : Option Addr) (n0 c0 : Nat) (x0 : Nat → PointR) (a1 : Int) (a2 : Int) (rn0 : Nat) (rf0 : Nat → Option Nat) (rb1 : Bool) (w : World)
    (h0 : Rs PointR.cells 2 w w.heap.size A0 n0 x0) (hn0 : n0 ≤ 1048576) (hr0 : rn0 ≤ 1048576)
    (hk0 : ∀ k, k < n0 → (x0 k).ok)
    (hsp : ∀ (v : World) (b0 : Nat), Rs PointR.cells 2 v v.heap.size (some ⟨b0, 0, none⟩) n0 x0 → Calls Try.prog 23 #[.slice (some ⟨b0, 0, none⟩) n0 n0, .int .i64 a1, .int .i64 a2] v (PEB rn0 rf0 rb1 v))
    (him : ∀ (v : World) (b0 : Nat), Rs PointR.cells 2 v v.heap.size (some ⟨b0, 0, none⟩) n0 x0 → Calls Try.prog 24 #[.slice (some ⟨b0, 0, none⟩) n0 n0, .int .i64 a1, .int .i64 a2] v (PEB rn0 rf0 rb1 v)) :
    Calls Try.prog 5 #[.slice A0 n0 c0, .int .i64 a1, .int .i64 a2] w fun e w' => e = .returned (.bool true) ∧ w.Since w.heap.size w' := by
  have S0 : Hid (w.Since w.heap.size w) := Lib.hid (World.Since.refl _ _)
  have F0 : Hid (Rs PointR.cells 2 w w.heap.size A0 n0 x0) := Lib.hid (h0.now S0.out); clear h0
  have hd0 : decide ((1048576 : Int) < n0) = false := decide_eq_false (by omega)
  have HSP := Lib.hid hsp; have HIM := Lib.hid him; clear hsp him
  have hz0 : decide ((1048576 : Int) - n0 < 0) = false := decide_eq_false (by omega)
  have HK0 := Lib.hid hk0; clear hk0
  go_enter Try.func5, Try.ntmps5
  go_wp2_with fail
  go_at_call 15
  refine (szPointS_any A0 n0 c0 _ hn0).mono ?_; rintro e w' ⟨rfl, rfl⟩
  go_wp2_with fail
  have S : Hid (w.Since w.heap.size w) := Lib.hid (World.Since.refl _ _)
  have LV : Hid (He w.heap.size w []) := Lib.hid trivial
  go_at_call 17
  refine (toPointS_any A0 n0 c0 x0 w _ F0.out S.out hn0).mono ?_
  rintro e v1 ⟨rfl, hg, hs⟩
  have LV' := Lib.hid (LV.out.new hs hg S.out.size); clear LV; have LV := LV'; clear LV'
  have S' := Lib.hid (since_step S.out hs); clear S; have S := S'; clear S'
  clear hs hg
  go_wp2_with fail
  go_at_call 23
  refine (HSP.out _ _ ((LV.out.1.1).readS (by decide))).mono ?_
  rintro e v2 ⟨w0, kw0, rfl, hnw0, hgw0, hfw0, hs⟩
  have LV' := Lib.hid ((LV.out.2).new hs hgw0 S.out.size); clear LV; have LV := LV'; clear LV'
  have S' := Lib.hid (since_step S.out hs); clear S; have S := S'; clear S'
  have Kw0 := Lib.hid hfw0; have Nw0 := Lib.hid hnw0; clear hfw0 hgw0 hnw0
  clear hs
  go_wp2_with fail
  go_at_call 17
  refine (toPointS_any A0 n0 c0 x0 w _ F0.out S.out hn0).mono ?_
  rintro e v3 ⟨rfl, hg, hs⟩
  have LV' := Lib.hid (LV.out.new hs hg S.out.size); clear LV; have LV := LV'; clear LV'
  have S' := Lib.hid (since_step S.out hs); clear S; have S := S'; clear S'
  clear hs hg
  go_wp2_with fail
  go_at_call 24
  refine (HIM.out _ _ ((LV.out.1.1).readS (by decide))).mono ?_
  rintro e v4 ⟨g0, kg0, rfl, hng0, hgg0, hfg0, hs⟩
  have LV' := Lib.hid ((LV.out).new hs hgg0 S.out.size); clear LV; have LV := LV'; clear LV'
  have S' := Lib.hid (since_step S.out hs); clear S; have S := S'; clear S'
  have Kg0 := Lib.hid hfg0; have Ng0 := Lib.hid hng0; clear hfg0 hgg0 hng0
  clear hs
  go_wp2_with fail
  go_at_call 25
  refine (eqL_any g0 w0 _ _ _ _ (LV.out.1.1).readF (LV.out.2.2.1.1).readF (by rw [Ng0.out]; exact hr0) (Nw0.out.trans Ng0.out.symm) Kg0.out Kw0.out).mono ?_
  rintro e v5 ⟨rfl, hs⟩
  have S' := Lib.hid (since_step S.out hs); clear S; have S := S'; clear S'
  have LV' := Lib.hid (LV.out.since hs); clear LV; have LV := LV'; clear LV'
  clear hs
  go_wp2_with fail
  go_at_call 17
  refine (toPointS_any A0 n0 c0 x0 w _ F0.out S.out hn0).mono ?_
  rintro e v6 ⟨rfl, hg, hs⟩
  have LV' := Lib.hid (LV.out.new hs hg S.out.size); clear LV; have LV := LV'; clear LV'
  have S' := Lib.hid (since_step S.out hs); clear S; have S := S'; clear S'
  clear hs hg
  go_wp2_with fail
  go_at_call 19
  refine (eqPointS_any _ _ n0 _ _ x0 x0 _ _ (Nat.le_refl _) ((LV.out.2.2.1.1).readS (by decide)) ((LV.out.1.1).readS (by decide)) hn0 (fun k hk => ⟨HK0.out k hk, HK0.out k hk, PointR.same_refl _⟩)).mono ?_
  rintro e v7 ⟨rfl, hs⟩
  have S' := Lib.hid (since_step S.out hs); clear S; have S := S'; clear S'
  have LV' := Lib.hid (LV.out.since hs); clear LV; have LV := LV'; clear LV'
  clear hs
  have LV' := Lib.hid LV.out.2; clear LV; have LV := LV'; clear LV'
  go_wp2_with fail
  go_at_call 26
  refine (markPointS_any v2.heap.size n0 x0 _ (1) _ _ _ _ (He.front [_] LV.out) (hn0) (by have := Ng0.out; omega) (by first | rfl | omega | (push_cast; omega))).mono ?_
  rintro e v8 ⟨rfl, hlv, hs⟩
  have LV' := Lib.hid hlv; clear LV hlv; have LV := LV'; clear LV'
  have S' := Lib.hid (since_mark S.out hs); clear S hs; have S := S'; clear S'
  go_wp2_with fail
  go_at_call 25
  refine (eqL_any g0 w0 _ _ _ _ (LV.out.2.1.1).readF (LV.out.2.2.1.1).readF (by rw [Ng0.out]; exact hr0) (Nw0.out.trans Ng0.out.symm) Kg0.out Kw0.out).mono ?_
  rintro e v9 ⟨rfl, hs⟩
  have S' := Lib.hid (since_step S.out hs); clear S; have S := S'; clear S'
  have LV' := Lib.hid (LV.out.since hs); clear LV; have LV := LV'; clear LV'
  clear hs
  go_wp2_with fail
  go_at_call 27
  refine (markFE_any g0.A g0.n g0.xs _ (1) _ _ _ _ (He.front [_] LV.out) (by rw [Ng0.out]; exact hr0) (by have := Ng0.out; omega) (by first | rfl | omega | (push_cast; omega))).mono ?_
  rintro e v10 ⟨rfl, hlv, hs⟩
  have LV' := Lib.hid hlv; clear LV hlv; have LV := LV'; clear LV'
  have S' := Lib.hid (since_mark S.out hs); clear S hs; have S := S'; clear S'
  go_wp2_with fail
  go_at_call 28
  refine (heldFE_any g0.A g0.n _ (1) _ _ _ ((LV.out.1.1)) (by rw [Ng0.out]; exact hr0) (by have := Ng0.out; omega) (by first | rfl | omega | (push_cast; omega))).mono ?_
  rintro e v ⟨rfl, rfl⟩
  go_wp2_with fail
  go_at_call 17
  refine (toPointS_any A0 n0 c0 x0 w _ F0.out S.out hn0).mono ?_
  rintro e v11 ⟨rfl, hg, hs⟩
  have LV' := Lib.hid (LV.out.new hs hg S.out.size); clear LV; have LV := LV'; clear LV'
  have S' := Lib.hid (since_step S.out hs); clear S; have S := S'; clear S'
  clear hs hg
  go_wp2_with fail
  go_at_call 24
  refine (HIM.out _ _ ((LV.out.1.1).readS (by decide))).mono ?_
  rintro e v12 ⟨h0, kh0, rfl, hnh0, hgh0, hfh0, hs⟩
  have LV' := Lib.hid ((LV.out.2).new hs hgh0 S.out.size); clear LV; have LV := LV'; clear LV'
  have S' := Lib.hid (since_step S.out hs); clear S; have S := S'; clear S'
  have Kh0 := Lib.hid hfh0; have Nh0 := Lib.hid hnh0; clear hfh0 hgh0 hnh0
  clear hs
  go_wp2_with fail
  go_at_call 25
  refine (eqL_any h0 w0 _ _ _ _ (LV.out.1.1).readF (LV.out.2.2.2.1.1).readF (by rw [Nh0.out]; exact hr0) (Nw0.out.trans Nh0.out.symm) Kh0.out Kw0.out).mono ?_
  rintro e v13 ⟨rfl, hs⟩
  have S' := Lib.hid (since_step S.out hs); clear S; have S := S'; clear S'
  have LV' := Lib.hid (LV.out.since hs); clear LV; have LV := LV'; clear LV'
  clear hs
  go_wp2_with fail
  go_at_call 28
  refine (heldFE_any g0.A g0.n _ (1) _ _ _ ((LV.out.2.1.1)) (by rw [Ng0.out]; exact hr0) (by have := Ng0.out; omega) (by first | rfl | omega | (push_cast; omega))).mono ?_
  rintro e v ⟨rfl, rfl⟩
  go_wp2_with fail
  go_ret
  exact ⟨rfl, S.out⟩
set_option maxHeartbeats 2000000 in
set_option maxRecDepth 100000 in
theorem lawRunLane_big (A0 : Option Addr) (n0 c0 : Nat) (a1 : Int) (a2 : Int) (w : World) (h : 1048576 < n0)
    (hb0 : n0 ≤ 9223372036854775807)
    : Calls Try.prog 5 #[.slice A0 n0 c0, .int .i64 a1, .int .i64 a2] w fun e w' => e = .returned (.bool true) ∧ w.Since w.heap.size w' := by
  by_cases b0 : 1048576 < n0
  · have hd0 : decide ((1048576 : Int) < n0) = true := decide_eq_true (by omega)
    go_enter Try.func5, Try.ntmps5
    go_wp2_with (go_at_call 15; refine (szPointS_big A0 n0 c0 _ b0 hb0).mono ?_; rintro e w' ⟨rfl, rfl⟩)
    go_ret
    exact ⟨rfl, by (repeat (first | (with_reducible refine Fl.sinDrew ?_) | (with_reducible refine World.Since.drew ?_) | (with_reducible refine Fl.sinSet ?_ ?_; rotate_left) | (with_reducible refine Fl.sinAlloc ?_ ?_; rotate_left) | with_reducible exact World.Since.refl _ _ | with_reducible assumption | (with_reducible refine Fl.sinStep (by with_reducible assumption) ?_))); all_goals (first | omega | (simp; done) | (simp; omega) | (simp [go_sem]; done) | (simp [go_sem]; omega))⟩
  · have hd0 : decide ((1048576 : Int) < n0) = false := decide_eq_false (by omega)
    omega
set_option maxHeartbeats 16000000 in
set_option maxRecDepth 100000 in
theorem lawApplyLane_gen (A0 : Option Addr) (n0 c0 : Nat) (x0 : Nat → PointR) (a1 : Int) (A2 : Option Addr) (n2 c2 : Nat) (x2 : List Nat) (rn0 : Nat) (rf0 : Nat → Option Nat) (rb1 : Bool) (w : World)
    (h0 : Rs PointR.cells 2 w w.heap.size A0 n0 x0) (hn0 : n0 ≤ 1048576) (h2 : Fs w w.heap.size A2 n2 x2) (hn2 : n2 ≤ 1048576) (hr0 : rn0 ≤ 1048576)
    (hk0 : ∀ k, k < n0 → (x0 k).ok)
    (hsp : ∀ (v : World) (b0 : Nat) (b2 : Nat), Rs PointR.cells 2 v v.heap.size (some ⟨b0, 0, none⟩) n0 x0 → Fs v v.heap.size (some ⟨b2, 0, none⟩) n2 x2 → Calls Try.prog 29 #[.slice (some ⟨b0, 0, none⟩) n0 n0, .int .i64 a1, .slice (some ⟨b2, 0, none⟩) n2 n2] v (PEB rn0 rf0 rb1 v))
    (him : ∀ (v : World) (b0 : Nat) (b2 : Nat), Rs PointR.cells 2 v v.heap.size (some ⟨b0, 0, none⟩) n0 x0 → Fs v v.heap.size (some ⟨b2, 0, none⟩) n2 x2 → Calls Try.prog 31 #[.slice (some ⟨b0, 0, none⟩) n0 n0, .int .i64 a1, .slice (some ⟨b2, 0, none⟩) n2 n2] v (PEB rn0 rf0 rb1 v)) :
    Calls Try.prog 6 #[.slice A0 n0 c0, .int .i64 a1, .slice A2 n2 c2] w fun e w' => e = .returned (.bool true) ∧ w.Since w.heap.size w' := by
  have S0 : Hid (w.Since w.heap.size w) := Lib.hid (World.Since.refl _ _)
  have F0 : Hid (Rs PointR.cells 2 w w.heap.size A0 n0 x0) := Lib.hid (h0.now S0.out); clear h0
  have hd0 : decide ((1048576 : Int) < n0) = false := decide_eq_false (by omega)
  have F2 : Hid (Fs w w.heap.size A2 n2 x2) := Lib.hid (h2.now S0.out); clear h2
  have hd2 : decide ((1048576 : Int) < n2) = false := decide_eq_false (by omega)
  have HSP := Lib.hid hsp; have HIM := Lib.hid him; clear hsp him
  have hz0 : decide ((1048576 : Int) - n0 < 0) = false := decide_eq_false (by omega)
  have HK0 := Lib.hid hk0; clear hk0
  go_enter Try.func6, Try.ntmps6
  go_wp2_with fail
  go_at_call 15
  refine (szPointS_any A0 n0 c0 _ hn0).mono ?_; rintro e w' ⟨rfl, rfl⟩
  go_wp2_with fail
  have S : Hid (w.Since w.heap.size w) := Lib.hid (World.Since.refl _ _)
  have LV : Hid (He w.heap.size w []) := Lib.hid trivial
  go_at_call 17
  refine (toPointS_any A0 n0 c0 x0 w _ F0.out S.out hn0).mono ?_
  rintro e v1 ⟨rfl, hg, hs⟩
  have LV' := Lib.hid (LV.out.new hs hg S.out.size); clear LV; have LV := LV'; clear LV'
  have S' := Lib.hid (since_step S.out hs); clear S; have S := S'; clear S'
  clear hs hg
  go_wp2_with fail
  go_at_call 30
  refine (toFE_any A2 n2 c2 x2 w _ F2.out S.out hn2).mono ?_
  rintro e v2 ⟨rfl, hg, hs⟩
  have LV' := Lib.hid (LV.out.new hs hg S.out.size); clear LV; have LV := LV'; clear LV'
  have S' := Lib.hid (since_step S.out hs); clear S; have S := S'; clear S'
  clear hs hg
  go_wp2_with fail
  go_at_call 29
  refine (HSP.out _ _ _ ((LV.out.2.1.1).readS (by decide)) ((LV.out.1.1).readF)).mono ?_
  rintro e v3 ⟨w0, kw0, rfl, hnw0, hgw0, hfw0, hs⟩
  have LV' := Lib.hid ((LV.out.2.2).new hs hgw0 S.out.size); clear LV; have LV := LV'; clear LV'
  have S' := Lib.hid (since_step S.out hs); clear S; have S := S'; clear S'
  have Kw0 := Lib.hid hfw0; have Nw0 := Lib.hid hnw0; clear hfw0 hgw0 hnw0
  clear hs
  go_wp2_with fail
  go_at_call 17
  refine (toPointS_any A0 n0 c0 x0 w _ F0.out S.out hn0).mono ?_
  rintro e v4 ⟨rfl, hg, hs⟩
  have LV' := Lib.hid (LV.out.new hs hg S.out.size); clear LV; have LV := LV'; clear LV'
  have S' := Lib.hid (since_step S.out hs); clear S; have S := S'; clear S'
  clear hs hg
  go_wp2_with fail
  go_at_call 30
  refine (toFE_any A2 n2 c2 x2 w _ F2.out S.out hn2).mono ?_
  rintro e v5 ⟨rfl, hg, hs⟩
  have LV' := Lib.hid (LV.out.new hs hg S.out.size); clear LV; have LV := LV'; clear LV'
  have S' := Lib.hid (since_step S.out hs); clear S; have S := S'; clear S'
  clear hs hg
  go_wp2_with fail
  go_at_call 31
  refine (HIM.out _ _ _ ((LV.out.2.1.1).readS (by decide)) ((LV.out.1.1).readF)).mono ?_
  rintro e v6 ⟨g0, kg0, rfl, hng0, hgg0, hfg0, hs⟩
  have LV' := Lib.hid ((LV.out).new hs hgg0 S.out.size); clear LV; have LV := LV'; clear LV'
  have S' := Lib.hid (since_step S.out hs); clear S; have S := S'; clear S'
  have Kg0 := Lib.hid hfg0; have Ng0 := Lib.hid hng0; clear hfg0 hgg0 hng0
  clear hs
  go_wp2_with fail
  go_at_call 25
  refine (eqL_any g0 w0 _ _ _ _ (LV.out.1.1).readF (LV.out.2.2.2.1.1).readF (by rw [Ng0.out]; exact hr0) (Nw0.out.trans Ng0.out.symm) Kg0.out Kw0.out).mono ?_
  rintro e v7 ⟨rfl, hs⟩
  have S' := Lib.hid (since_step S.out hs); clear S; have S := S'; clear S'
  have LV' := Lib.hid (LV.out.since hs); clear LV; have LV := LV'; clear LV'
  clear hs
  go_wp2_with fail
  go_at_call 17
  refine (toPointS_any A0 n0 c0 x0 w _ F0.out S.out hn0).mono ?_
  rintro e v8 ⟨rfl, hg, hs⟩
  have LV' := Lib.hid (LV.out.new hs hg S.out.size); clear LV; have LV := LV'; clear LV'
  have S' := Lib.hid (since_step S.out hs); clear S; have S := S'; clear S'
  clear hs hg
  go_wp2_with fail
  go_at_call 19
  refine (eqPointS_any _ _ n0 _ _ x0 x0 _ _ (Nat.le_refl _) ((LV.out.2.2.2.1.1).readS (by decide)) ((LV.out.1.1).readS (by decide)) hn0 (fun k hk => ⟨HK0.out k hk, HK0.out k hk, PointR.same_refl _⟩)).mono ?_
  rintro e v9 ⟨rfl, hs⟩
  have S' := Lib.hid (since_step S.out hs); clear S; have S := S'; clear S'
  have LV' := Lib.hid (LV.out.since hs); clear LV; have LV := LV'; clear LV'
  clear hs
  have LV' := Lib.hid LV.out.2; clear LV; have LV := LV'; clear LV'
  go_wp2_with fail
  go_at_call 30
  refine (toFE_any A2 n2 c2 x2 w _ F2.out S.out hn2).mono ?_
  rintro e v10 ⟨rfl, hg, hs⟩
  have LV' := Lib.hid (LV.out.new hs hg S.out.size); clear LV; have LV := LV'; clear LV'
  have S' := Lib.hid (since_step S.out hs); clear S; have S := S'; clear S'
  clear hs hg
  go_wp2_with fail
  go_at_call 25
  refine (eqL_any ⟨some ⟨v4.heap.size, 0, none⟩, n2, x2⟩ ⟨some ⟨v9.heap.size, 0, none⟩, n2, x2⟩ _ _ _ _ (LV.out.2.2.1.1).readF (LV.out.1.1).readF (by omega) rfl (fun _ _ => rfl) (fun _ _ => rfl)).mono ?_
  rintro e v11 ⟨rfl, hs⟩
  have S' := Lib.hid (since_step S.out hs); clear S; have S := S'; clear S'
  have LV' := Lib.hid (LV.out.since hs); clear LV; have LV := LV'; clear LV'
  clear hs
  have LV' := Lib.hid LV.out.2; clear LV; have LV := LV'; clear LV'
  go_wp2_with fail
  go_at_call 26
  refine (markPointS_any v3.heap.size n0 x0 _ (1) _ _ _ _ (He.front [_, _] LV.out) (hn0) (by have := Ng0.out; omega) (by first | rfl | omega | (push_cast; omega))).mono ?_
  rintro e v12 ⟨rfl, hlv, hs⟩
  have LV' := Lib.hid hlv; clear LV hlv; have LV := LV'; clear LV'
  have S' := Lib.hid (since_mark S.out hs); clear S hs; have S := S'; clear S'
  go_wp2_with fail
  go_at_call 27
  refine (markFE_any (some ⟨v4.heap.size, 0, none⟩) n2 x2 _ (1 + n0 * 2) _ _ _ _ (He.front [_, _] LV.out) (hn2) (by have := Ng0.out; omega) (by first | rfl | omega | (push_cast; omega))).mono ?_
  rintro e v13 ⟨rfl, hlv, hs⟩
  have LV' := Lib.hid hlv; clear LV hlv; have LV := LV'; clear LV'
  have S' := Lib.hid (since_mark S.out hs); clear S hs; have S := S'; clear S'
  go_wp2_with fail
  go_at_call 25
  refine (eqL_any g0 w0 _ _ _ _ (LV.out.2.2.1.1).readF (LV.out.2.2.2.1.1).readF (by rw [Ng0.out]; exact hr0) (Nw0.out.trans Ng0.out.symm) Kg0.out Kw0.out).mono ?_
  rintro e v14 ⟨rfl, hs⟩
  have S' := Lib.hid (since_step S.out hs); clear S; have S := S'; clear S'
  have LV' := Lib.hid (LV.out.since hs); clear LV; have LV := LV'; clear LV'
  clear hs
  go_wp2_with fail
  go_at_call 27
  refine (markFE_any g0.A g0.n g0.xs _ (1) _ _ _ _ (He.front [_, _] LV.out) (by rw [Ng0.out]; exact hr0) (by have := Ng0.out; omega) (by first | rfl | omega | (push_cast; omega))).mono ?_
  rintro e v15 ⟨rfl, hlv, hs⟩
  have LV' := Lib.hid hlv; clear LV hlv; have LV := LV'; clear LV'
  have S' := Lib.hid (since_mark S.out hs); clear S hs; have S := S'; clear S'
  go_wp2_with fail
  go_at_call 28
  refine (heldFE_any g0.A g0.n _ (1) _ _ _ ((LV.out.1.1)) (by rw [Ng0.out]; exact hr0) (by have := Ng0.out; omega) (by first | rfl | omega | (push_cast; omega))).mono ?_
  rintro e v ⟨rfl, rfl⟩
  go_wp2_with fail
  go_at_call 17
  refine (toPointS_any A0 n0 c0 x0 w _ F0.out S.out hn0).mono ?_
  rintro e v16 ⟨rfl, hg, hs⟩
  have LV' := Lib.hid (LV.out.new hs hg S.out.size); clear LV; have LV := LV'; clear LV'
  have S' := Lib.hid (since_step S.out hs); clear S; have S := S'; clear S'
  clear hs hg
  go_wp2_with fail
  go_at_call 30
  refine (toFE_any A2 n2 c2 x2 w _ F2.out S.out hn2).mono ?_
  rintro e v17 ⟨rfl, hg, hs⟩
  have LV' := Lib.hid (LV.out.new hs hg S.out.size); clear LV; have LV := LV'; clear LV'
  have S' := Lib.hid (since_step S.out hs); clear S; have S := S'; clear S'
  clear hs hg
  go_wp2_with fail
  go_at_call 31
  refine (HIM.out _ _ _ ((LV.out.2.1.1).readS (by decide)) ((LV.out.1.1).readF)).mono ?_
  rintro e v18 ⟨h0, kh0, rfl, hnh0, hgh0, hfh0, hs⟩
  have LV' := Lib.hid ((LV.out.2.2).new hs hgh0 S.out.size); clear LV; have LV := LV'; clear LV'
  have S' := Lib.hid (since_step S.out hs); clear S; have S := S'; clear S'
  have Kh0 := Lib.hid hfh0; have Nh0 := Lib.hid hnh0; clear hfh0 hgh0 hnh0
  clear hs
  go_wp2_with fail
  go_at_call 25
  refine (eqL_any h0 w0 _ _ _ _ (LV.out.1.1).readF (LV.out.2.2.2.2.1.1).readF (by rw [Nh0.out]; exact hr0) (Nw0.out.trans Nh0.out.symm) Kh0.out Kw0.out).mono ?_
  rintro e v19 ⟨rfl, hs⟩
  have S' := Lib.hid (since_step S.out hs); clear S; have S := S'; clear S'
  have LV' := Lib.hid (LV.out.since hs); clear LV; have LV := LV'; clear LV'
  clear hs
  go_wp2_with fail
  go_at_call 28
  refine (heldFE_any g0.A g0.n _ (1) _ _ _ ((LV.out.2.1.1)) (by rw [Ng0.out]; exact hr0) (by have := Ng0.out; omega) (by first | rfl | omega | (push_cast; omega))).mono ?_
  rintro e v ⟨rfl, rfl⟩
  go_wp2_with fail
  go_ret
  exact ⟨rfl, S.out⟩
set_option maxHeartbeats 2000000 in
set_option maxRecDepth 100000 in
theorem lawApplyLane_big (A0 : Option Addr) (n0 c0 : Nat) (a1 : Int) (A2 : Option Addr) (n2 c2 : Nat) (w : World) (h : 1048576 < n0 ∨ 1048576 < n2)
    (hb0 : n0 ≤ 9223372036854775807)
    : Calls Try.prog 6 #[.slice A0 n0 c0, .int .i64 a1, .slice A2 n2 c2] w fun e w' => e = .returned (.bool true) ∧ w.Since w.heap.size w' := by
  by_cases b2 : 1048576 < n2
  · have hd2 : decide ((1048576 : Int) < n2) = true := decide_eq_true (by omega)
    go_enter Try.func6, Try.ntmps6
    go_wp2
    go_ret
    exact ⟨rfl, by (repeat (first | (with_reducible refine Fl.sinDrew ?_) | (with_reducible refine World.Since.drew ?_) | (with_reducible refine Fl.sinSet ?_ ?_; rotate_left) | (with_reducible refine Fl.sinAlloc ?_ ?_; rotate_left) | with_reducible exact World.Since.refl _ _ | with_reducible assumption | (with_reducible refine Fl.sinStep (by with_reducible assumption) ?_))); all_goals (first | omega | (simp; done) | (simp; omega) | (simp [go_sem]; done) | (simp [go_sem]; omega))⟩
  · have hd2 : decide ((1048576 : Int) < n2) = false := decide_eq_false (by omega)
    by_cases b0 : 1048576 < n0
    · have hd0 : decide ((1048576 : Int) < n0) = true := decide_eq_true (by omega)
      go_enter Try.func6, Try.ntmps6
      go_wp2_with (go_at_call 15; refine (szPointS_big A0 n0 c0 _ b0 hb0).mono ?_; rintro e w' ⟨rfl, rfl⟩)
      go_ret
      exact ⟨rfl, by (repeat (first | (with_reducible refine Fl.sinDrew ?_) | (with_reducible refine World.Since.drew ?_) | (with_reducible refine Fl.sinSet ?_ ?_; rotate_left) | (with_reducible refine Fl.sinAlloc ?_ ?_; rotate_left) | with_reducible exact World.Since.refl _ _ | with_reducible assumption | (with_reducible refine Fl.sinStep (by with_reducible assumption) ?_))); all_goals (first | omega | (simp; done) | (simp; omega) | (simp [go_sem]; done) | (simp [go_sem]; omega))⟩
    · have hd0 : decide ((1048576 : Int) < n0) = false := decide_eq_false (by omega)
      omega
end Go.Proofs.Ytmdnalkfndoicaa

/- Valid lanes, of the model and of the program. -/
set_option linter.unusedVariables false
set_option linter.unusedSimpArgs false
namespace Go.Proofs.Ytmdnalkfndoicaa
open Fl Go.RowKit
/-- the first k points are in their limits, and rise -/
def lanesOk (x : Nat → PointR) (k : Nat) : Prop := ∀ j, j < k → inB (x j).a 0 100000 = true ∧ (1 ≤ j → (x (j - 1)).a < (x j).a)
def laneOk (x : Nat → PointR) (n : Nat) : Prop := lanesOk x n ∧ 1 ≤ n ∧ n ≤ 12
set_option maxHeartbeats 8000000 in
set_option maxRecDepth 100000 in
theorem specLane_b (A : Option Addr) (n c : Nat) (x : Nat → PointR) (r : Bool) (w : World) (B : Nat) (h : Rs PointR.cells 2 w B A n x) (hB : B ≤ w.heap.size) (hn : n ≤ 1048576) (hr : r = true ↔ laneOk x n) :
    Calls Try.prog 55 #[.slice A n c] w fun e w' => e = .returned (.bool r) ∧ w.Since w.heap.size w' := by
  have HA := Lib.hid h; have HR := Lib.hid hr
  clear h hr
  go_enter Try.func55, Try.ntmps55
  go_wp2
  go_loopw [6] (fun i wr => ∃ k : Nat, k ≤ n ∧ i = .int .i64 k ∧ lanesOk x k ∧ w.Since w.heap.size wr) (fun i _ => n - (intOf i).toNat)
  case atStart => exact ⟨0, Nat.zero_le _, rfl, (fun j hj => by omega), World.Since.refl _ _⟩
  case round =>
    obtain ⟨k, hk, rfl, hz, hs⟩ := hrel
    have HZ := Lib.hid hz; have HS := Lib.hid hs
    clear hz hs
    by_cases hlt : k < n
    · obtain ⟨g, off, hA, hg, hc⟩ := HA.out.at_ hlt
      have hc0 := (HS.out.cell (a := ⟨g, off + k * 2 + 0, none⟩) (by show g < _; omega)).trans (hc 0 (by decide))
      simp only [PointR.cells, List.getD_cons_zero, List.getD_cons_succ, Nat.add_zero] at hc0
      clear hc
      have HN := Lib.hid (fun b (hb : inB (x k).a 0 100000 = b) (m : Nat) => (specHold_b (x k).a 0 100000 b (wr.drewN m) hb).mono fun _ _ ⟨h1, h2⟩ => (⟨h1, h2.symm⟩ : _ ∧ _))
      cases ho : inB (x k).a 0 100000
      · have h6 : r = false := by
          cases h6 : r
          · rfl
          · have h7 := ((HR.out.1 h6).1 k hlt).1
            rw [ho] at h7; cases h7
        subst h6
        clear HR
        subst hA
        go_wp2_with fail
        go_quiet (first | (go_at_call 59; refine Calls.quiet_of_same (HN.out false ho _)))
        go_wp2
        go_ret
        exact ⟨rfl, since_drewN HS.out _⟩
      · have HO := Lib.hid ho
        match k with
        | 0 =>
          subst hA
          clear HR
          simp only [Nat.zero_mul, Nat.add_zero] at hc0
          go_wp2_with fail
          go_quiet (first | (go_at_call 59; refine Calls.quiet_of_same (HN.out true HO.out _)))
          go_wp2
          go_roundw
          case rel =>
            refine ⟨1, by omega, by go_num, fun j hj => ?_, since_drewN HS.out _⟩
            obtain rfl : j = 0 := by omega
            exact ⟨HO.out, fun h => by omega⟩
          case measure => simp [intOf]; omega
        | m + 1 =>
          obtain ⟨g2, off2, hA2, _, hc⟩ := HA.out.at_ (show m < n by omega)
          rw [hA] at hA2
          injection hA2 with hA2; injection hA2 with hA2 hA3 _; subst hA2 hA3
          have hp0 := (HS.out.cell (a := ⟨g, off + m * 2 + 0, none⟩) (by show g < _; omega)).trans (hc 0 (by decide))
          simp only [PointR.cells, List.getD_cons_zero, Nat.add_zero] at hp0
          clear hc
          have hm : ((m + 1 : Nat) : Int) - 1 = (m : Int) := by omega
          have i1 : decide ((0 : Int) < (m : Int) + 1) = true := decide_eq_true (by omega)
          have i2 : (m : Int) + 1 - 1 = (m : Int) := by omega
          have i3 : (m : Int) < (n : Int) := by omega
          have i4 : (m : Int) + 1 < (n : Int) := by omega
          have i5 : (0 : Int) ≤ (m : Int) + 1 := by omega
          have i6 : ((m : Int) + 1).toNat = m + 1 := by omega
          subst hA
          cases hd : decide ((x m).a < (x (m + 1)).a)
          · have h6 : r = false := by
              cases h6 : r
              · rfl
              · have h7 := ((HR.out.1 h6).1 (m + 1) hlt).2 (by omega)
                rw [Nat.add_sub_cancel, ] at h7
                exact absurd h7 (of_decide_eq_false hd)
            subst h6
            clear HR
            have hd2 : decide ((x (m + 1)).a ≤ (x m).a) = true := decide_eq_true (by have := of_decide_eq_false hd; omega)
            go_wp2_with fail
            go_quiet (first | (go_at_call 59; refine Calls.quiet_of_same (HN.out true HO.out _)))
            go_wp2
            go_ret
            exact ⟨rfl, since_drewN HS.out _⟩
          · clear HR
            have HD := Lib.hid hd
            have hd2 : decide ((x (m + 1)).a ≤ (x m).a) = false := decide_eq_false (by have := of_decide_eq_true hd; omega)
            go_wp2_with fail
            go_quiet (first | (go_at_call 59; refine Calls.quiet_of_same (HN.out true HO.out _)))
            go_wp2
            go_roundw
            case rel =>
              refine ⟨m + 1 + 1, by omega, by go_num, fun j hj => ?_, since_drewN HS.out _⟩
              by_cases e : j = m + 1
              · subst e
                exact ⟨HO.out, fun _ => by rw [Nat.add_sub_cancel]; exact of_decide_eq_true HD.out⟩
              · exact HZ.out j (by omega)
            case measure => simp [intOf]; omega
    · obtain rfl : k = n := by omega
      cases h3 : decide ((1 : Int) ≤ (k : Int)) && decide ((k : Int) ≤ 12)
      · have h5 : r = false := by
          cases h6 : r
          · rfl
          · have h7 := (HR.out.1 h6).2
            rw [decide_eq_true (show (1 : Int) ≤ (k : Int) by omega), decide_eq_true (show (k : Int) ≤ 12 by omega)] at h3; cases h3
        subst h5
        clear HR
        by_cases h8 : (1 : Int) ≤ (k : Int)
        · have h9 : ¬ (k : Int) ≤ 12 := fun h => by rw [decide_eq_true h8, decide_eq_true h] at h3; cases h3
          clear h3
          go_wp2
          go_ret
          exact ⟨rfl, HS.out⟩
        · clear h3
          go_wp2
          go_ret
          exact ⟨rfl, HS.out⟩
      · rw [Bool.and_eq_true] at h3
        have h8 := of_decide_eq_true h3.1
        have h9 := of_decide_eq_true h3.2
        clear h3
        have h5 := HR.out.2 ⟨HZ.out, by omega, by omega⟩
        subst h5
        clear HR
        go_wp2
        go_ret
        exact ⟨rfl, HS.out⟩
end Go.Proofs.Ytmdnalkfndoicaa

/- Valid lanes of the program; the law of IsLane. -/
set_option linter.unusedVariables false
set_option linter.unusedSimpArgs false
namespace Go.Proofs.Ytmdnalkfndoicaa
open Fl Go.RowKit
theorem isLanePlace_b (x : Int) (b : Bool) (w : World) (h : inB x 0 100000 = b) : Calls Try.prog 61 #[.int .i64 x] w fun e w' => e = .returned (.bool b) ∧ w.alloc (lim 0 100000) = w' := by
  subst h
  unfold lim
  go_enter Try.func61, Try.ntmps61
  go_wp2_with (go_at_call 78; refine (allowX_any _ _ _ _).mono ?_; rintro e w1 ⟨rfl, rfl⟩)
  go_ret
  exact ⟨rfl, rfl⟩
theorem pointClos_b (a : Int) (g : Nat) (bb : Bool) (w : World) (h : inB a 0 100000 = bb) : Calls Try.prog 95 #[.agg #[.int .i64 a, .float .f32 g]] w fun e w' => e = .returned (.bool bb) ∧ w.Since w.heap.size w' := by
  go_enter Try.func95, Try.ntmps95
  go_wp2_with (go_at_call 61; refine (isLanePlace_b _ _ _ h).mono ?_; rintro e w1 ⟨rfl, rfl⟩)
  go_ret
  exact ⟨rfl, by unfold lim; (repeat (first | (with_reducible refine Fl.sinDrew ?_) | (with_reducible refine World.Since.drew ?_) | (with_reducible refine Fl.sinSet ?_ ?_; rotate_left) | (with_reducible refine Fl.sinAlloc ?_ ?_; rotate_left) | with_reducible exact World.Since.refl _ _ | with_reducible assumption | (with_reducible refine Fl.sinStep (by with_reducible assumption) ?_))); all_goals (first | omega | (simp; done) | (simp; omega) | (simp [go_sem]; done) | (simp [go_sem]; omega))⟩
def pointsIn (x : Nat → PointR) (k : Nat) : Prop := ∀ j, j < k → inB (x j).a 0 100000 = true
set_option maxHeartbeats 2000000 in
set_option maxRecDepth 100000 in
theorem allPoints_any (A : Option Addr) (n c : Nat) (x : Nat → PointR) (r : Bool) (w : World) (B : Nat) (h : Rs PointR.cells 2 w B A n x) (hB : B ≤ w.heap.size) (hn : n ≤ 1048576) (hr : r = true ↔ pointsIn x n) :
    Calls Try.prog 96 #[.slice A n c, .func (.func 95) #[] #[]] w fun e w' => e = .returned (.bool r) ∧ w.Since w.heap.size w' := by
  have HA := Lib.hid h; have HR := Lib.hid hr
  clear h hr
  go_enter Try.func96, Try.ntmps96
  go_wp2
  go_loopw [9] (fun i wr => ∃ k : Nat, k ≤ n ∧ i = .int .i64 k ∧ pointsIn x k ∧ w.Since w.heap.size wr) (fun i _ => n - (intOf i).toNat)
  case atStart => exact ⟨0, Nat.zero_le _, rfl, (fun j hj => by omega), World.Since.refl _ _⟩
  case round =>
    obtain ⟨k, hk, rfl, hz, hs⟩ := hrel
    have HZ := Lib.hid hz; have HS := Lib.hid hs
    clear hz hs
    by_cases hlt : k < n
    · obtain ⟨g, off, rfl, hg, hc⟩ := HA.out.at_ hlt
      have hc0 := (HS.out.cell (a := ⟨g, off + k * 2 + 0, none⟩) (by show g < _; omega)).trans (hc 0 (by decide))
      have hc1 := (HS.out.cell (a := ⟨g, off + k * 2 + 1, none⟩) (by show g < _; omega)).trans (hc 1 (by decide))
      simp only [PointR.cells, List.getD_cons_zero, List.getD_cons_succ, Nat.add_zero] at hc0 hc1
      clear hc
      cases ho : inB (x k).a 0 100000
      · have h6 : r = false := by
          cases h6 : r
          · rfl
          · have h7 := HR.out.1 h6 k hlt
            rw [ho] at h7; cases h7
        subst h6
        clear HR
        go_wp2_with fail
        refine (pointClos_b _ _ false _ ho).mono ?_; rintro e w2 ⟨rfl, hs2⟩
        have HS2 := Lib.hid (since_step (HS.out.alloc HS.out.size _) hs2); clear hs2
        go_wp2
        go_ret
        exact ⟨rfl, HS2.out⟩
      · have HO := Lib.hid ho
        go_wp2_with fail
        refine (pointClos_b _ _ true _ HO.out).mono ?_; rintro e w2 ⟨rfl, hs2⟩
        have HS2 := Lib.hid (since_step (HS.out.alloc HS.out.size _) hs2); clear hs2
        go_wp2
        go_roundw
        case rel =>
          refine ⟨k + 1, by omega, by go_num, fun j hj => ?_, HS2.out⟩
          by_cases e : j = k
          · subst e; exact HO.out
          · exact HZ.out j (by omega)
        case measure => simp [intOf]; omega
    · obtain rfl : k = n := by omega
      have h5 := HR.out.2 HZ.out
      subst h5
      clear HR
      go_wp2
      go_ret
      exact ⟨rfl, HS.out⟩
def laneV (b : Bool) (A : Option Addr) (n c : Nat) : Value := if b then .slice A n c else .slice none 0 0
theorem lanesOk_iff (x : Nat → PointR) (n : Nat) : lanesOk x n ↔ pointsIn x n ∧ ∀ j, j + 1 < n → (x j).a < (x (j + 1)).a := by
  constructor
  · intro h
    exact ⟨fun j hj => (h j hj).1, fun j hj => by have := (h (j + 1) hj).2 (by omega); rwa [Nat.add_sub_cancel] at this⟩
  · intro h j hj
    refine ⟨h.1 j hj, fun h1 => ?_⟩
    have := h.2 (j - 1) (by omega)
    rwa [Nat.sub_add_cancel h1] at this
set_option maxHeartbeats 8000000 in
set_option maxRecDepth 100000 in
theorem laneOf_in (A : Option Addr) (n c : Nat) (x : Nat → PointR) (r : Bool) (w : World) (B : Nat) (h : Rs PointR.cells 2 w B A n x) (hB : B ≤ w.heap.size) (hnc : n ≤ c) (h1 : 1 ≤ n) (h2 : n ≤ 12) (hp : pointsIn x n) (hr : r = true ↔ ∀ j, j + 1 < n → (x j).a < (x (j + 1)).a) :
    Calls Try.prog 57 #[.slice A n c] w fun e w' => ∃ v, e = .returned (.tuple #[v, .bool r]) ∧ v = laneV r A n c ∧ w.Since w.heap.size w' := by
  have HA := Lib.hid h; have HR := Lib.hid hr; have HP := Lib.hid hp
  clear h hr hp
  obtain ⟨g, off, rfl, hg, _⟩ := HA.out.at_ (show 0 < n by omega)
  have hB' : Hid (Rs PointR.cells 2 w w.heap.size (some ⟨g, off, none⟩) n x) := Lib.hid (HA.out.more hB)
  have hg2 : g < w.heap.size := by omega
  clear HA
  have hn1 : ((n - 1 : Nat) : Int) = (n : Int) - 1 := by omega
  by_cases he : n = 1
  · subst he
    have hr1 : r = true := HR.out.2 fun j hj => by omega
    subst hr1
    clear HR hn1
    by_cases hc2 : c = 1
    · subst hc2
      go_enter Try.func57, Try.ntmps57
      go_wp2_with (go_at_call 96; refine (allPoints_any _ _ _ x true _ _ hB'.out (Nat.le_refl _) (by omega) ⟨fun _ => HP.out, fun _ => rfl⟩).mono ?_; rintro e w1 ⟨rfl, hs⟩; have HS1 := Lib.hid hs; clear hs)
      go_loopw [24] (fun i wr => i = .int .i64 0 ∧ wr = w1) (fun _ _ => 0)
      case atStart => exact ⟨rfl, rfl⟩
      case round =>
        obtain ⟨rfl, rfl⟩ := hrel
        go_wp2
        go_ret2
        exact ⟨_, rfl, rfl, HS1.out⟩
    · have hc3 : 2 ≤ c := by omega
      go_enter Try.func57, Try.ntmps57
      go_wp2_with (go_at_call 96; refine (allPoints_any _ _ _ x true _ _ hB'.out (Nat.le_refl _) (by omega) ⟨fun _ => HP.out, fun _ => rfl⟩).mono ?_; rintro e w1 ⟨rfl, hs⟩; have HS1 := Lib.hid hs; clear hs)
      go_loopw [24] (fun i wr => i = .int .i64 0 ∧ wr = w1) (fun _ _ => 0)
      case atStart => exact ⟨rfl, rfl⟩
      case round =>
        obtain ⟨rfl, rfl⟩ := hrel
        go_wp2
        go_ret2
        exact ⟨_, rfl, rfl, HS1.out⟩
  · have h3 : 2 ≤ n := by omega
    have h4 : 2 ≤ c := by omega
    go_enter Try.func57, Try.ntmps57
    go_wp2_with (go_at_call 96; refine (allPoints_any _ _ c x true _ _ hB'.out (Nat.le_refl _) (by omega) ⟨fun _ => HP.out, fun _ => rfl⟩).mono ?_; rintro e w1 ⟨rfl, hs⟩; have HS1 := Lib.hid hs; clear hs)
    go_loopw [24] (fun i wr => ∃ k : Nat, k + 1 ≤ n ∧ i = .int .i64 k ∧ (∀ j, j < k → (x j).a < (x (j + 1)).a) ∧ w.Since w.heap.size wr) (fun i _ => n - (intOf i).toNat)
    case atStart => exact ⟨0, by omega, rfl, (fun j hj => by omega), HS1.out⟩
    case round =>
      obtain ⟨k, hk, rfl, hz, hs⟩ := hrel
      have HZ := Lib.hid hz; have HS := Lib.hid hs
      clear hz hs HS1
      by_cases hlt : k + 1 < n
      · obtain ⟨_, _, e1, _, hc⟩ := hB'.out.at_ hlt
        injection e1 with e1; injection e1 with e1 e2 _; subst e1; subst e2
        obtain ⟨_, _, e1, _, hd⟩ := hB'.out.at_ (show k < n by omega)
        injection e1 with e1; injection e1 with e1 e2 _; subst e1; subst e2
        have hc0 := (HS.out.cell (a := ⟨g, off + (k + 1) * 2 + 0, none⟩) hg2).trans (hc 0 (by decide))
        have hc1 := (HS.out.cell (a := ⟨g, off + (k + 1) * 2 + 1, none⟩) hg2).trans (hc 1 (by decide))
        have hd0 := (HS.out.cell (a := ⟨g, off + k * 2 + 0, none⟩) hg2).trans (hd 0 (by decide))
        simp only [PointR.cells, List.getD_cons_zero, List.getD_cons_succ, Nat.add_zero, show off + (k + 1) * 2 = off + 2 + k * 2 by omega] at hc0 hc1 hd0
        clear hc hd
        have hlt2 : (k : Int) < ((n - 1 : Nat) : Int) := by omega
        have hz := HS.out.size
        have hg3 : g < wr.heap.size := by omega
        have hkn : k < n := by omega
        cases hd : decide ((x k).a < (x (k + 1)).a)
        · have h6 : r = false := by
            cases h6 : r
            · rfl
            · exact absurd (HR.out.1 h6 k hlt) (of_decide_eq_false hd)
          subst h6
          clear HR
          have hd2 : decide ((x (k + 1)).a ≤ (x k).a) = true := decide_eq_true (by have := of_decide_eq_false hd; omega)
          go_wp2
          go_region
          go_wp2
          go_ret2
          exact ⟨_, rfl, rfl, by (repeat (first | (with_reducible refine Fl.sinDrew ?_) | (with_reducible refine World.Since.drew ?_) | (with_reducible refine Fl.sinSet ?_ ?_; rotate_left) | (with_reducible refine Fl.sinAlloc ?_ ?_; rotate_left) | with_reducible exact World.Since.refl _ _ | with_reducible assumption | (with_reducible refine Fl.sinStep (by with_reducible assumption) ?_))); all_goals (first | omega | (simp; done) | (simp; omega) | (simp [go_sem]; done) | (simp [go_sem]; omega))⟩
        · have HD := Lib.hid hd
          have hd2 : decide ((x (k + 1)).a ≤ (x k).a) = false := decide_eq_false (by have := of_decide_eq_true hd; omega)
          go_wp2
          go_region
          go_wp2
          go_roundw
          case rel =>
            refine ⟨k + 1, by omega, by go_num, fun j hj => ?_, by (repeat (first | (with_reducible refine Fl.sinDrew ?_) | (with_reducible refine World.Since.drew ?_) | (with_reducible refine Fl.sinSet ?_ ?_; rotate_left) | (with_reducible refine Fl.sinAlloc ?_ ?_; rotate_left) | with_reducible exact World.Since.refl _ _ | with_reducible assumption | (with_reducible refine Fl.sinStep (by with_reducible assumption) ?_))); all_goals (first | omega | (simp; done) | (simp; omega) | (simp [go_sem]; done) | (simp [go_sem]; omega))⟩
            by_cases e : j = k
            · subst e; exact of_decide_eq_true HD.out
            · exact HZ.out j (by omega)
          case measure => simp [intOf]; omega
      · have h5 := HR.out.2 (fun j hj => HZ.out j (by omega))
        subst h5
        clear HR
        have hlt2 : decide ((k : Int) < ((n - 1 : Nat) : Int)) = false := decide_eq_false (by omega)
        go_wp2
        go_ret2
        exact ⟨_, rfl, rfl, HS.out⟩
set_option maxHeartbeats 8000000 in
set_option maxRecDepth 100000 in
theorem laneOf_any (A : Option Addr) (n c : Nat) (x : Nat → PointR) (r : Bool) (w : World) (B : Nat) (h : Rs PointR.cells 2 w B A n x) (hB : B ≤ w.heap.size) (hnc : n ≤ c) (hn : n ≤ 1048576) (hr : r = true ↔ laneOk x n) :
    Calls Try.prog 57 #[.slice A n c] w fun e w' => ∃ v, e = .returned (.tuple #[v, .bool r]) ∧ v = laneV r A n c ∧ w.Since w.heap.size w' := by
  by_cases h1 : 1 ≤ n
  · by_cases h2 : n ≤ 12
    · by_cases hp : pointsIn x n
      · refine laneOf_in A n c x r w B h hB hnc h1 h2 hp (hr.trans ?_)
        unfold laneOk
        rw [lanesOk_iff]
        exact ⟨fun h => h.1.2, fun h => ⟨⟨hp, h⟩, h1, h2⟩⟩
      · have h6 : r = false := by
          cases h6 : r
          · rfl
          · exact absurd ((lanesOk_iff x n).1 (hr.1 h6).1).1 hp
        subst h6
        have HA := Lib.hid h
        clear hr h
        go_enter Try.func57, Try.ntmps57
        go_wp2_with fail
        go_at_call 96
        refine (allPoints_any _ _ c x false _ _ HA.out hB (by omega) ⟨fun h => (by cases h), fun h => absurd h hp⟩).mono ?_
        rintro e w1 ⟨rfl, hs⟩
        have HS1 := Lib.hid hs; clear hs
        go_wp2
        go_ret2
        exact ⟨_, rfl, rfl, HS1.out⟩
    · have h6 : r = false := by
        cases h6 : r
        · rfl
        · exact absurd (hr.1 h6).2.2 h2
      subst h6
      clear hr h
      have h7 : decide ((12 : Int) < n) = true := decide_eq_true (by omega)
      have h8 : decide ((n : Int) < 1) = false := decide_eq_false (by omega)
      go_enter Try.func57, Try.ntmps57
      go_wp2
      go_ret2
      exact ⟨_, rfl, rfl, World.Since.refl _ _⟩
  · have h6 : r = false := by
      cases h6 : r
      · rfl
      · exact absurd (hr.1 h6).2.1 h1
    subst h6
    clear hr h
    obtain rfl : n = 0 := by omega
    go_enter Try.func57, Try.ntmps57
    go_wp2
    go_ret2
    exact ⟨_, rfl, rfl, World.Since.refl _ _⟩
end Go.Proofs.Ytmdnalkfndoicaa

/- Values of lanes: of the model. -/
set_option linter.unusedVariables false
set_option linter.unusedSimpArgs false
namespace Go.Proofs.Ytmdnalkfndoicaa
open Fl Go.RowKit
/-- how many of the first points lie before a place -/
def lowI (x : Nat → PointR) (p : Int) : Nat → Nat
  | 0 => 0
  | k + 1 => if lowI x p k = k ∧ (x k).a < p then k + 1 else lowI x p k
theorem low_full (x : Nat → PointR) (p : Int) : ∀ i, (∀ k, k < i → (x k).a < p) → lowI x p i = i
  | 0, _ => rfl
  | i + 1, h => by
    unfold lowI
    rw [if_pos ⟨low_full x p i fun k hk => h k (by omega), h i (by omega)⟩]
theorem low_stop (x : Nat → PointR) (p : Int) (i : Nat) (h : lowI x p i = i) (hp : p ≤ (x i).a) : ∀ m, lowI x p (i + m) = i
  | 0 => h
  | m + 1 => by
    show lowI x p (i + m + 1) = i
    unfold lowI
    rw [low_stop x p i h hp m, if_neg]
    rintro ⟨h1, h2⟩
    obtain rfl : m = 0 := by omega
    simp only [Nat.add_zero] at h2
    omega
theorem low_eq (x : Nat → PointR) (p : Int) (n i : Nat) (hi : i ≤ n) (h : ∀ k, k < i → (x k).a < p) (hp : i < n → p ≤ (x i).a) : lowI x p n = i := by
  by_cases e : i = n
  · subst e; exact low_full x p i h
  · have := low_stop x p i (low_full x p i h) (hp (by omega)) (n - i)
    rwa [show i + (n - i) = n by omega] at this
def pv (x : Nat → PointR) (i : Nat) : O := ab .f32 (x i).v
def midO (x : Nat → PointR) (i : Nat) (p : Int) : O := ad (pv x (i - 1)) (mu (su (pv x i) (pv x (i - 1))) (qu (some (fI (p - (x (i - 1)).a))) (some (fI ((x i).a - (x (i - 1)).a)))))
/-- the value of a lane at a place -/
def laneO (x : Nat → PointR) (n : Nat) (p : Int) : O :=
  if lowI x p n < n ∧ (x (lowI x p n)).a = p then pv x (lowI x p n) else if lowI x p n = 0 then pv x 0 else if lowI x p n = n then pv x (n - 1) else midO x (lowI x p n) p
theorem laneO_at (x : Nat → PointR) (n : Nat) (p : Int) (i : Nat) (hi : i < n) (h : ∀ k, k < i → (x k).a < p) (hp : (x i).a = p) : laneO x n p = pv x i := by
  have e := low_eq x p n i (by omega) h (fun _ => by omega)
  unfold laneO
  rw [e, if_pos ⟨hi, hp⟩]
theorem laneO_first (x : Nat → PointR) (n : Nat) (p : Int) (hn : 0 < n) (hp : p ≤ (x 0).a) : laneO x n p = pv x 0 := by
  have e := low_eq x p n 0 (by omega) (fun k hk => by omega) (fun _ => hp)
  unfold laneO
  rw [e]
  split
  · rfl
  · rfl
theorem laneO_last (x : Nat → PointR) (n : Nat) (p : Int) (hn : 0 < n) (h : ∀ k, k < n → (x k).a < p) : laneO x n p = pv x (n - 1) := by
  have e := low_eq x p n n (Nat.le_refl _) h (fun h => by omega)
  unfold laneO
  rw [e, if_neg (by omega), if_neg (by omega), if_pos rfl]
theorem laneO_mid (x : Nat → PointR) (n : Nat) (p : Int) (i : Nat) (h0 : 0 < i) (hi : i < n) (h : ∀ k, k < i → (x k).a < p) (hp : p < (x i).a) : laneO x n p = midO x i p := by
  have e := low_eq x p n i (by omega) h (fun _ => by omega)
  unfold laneO
  rw [e, if_neg (by omega), if_neg (by omega), if_neg (by omega)]
theorem lane_asc (x : Nat → PointR) (n : Nat) (h : lanesOk x n) : ∀ d i, i + d + 1 < n → (x i).a < (x (i + d + 1)).a
  | 0, i, hj => by have := (h (i + 1) hj).2 (by omega); rwa [Nat.add_sub_cancel] at this
  | d + 1, i, hj => by
    have h1 := lane_asc x n h d i (by omega)
    have h2 := (h (i + d + 1 + 1) (by omega)).2 (by omega)
    rw [Nat.add_sub_cancel] at h2
    have h3 : i + (d + 1) + 1 = i + d + 1 + 1 := by omega
    rw [h3]; omega
theorem lane_lt (x : Nat → PointR) (n : Nat) (h : lanesOk x n) (i j : Nat) (hij : i < j) (hj : j < n) : (x i).a < (x j).a := by
  have := lane_asc x n h (j - i - 1) i (by omega)
  rwa [show i + (j - i - 1) + 1 = j by omega] at this
theorem lane_in (x : Nat → PointR) (n : Nat) (h : lanesOk x n) (i : Nat) (hi : i < n) : 0 ≤ (x i).a ∧ (x i).a ≤ 100000 := by simpa [inB] using (h i hi).1
theorem laneO_back (x : Nat → PointR) (n : Nat) (h : lanesOk x n) (p : Int) (hn : 0 < n) (hp : (x (n - 1)).a ≤ p) : laneO x n p = pv x (n - 1) := by
  by_cases e : (x (n - 1)).a = p
  · exact laneO_at x n p (n - 1) (by omega) (fun k hk => by have := lane_lt x n h k (n - 1) hk (by omega); omega) e
  · exact laneO_last x n p hn fun k hk => by
      by_cases e2 : k = n - 1
      · subst e2; omega
      · have := lane_lt x n h k (n - 1) (by omega) (by omega); omega
set_option maxHeartbeats 8000000 in
set_option maxRecDepth 100000 in
theorem specAt_any (A : Option Addr) (n c : Nat) (x : Nat → PointR) (p : Int) (w : World) (B : Nat) (h : Rs PointR.cells 2 w B A n x) (hB : B ≤ w.heap.size) (hx : ∀ k, k < n → (x k).ok) (hl : lanesOk x n) (h1 : 1 ≤ n) (h2 : n ≤ 12) (hp : 0 ≤ p) (hp2 : p ≤ 200000) :
    Calls Try.prog 60 #[.slice A n c, .int .i64 p] w fun e w' => ∃ r, e = .returned (.float .f32 r) ∧ Hid (Fv .f32 r (laneO x n p)) ∧ w.Since w.heap.size w' := by
  have HA := Lib.hid h; have HX := Lib.hid hx; have HL := Lib.hid hl
  clear h hx hl
  obtain ⟨g, off, rfl, hg, hc⟩ := HA.out.at_ (show 0 < n by omega)
  have hg2 : g < w.heap.size := by omega
  have hc0 := hc 0 (by decide)
  have hc1 := hc 1 (by decide)
  simp only [PointR.cells, List.getD_cons_zero, List.getD_cons_succ, Nat.add_zero, Nat.zero_mul] at hc0 hc1
  clear hc
  have hn0 : decide ((0 : Int) < n) = true := decide_eq_true (by omega)
  have hn1 : (0 : Int) < (n : Int) := by omega
  have hn3 : 0 < n := by omega
  by_cases hf : p ≤ (x 0).a
  · have hr : Hid (Fv .f32 (x 0).v (laneO x n p)) := Lib.hid ⟨HX.out 0 (by omega), (laneO_first x n p (by omega) hf).symm⟩
    go_enter Try.func60, Try.ntmps60
    go_wp2
    go_ret
    exact ⟨_, rfl, hr, World.Since.refl _ _⟩
  · go_enter Try.func60, Try.ntmps60
    go_wp2
    go_loopw [5] (fun i wr => ∃ k : Nat, 1 ≤ k ∧ k ≤ n ∧ i = .int .i64 k ∧ (x (k - 1)).a ≤ p ∧ w.Since w.heap.size wr) (fun i _ => n - (intOf i).toNat)
    case atStart => exact ⟨1, by omega, by omega, rfl, by simp; omega, World.Since.refl _ _⟩
    case round =>
      obtain ⟨k, hk1, hk, rfl, hz, hs⟩ := hrel
      have HZ := Lib.hid hz; have HS := Lib.hid hs
      clear hz hs hc0 hc1
      by_cases hlt : k < n
      · obtain ⟨_, _, e1, _, hd⟩ := HA.out.at_ (show k - 1 < n by omega)
        injection e1 with e1; injection e1 with e1 e2 _; subst e1; subst e2
        obtain ⟨_, _, e1, _, hc⟩ := HA.out.at_ hlt
        injection e1 with e1; injection e1 with e1 e2 _; subst e1; subst e2
        have hd0 := (HS.out.cell (a := ⟨g, off + (k - 1) * 2 + 0, none⟩) hg2).trans (hd 0 (by decide))
        have hd1 := (HS.out.cell (a := ⟨g, off + (k - 1) * 2 + 1, none⟩) hg2).trans (hd 1 (by decide))
        have hc0 := (HS.out.cell (a := ⟨g, off + k * 2 + 0, none⟩) hg2).trans (hc 0 (by decide))
        have hc1 := (HS.out.cell (a := ⟨g, off + k * 2 + 1, none⟩) hg2).trans (hc 1 (by decide))
        simp only [PointR.cells, List.getD_cons_zero, List.getD_cons_succ, Nat.add_zero] at hd0 hd1 hc0 hc1
        clear hc hd
        have hq : (k : Int) - 1 = ((k - 1 : Nat) : Int) := by omega
        have hq3 : k - 1 < n := by omega
        have hg3 : g < wr.heap.size := Nat.lt_of_lt_of_le hg2 HS.out.size
        have ha := lane_in x n HL.out (k - 1) (by omega)
        have hb := lane_in x n HL.out k hlt
        have hab := lane_lt x n HL.out (k - 1) k (by omega) hlt
        obtain ⟨ha1, ha2⟩ := ha
        obtain ⟨hb1, hb2⟩ := hb
        by_cases hlp : p < (x k).a
        · by_cases hep : p = (x (k - 1)).a
          · have hr : Hid (Fv .f32 (x (k - 1)).v (laneO x n p)) := Lib.hid ⟨HX.out (k - 1) (by omega), (laneO_at x n p (k - 1) (by omega) (fun j hj => by have := lane_lt x n HL.out j (k - 1) (by omega) (by omega); omega) hep.symm).symm⟩
            subst hep
            clear HZ ha1 ha2 hb1 hb2 hf
            go_wp2
            go_ret
            exact ⟨_, rfl, hr, by have hs0 := HS.out; have hz0 := hs0.size; (repeat (first | (with_reducible refine Fl.sinDrew ?_) | (with_reducible refine World.Since.drew ?_) | (with_reducible refine Fl.sinSet ?_ ?_; rotate_left) | (with_reducible refine Fl.sinAlloc ?_ ?_; rotate_left) | with_reducible exact World.Since.refl _ _ | with_reducible assumption | (with_reducible refine Fl.sinStep (by with_reducible assumption) ?_))); all_goals (first | omega | (simp; done) | (simp; omega) | (simp [go_sem]; done) | (simp [go_sem]; omega))⟩
          · have hr := laneO_mid x n p k (by omega) hlt (fun j hj => by
              by_cases e : j = k - 1
              · subst e; have := HZ.out; omega
              · have := lane_lt x n HL.out j (k - 1) (by omega) (by omega); have := HZ.out; omega) hlp
            have HRR := Lib.hid hr; clear hr
            have f1 : Hid (Fv .f32 (x (k - 1)).v (pv x (k - 1))) := Lib.hid ⟨HX.out (k - 1) (by omega), rfl⟩
            have f2 : Hid (Fv .f32 (x k).v (pv x k)) := Lib.hid ⟨HX.out k hlt, rfl⟩
            have f3 := fI_fv (p - (x (k - 1)).a)
            have f4 := fI_fv ((x k).a - (x (k - 1)).a)
            have hz1 := HZ.out
            have hep2 : decide (p = (x (k - 1)).a) = false := decide_eq_false hep
            go_wp2_with (with_reducible_and_instances refine Lo.wpList_fo _ rfl _ _ _ _ _ rfl _ _ _ _ _ rfl rfl rfl (by assumption) (by assumption) ?_; intro rr nn hrr)
            go_ret
            exact ⟨_, rfl, by rw [HRR.out]; exact hrr, by have hs0 := HS.out; have hz0 := hs0.size; (repeat (first | (with_reducible refine Fl.sinDrew ?_) | (with_reducible refine World.Since.drew ?_) | (with_reducible refine Fl.sinSet ?_ ?_; rotate_left) | (with_reducible refine Fl.sinAlloc ?_ ?_; rotate_left) | with_reducible exact World.Since.refl _ _ | with_reducible assumption | (with_reducible refine Fl.sinStep (by with_reducible assumption) ?_))); all_goals (first | omega | (simp; done) | (simp; omega) | (simp [go_sem]; done) | (simp [go_sem]; omega))⟩
        · have hlp2 : (x k).a ≤ p := by omega
          have HLP := Lib.hid hlp2
          clear HZ
          go_wp2
          go_roundw
          case rel => exact ⟨k + 1, by omega, by omega, by go_num, by rw [Nat.add_sub_cancel]; exact HLP.out, by have hs0 := HS.out; have hz0 := hs0.size; (repeat (first | (with_reducible refine Fl.sinDrew ?_) | (with_reducible refine World.Since.drew ?_) | (with_reducible refine Fl.sinSet ?_ ?_; rotate_left) | (with_reducible refine Fl.sinAlloc ?_ ?_; rotate_left) | with_reducible exact World.Since.refl _ _ | with_reducible assumption | (with_reducible refine Fl.sinStep (by with_reducible assumption) ?_))); all_goals (first | omega | (simp; done) | (simp; omega) | (simp [go_sem]; done) | (simp [go_sem]; omega))⟩
          case measure => simp [intOf]; omega
      · obtain rfl : k = n := by omega
        obtain ⟨_, _, e1, _, hd⟩ := HA.out.at_ (show k - 1 < k by omega)
        injection e1 with e1; injection e1 with e1 e2 _; subst e1; subst e2
        have hd1 := (HS.out.cell (a := ⟨g, off + (k - 1) * 2 + 1, none⟩) hg2).trans (hd 1 (by decide))
        simp only [PointR.cells, List.getD_cons_zero, List.getD_cons_succ, Nat.add_zero] at hd1
        clear hd
        have hr : Hid (Fv .f32 (x (k - 1)).v (laneO x k p)) := Lib.hid ⟨HX.out (k - 1) (by omega), (laneO_back x k HL.out p (by omega) HZ.out).symm⟩
        have hq : (k : Int) - 1 = ((k - 1 : Nat) : Int) := by omega
        have hq2 : decide (((k - 1 : Nat) : Int) < (k : Int)) = true := decide_eq_true (by omega)
        have hq3 : k - 1 < k := by omega
        go_wp2
        go_ret
        exact ⟨_, rfl, hr, HS.out⟩
end Go.Proofs.Ytmdnalkfndoicaa

/- Values of lanes: of the program. -/
set_option linter.unusedVariables false
set_option linter.unusedSimpArgs false
namespace Go.Proofs.Ytmdnalkfndoicaa
open Fl Go.RowKit
theorem cmpNaL_any (a : Int) (w : World) : Calls Try.prog 110 #[.int .i64 a] w fun e w' => e = .returned (.bool false) ∧ w = w' := by
  go_enter Try.func110, Try.ntmps110
  go_wp2
  go_ret
  exact ⟨by simp, rfl⟩
def cmpZ (a b : Int) : Int := if a < b then -1 else if b < a then 1 else 0
theorem cmpL_any (a b : Int) (w : World) : Calls Try.prog 99 #[.int .i64 a, .int .i64 b] w fun e w' => e = .returned (.int .i64 (cmpZ a b)) ∧ w = w' := by
  unfold cmpZ
  cases h1 : decide (a < b)
  · have g1 := of_decide_eq_false h1
    rw [if_neg g1]
    cases h2 : decide (b < a)
    · rw [if_neg (of_decide_eq_false h2)]
      go_enter Try.func99, Try.ntmps99
      go_wp2_with (go_at_call 110; refine (cmpNaL_any _ _).mono ?_; rintro e w1 ⟨rfl, rfl⟩)
      go_ret
      exact ⟨rfl, rfl⟩
    · rw [if_pos (of_decide_eq_true h2)]
      go_enter Try.func99, Try.ntmps99
      go_wp2_with (go_at_call 110; refine (cmpNaL_any _ _).mono ?_; rintro e w1 ⟨rfl, rfl⟩)
      go_ret
      exact ⟨rfl, rfl⟩
  · rw [if_pos (of_decide_eq_true h1)]
    go_enter Try.func99, Try.ntmps99
    go_wp2_with (go_at_call 110; refine (cmpNaL_any _ _).mono ?_; rintro e w1 ⟨rfl, rfl⟩)
    go_ret
    exact ⟨rfl, rfl⟩
theorem byPlace_any (a : Int) (v : Nat) (p z : Int) (w : World) (hz : cmpZ a p = z) : Calls Try.prog 98 #[.agg #[.int .i64 a, .float .f32 v], .int .i64 p] w fun e w' => e = .returned (.int .i64 z) ∧ w.Since w.heap.size w' := by
  have HC := Lib.hid (fun W => cmpL_any a p W)
  rw [hz] at HC
  go_enter Try.func98, Try.ntmps98
  go_wp2_with (go_at_call 99; refine (HC.out _).mono ?_; rintro e w1 ⟨rfl, rfl⟩)
  go_ret
  exact ⟨rfl, by (repeat (first | (with_reducible refine Fl.sinDrew ?_) | (with_reducible refine World.Since.drew ?_) | (with_reducible refine Fl.sinSet ?_ ?_; rotate_left) | (with_reducible refine Fl.sinAlloc ?_ ?_; rotate_left) | with_reducible exact World.Since.refl _ _ | with_reducible assumption | (with_reducible refine Fl.sinStep (by with_reducible assumption) ?_))); all_goals (first | omega | (simp; done) | (simp; omega) | (simp [go_sem]; done) | (simp [go_sem]; omega))⟩
set_option maxHeartbeats 8000000 in
set_option maxRecDepth 100000 in
theorem search_any (A : Option Addr) (n c : Nat) (x : Nat → PointR) (p : Int) (i : Nat) (b : Bool) (w : World) (B : Nat) (h : Rs PointR.cells 2 w B A n x) (hB : B ≤ w.heap.size) (hl : lanesOk x n) (h1 : 1 ≤ n) (h2 : n ≤ 12) (hin : i ≤ n) (hi : ∀ k, k < i → (x k).a < p) (hi2 : i < n → p ≤ (x i).a) (hb : b = (decide (i < n) && decide ((x i).a = p))) :
    Calls Try.prog 97 #[.slice A n c, .int .i64 p, .func (.func 98) #[] #[]] w fun e w' => e = .returned (.tuple #[.int .i64 i, .bool b]) ∧ w.Since w.heap.size w' := by
  have HA := Lib.hid h; have HL := Lib.hid hl; have HI := Lib.hid hi; have HI2 := Lib.hid hi2
  clear h hl hi hi2
  obtain ⟨g, off, rfl, hg, hc⟩ := HA.out.at_ (show 0 < n by omega)
  have hg2 : g < w.heap.size := by omega
  clear hc
  go_enter Try.func97, Try.ntmps97
  go_wp2
  go_loopw [9, 10] (fun iv jv wr => ∃ q j : Nat, q ≤ i ∧ i ≤ j ∧ j ≤ n ∧ iv = .int .i64 q ∧ jv = .int .i64 j ∧ w.Since w.heap.size wr) (fun iv jv _ => (intOf jv).toNat - (intOf iv).toNat)
  case atStart => exact ⟨0, n, by omega, hin, by omega, rfl, rfl, World.Since.refl _ _⟩
  case round =>
    obtain ⟨q, j, hq, hj, hjn, rfl, rfl, hs⟩ := hrel
    have HS := Lib.hid hs
    clear hs
    by_cases hlt : q < j
    · obtain ⟨_, _, e1, _, hc⟩ := HA.out.at_ (show (q + j) / 2 < n by omega)
      injection e1 with e1; injection e1 with e1 e2 _; subst e1; subst e2
      have hc0 := (HS.out.cell (a := ⟨g, off + (q + j) / 2 * 2 + 0, none⟩) hg2).trans (hc 0 (by decide))
      have hc1 := (HS.out.cell (a := ⟨g, off + (q + j) / 2 * 2 + 1, none⟩) hg2).trans (hc 1 (by decide))
      simp only [PointR.cells, List.getD_cons_zero, List.getD_cons_succ, Nat.add_zero] at hc0 hc1
      clear hc
      have hm1 : q ≤ (q + j) / 2 := by omega
      have hm2 : (q + j) / 2 < j := by omega
      have hm3 : (q + j) / 2 < n := by omega
      have HMI : Hid (((q : Int) + j) / 2 = (((q + j) / 2 : Nat) : Int)) := Lib.hid (by omega)
      have HM : Hid (((q + j) / 2 < i ↔ (x ((q + j) / 2)).a < p)) := Lib.hid (by
        constructor
        · exact fun h => HI.out _ h
        · intro h
          rcases Nat.lt_or_ge ((q + j) / 2) i with h8 | h8
          · exact h8
          · have h9 := HI2.out (by omega)
            rcases Nat.lt_or_ge i ((q + j) / 2) with h7 | h7
            · have := lane_lt x n HL.out i _ h7 hm3; omega
            · have e : (q + j) / 2 = i := by omega
              rw [e] at h; omega)
      cases hd : decide ((x ((q + j) / 2)).a < p)
      · have hz : cmpZ (x ((q + j) / 2)).a p = if p < (x ((q + j) / 2)).a then 1 else 0 := by unfold cmpZ; rw [if_neg (of_decide_eq_false hd)]
        have HQ := Lib.hid (fun W => byPlace_any (x ((q + j) / 2)).a (x ((q + j) / 2)).v p _ W rfl)
        have hz2 : decide (cmpZ (x ((q + j) / 2)).a p < 0) = false := decide_eq_false (by rw [hz]; split <;> omega)
        have HN : Hid (¬ (q + j) / 2 < i) := Lib.hid (fun h => of_decide_eq_false hd (HM.out.1 h))
        clear hz hd
        generalize cmpZ (x ((q + j) / 2)).a p = z at HQ hz2
        go_wp2_with fail
        refine (HQ.out _).mono ?_
        rintro e w2 ⟨rfl, hs2⟩
        have HS2 := Lib.hid (since_step HS.out hs2); clear hs2
        go_wp2
        go_roundw
        case rel => exact ⟨q, (q + j) / 2, hq, by have := HN.out; omega, by omega, rfl, by rw [HMI.out], HS2.out⟩
        case measure => simp [intOf]; omega
      · have hz : cmpZ (x ((q + j) / 2)).a p = -1 := by unfold cmpZ; rw [if_pos (of_decide_eq_true hd)]
        have HQ := Lib.hid (fun W => byPlace_any (x ((q + j) / 2)).a (x ((q + j) / 2)).v p _ W hz)
        have HY := Lib.hid (HM.out.2 (of_decide_eq_true hd))
        clear hz hd
        go_wp2_with fail
        refine (HQ.out _).mono ?_
        rintro e w2 ⟨rfl, hs2⟩
        have HS2 := Lib.hid (since_step HS.out hs2); clear hs2
        go_wp2
        go_roundw
        case rel => exact ⟨(q + j) / 2 + 1, j, by have := HY.out; omega, hj, hjn, by rw [HMI.out]; rfl, rfl, HS2.out⟩
        case measure => simp [intOf]; omega
    · obtain rfl : q = i := by omega
      obtain rfl : j = q := by omega
      by_cases hjn2 : j < n
      · obtain ⟨_, _, e1, _, hc⟩ := HA.out.at_ hjn2
        injection e1 with e1; injection e1 with e1 e2 _; subst e1; subst e2
        have hc0 := (HS.out.cell (a := ⟨g, off + j * 2 + 0, none⟩) hg2).trans (hc 0 (by decide))
        have hc1 := (HS.out.cell (a := ⟨g, off + j * 2 + 1, none⟩) hg2).trans (hc 1 (by decide))
        simp only [PointR.cells, List.getD_cons_zero, List.getD_cons_succ, Nat.add_zero] at hc0 hc1
        clear hc
        have HQ := Lib.hid (fun W => byPlace_any (x j).a (x j).v p _ W rfl)
        have hle := HI2.out hjn2
        have hb2 : b = (cmpZ (x j).a p == 0) := by
          rw [hb, decide_eq_true hjn2, Bool.true_and]
          unfold cmpZ
          by_cases e : (x j).a = p
          · rw [e, if_neg (by omega), if_neg (by omega)]; simp
          · rw [if_neg (by omega), if_pos (by omega), decide_eq_false e]; rfl
        clear hb hle
        generalize cmpZ (x j).a p = z at HQ hb2
        subst hb2
        go_wp2_with fail
        refine (HQ.out _).mono ?_
        rintro e w2 ⟨rfl, hs2⟩
        have HS2 := Lib.hid (since_step HS.out hs2); clear hs2
        go_wp2
        go_ret2
        exact ⟨rfl, HS2.out⟩
      · obtain rfl : j = n := by omega
        have hb2 : b = false := by rw [hb, decide_eq_false (by omega)]; rfl
        subst hb2
        clear hb
        go_wp2
        go_ret2
        exact ⟨rfl, HS.out⟩
end Go.Proofs.Ytmdnalkfndoicaa

/- Values of lanes: of the program; the law of LaneAt. -/
set_option linter.unusedVariables false
set_option linter.unusedSimpArgs false
namespace Go.Proofs.Ytmdnalkfndoicaa
open Fl Go.RowKit
set_option maxHeartbeats 4000000 in
set_option maxRecDepth 100000 in
theorem stretch_any (a b p : Int) (u v : Nat) (U V : O) (w : World) (hu : Hid (Fv .f32 u U)) (hv : Hid (Fv .f32 v V)) (ha : 0 ≤ a) (ha2 : a ≤ 100000) (hb : 0 ≤ b) (hb2 : b ≤ 100000) (hp : 0 ≤ p) (hp2 : p ≤ 200000) :
    Calls Try.prog 100 #[.agg #[.int .i64 a, .float .f32 u, .int .i64 b, .float .f32 v], .int .i64 p] w fun e w' => ∃ r, e = .returned (.float .f32 r) ∧ Hid (Fv .f32 r (ad U (mu (su V U) (qu (some (fI (p - a))) (some (fI (b - a))))))) ∧ w.Since w.heap.size w' := by
  go_enter Try.func100, Try.ntmps100
  go_wp2_with fail
  refine Lo.wp_loose_all [14, 27, 28, 29, 4] (by kernel_rfl) (by kernel_rfl) ?_
  repeat (first
    | (refine Lo.wpL_callF rfl 111 [.tmp 19, .tmp 26] [.int .i64 (p - a), .int .i64 (b - a)] _ rfl (by decide) (callsEnter 111 Try.f111 _ (by kernel_rfl) (by kernel_rfl) rfl) .f32 (qu (some (fI (p - a))) (some (fI (b - a)))) (Lo.keeps [19, 26] _ rfl (by decide)) (share_hc (p - a) (b - a) _) (qu_ex (p - a) (b - a)) ?_; intro rr hrr; simp only [Act.put, List.setIfInBounds_toArray, List.set_cons_succ, List.set_cons_zero])
    | (refine Lo.wpL_move rfl _ (.inl rfl) (by decide) ?_; simp only [Act.put, List.setIfInBounds_toArray, List.set_cons_succ, List.set_cons_zero])
    | (refine Lo.wpL_move rfl _ (.inr rfl) (by decide) ?_; simp only [Act.put, List.setIfInBounds_toArray, List.set_cons_succ, List.set_cons_zero])
    | (refine Lo.wpL_fop rfl _ _ _ _ rfl rfl (by decide) _ _ _ _ _ rfl rfl (by assumption) (by assumption) ?_; intro rr hrr; simp only [Act.put, List.setIfInBounds_toArray, List.set_cons_succ, List.set_cons_zero])
    | (refine Lo.wpL_wide rfl _ _ _ rfl (by decide) _ _ rfl (by kernel_rfl) (by kernel_rfl) (by assumption) ?_; intro rr hrr; simp only [Act.put, List.setIfInBounds_toArray, List.set_cons_succ, List.set_cons_zero])
    | (refine Lo.wpL_quiet rfl (by decide) (fun K hK => ?_); go_big_quiet_op; (refine hK _ ?_; clear hK K)))
  refine Lo.wpL_nil ?_
  refine Lo.after_fl rfl (by assumption) ?_; intro q14 h14; simp only [Act.put, List.setIfInBounds_toArray, List.set_cons_succ, List.set_cons_zero]
  refine Lo.after_fl rfl (by assumption) ?_; intro q27 h27; simp only [Act.put, List.setIfInBounds_toArray, List.set_cons_succ, List.set_cons_zero]
  refine Lo.after_fl rfl (by assumption) ?_; intro q28 h28; simp only [Act.put, List.setIfInBounds_toArray, List.set_cons_succ, List.set_cons_zero]
  refine Lo.after_fl rfl (by assumption) ?_; intro q29 h29; simp only [Act.put, List.setIfInBounds_toArray, List.set_cons_succ, List.set_cons_zero]
  refine Lo.after_fl rfl (by assumption) ?_; intro q4 h4; simp only [Act.put, List.setIfInBounds_toArray, List.set_cons_succ, List.set_cons_zero]
  refine Lo.after_nil ?_; intro nq
  go_wp2
  go_ret
  exact ⟨_, rfl, h4, by (repeat (first | (with_reducible refine Fl.sinDrew ?_) | (with_reducible refine World.Since.drew ?_) | (with_reducible refine Fl.sinSet ?_ ?_; rotate_left) | (with_reducible refine Fl.sinAlloc ?_ ?_; rotate_left) | with_reducible exact World.Since.refl _ _ | with_reducible assumption | (with_reducible refine Fl.sinStep (by with_reducible assumption) ?_))); all_goals (first | omega | (simp; done) | (simp; omega) | (simp [go_sem]; done) | (simp [go_sem]; omega))⟩
theorem mid_ex (a b p : Int) (u v : Nat) (U V : O) (hu : Hid (Fv .f32 u U)) (hv : Hid (Fv .f32 v V)) : ∃ r, Fv .f32 r (ad U (mu (su V U) (qu (some (fI (p - a))) (some (fI (b - a)))))) := by
  obtain ⟨r1, h1⟩ := Lo.fv_ex (op := .sub) rfl .f32 _ _ _ _ hv.out hu.out
  obtain ⟨r2, h2⟩ := qu_ex (p - a) (b - a)
  obtain ⟨r3, h3⟩ := Lo.fv_ex (op := .mul) rfl .f32 _ _ _ _ h1 h2
  exact Lo.fv_ex (op := .add) rfl .f32 _ _ _ _ hu.out h3
theorem stretch_hc (W : World) (a b p : Int) (u v : Nat) (U V : O) (hu : Hid (Fv .f32 u U)) (hv : Hid (Fv .f32 v V)) (ha : 0 ≤ a) (ha2 : a ≤ 100000) (hb : 0 ≤ b) (hb2 : b ≤ 100000) (hp : 0 ≤ p) (hp2 : p ≤ 200000) :
    ∀ us, Lo.VRs [.agg #[.int .i64 a, .float .f32 u, .int .i64 b, .float .f32 v], .int .i64 p] us → ∀ v', (∃ hs d, v' = Lo.mkW W hs d) → Calls Try.prog 100 us.toArray v' fun e v2 => ∃ r, e = .returned (.float .f32 r) ∧ Fv .f32 r (ad U (mu (su V U) (qu (some (fI (p - a))) (some (fI (b - a)))))) ∧ ∃ hs d, v2 = Lo.mkW W hs d := by
  rintro us ⟨u1, us1, rfl, h1, u2, us2, rfl, h2, h3⟩ v' hv'
  have h3' : us2 = [] := h3
  subst h3'
  obtain rfl := Lo.VR_agg h1
  obtain rfl := Lo.VR_int h2
  exact (stretch_any a b p u v U V v' hu hv ha ha2 hb hb2 hp hp2).mono fun e v2 ⟨r, h1, h2, h3⟩ => ⟨r, h1, h2.out, Lo.mkW_mkW hv' h3⟩
set_option maxHeartbeats 4000000 in
set_option maxRecDepth 100000 in
theorem implAt_any (A : Option Addr) (n c : Nat) (x : Nat → PointR) (p : Int) (w : World) (B : Nat) (h : Rs PointR.cells 2 w B A n x) (hB : B ≤ w.heap.size) (hx : ∀ k, k < n → (x k).ok) (hl : lanesOk x n) (h1 : 1 ≤ n) (h2 : n ≤ 12) (hp : 0 ≤ p) (hp2 : p ≤ 200000) :
    Calls Try.prog 62 #[.slice A n c, .int .i64 p] w fun e w' => ∃ r, e = .returned (.float .f32 r) ∧ Hid (Fv .f32 r (laneO x n p)) ∧ w.Since w.heap.size w' := by
  obtain ⟨i, hin, hi, hi2⟩ : ∃ i, i ≤ n ∧ (∀ k, k < i → (x k).a < p) ∧ (i < n → p ≤ (x i).a) := by
    have : ∀ m, m ≤ n → ∃ i, i ≤ m ∧ (∀ k, k < i → (x k).a < p) ∧ (i < m → p ≤ (x i).a) := by
      intro m
      induction m with
      | zero => intro _; exact ⟨0, by omega, fun k hk => by omega, fun h => by omega⟩
      | succ m ih =>
        intro hm
        obtain ⟨i, h1, h2, h3⟩ := ih (by omega)
        by_cases e : i < m
        · exact ⟨i, by omega, h2, fun _ => h3 e⟩
        · obtain rfl : i = m := by omega
          by_cases e2 : (x i).a < p
          · exact ⟨i + 1, by omega, fun k hk => by
              by_cases e3 : k = i
              · subst e3; exact e2
              · exact h2 k (by omega), fun h => by omega⟩
          · exact ⟨i, by omega, h2, fun _ => by omega⟩
    exact this n (Nat.le_refl _)
  have HA := Lib.hid h; have HX := Lib.hid hx; have HL := Lib.hid hl; have HI := Lib.hid hi; have HI2 := Lib.hid hi2
  have HQ := Lib.hid (search_any A n c x p i _ w B h hB hl h1 h2 hin hi hi2 rfl)
  have HV := Lib.hid (fun (k : Nat) (hk : k < n) => (Lib.hid ⟨hx k hk, rfl⟩ : Hid (Fv .f32 (x k).v (pv x k))))
  have HN := Lib.hid (fun (k : Nat) (hk : k < n) => lane_in x n hl k hk)
  clear h hx hl hi hi2
  obtain ⟨g, off, rfl, hg, hc⟩ := HA.out.at_ (show 0 < n by omega)
  have hg2 : g < w.heap.size := by omega
  clear hc
  cases hf : (decide (i < n) && decide ((x i).a = p))
  · rw [hf] at HQ
    by_cases hi0 : i = 0
    · subst hi0
      have hr := laneO_first x n p (by omega) (HI2.out (by omega))
      have HR := Lib.hid hr; clear hr
      go_enter Try.func62, Try.ntmps62
      go_wp2_with fail
      go_at_call 97
      refine HQ.out.mono ?_
      rintro e w2 ⟨rfl, hs2⟩
      have HS2 := Lib.hid hs2; clear hs2
      obtain ⟨_, _, e1, _, hc⟩ := HA.out.at_ (show 0 < n by omega)
      injection e1 with e1; injection e1 with e1 e2 _; subst e1; subst e2
      have hc1 := (HS2.out.cell (a := ⟨g, off + 0 * 2 + 1, none⟩) hg2).trans (hc 1 (by decide))
      simp only [PointR.cells, List.getD_cons_zero, List.getD_cons_succ, Nat.add_zero, Nat.zero_mul] at hc1
      have hn0 : 0 < n := by omega
      have hnI : (0 : Int) < (n : Int) := by omega
      go_wp2
      go_ret
      exact ⟨_, rfl, by rw [HR.out]; exact HV.out 0 hn0, HS2.out⟩
    · by_cases hin2 : i = n
      · subst hin2
        have hr := laneO_last x i p (by omega) HI.out
        have HR := Lib.hid hr; clear hr
        have hiI : decide ((i : Int) = 0) = false := decide_eq_false (by omega)
        go_enter Try.func62, Try.ntmps62
        go_wp2_with fail
        go_at_call 97
        refine HQ.out.mono ?_
        rintro e w2 ⟨rfl, hs2⟩
        have HS2 := Lib.hid hs2; clear hs2
        obtain ⟨_, _, e1, _, hc⟩ := HA.out.at_ (show i - 1 < i by omega)
        injection e1 with e1; injection e1 with e1 e2 _; subst e1; subst e2
        have hc1 := (HS2.out.cell (a := ⟨g, off + (i - 1) * 2 + 1, none⟩) hg2).trans (hc 1 (by decide))
        simp only [PointR.cells, List.getD_cons_zero, List.getD_cons_succ, Nat.add_zero] at hc1
        have hq : (i : Int) - 1 = ((i - 1 : Nat) : Int) := by omega
        have hq3 : i - 1 < i := by omega
        go_wp2
        go_ret
        exact ⟨_, rfl, by rw [HR.out]; exact HV.out (i - 1) hq3, HS2.out⟩
      · have hpi : p < (x i).a := by
          have h8 := HI2.out (by omega)
          rw [decide_eq_true (show i < n by omega), Bool.true_and] at hf
          have := of_decide_eq_false hf
          omega
        have hr := laneO_mid x n p i (by omega) (by omega) HI.out hpi
        have HR := Lib.hid hr; clear hr
        have hiI : decide ((i : Int) = 0) = false := decide_eq_false (by omega)
        have hiN : decide ((i : Int) = (n : Int)) = false := decide_eq_false (by omega)
        go_enter Try.func62, Try.ntmps62
        go_wp2_with fail
        go_at_call 97
        refine HQ.out.mono ?_
        rintro e w2 ⟨rfl, hs2⟩
        have HS2 := Lib.hid hs2; clear hs2
        obtain ⟨_, _, e1, _, hc⟩ := HA.out.at_ (show i < n by omega)
        injection e1 with e1; injection e1 with e1 e2 _; subst e1; subst e2
        obtain ⟨_, _, e1, _, hd⟩ := HA.out.at_ (show i - 1 < n by omega)
        injection e1 with e1; injection e1 with e1 e2 _; subst e1; subst e2
        have hc0 := (HS2.out.cell (a := ⟨g, off + i * 2 + 0, none⟩) hg2).trans (hc 0 (by decide))
        have hc1 := (HS2.out.cell (a := ⟨g, off + i * 2 + 1, none⟩) hg2).trans (hc 1 (by decide))
        have hd0 := (HS2.out.cell (a := ⟨g, off + (i - 1) * 2 + 0, none⟩) hg2).trans (hd 0 (by decide))
        have hd1 := (HS2.out.cell (a := ⟨g, off + (i - 1) * 2 + 1, none⟩) hg2).trans (hd 1 (by decide))
        simp only [PointR.cells, List.getD_cons_zero, List.getD_cons_succ, Nat.add_zero] at hc0 hc1 hd0 hd1
        clear hc hd
        have hq : (i : Int) - 1 = ((i - 1 : Nat) : Int) := by omega
        have hq3 : i - 1 < n := by omega
        have hq4 : i < n := by omega
        have hg3 : g < w2.heap.size := Nat.lt_of_lt_of_le hg2 HS2.out.size
        obtain ⟨ha1, ha2⟩ := HN.out (i - 1) hq3
        obtain ⟨hb1, hb2⟩ := HN.out i hq4
        have hf1 := HV.out (i - 1) hq3
        have hf2 := HV.out i hq4
        have R1 : Hid (w2.rangeAt g (off + (i - 1) * 2) [.int .i64 (x (i - 1)).a, .float .f32 (x (i - 1)).v]) := Lib.hid (fun j v hj => match j, hj with | 0, hj => (by cases hj; exact hd0) | 1, hj => (by cases hj; exact hd1))
        have R2 : Hid (w2.rangeAt g (off + i * 2) [.int .i64 (x i).a, .float .f32 (x i).v]) := Lib.hid (fun j v hj => match j, hj with | 0, hj => (by cases hj; exact hc0) | 1, hj => (by cases hj; exact hc1))
        have HST := Lib.hid (stretch_hc w2 (x (i - 1)).a (x i).a p (x (i - 1)).v (x i).v _ _ hf1 hf2 ha1 ha2 hb1 hb2 hp hp2)
        have HEX := Lib.hid (mid_ex (x (i - 1)).a (x i).a p (x (i - 1)).v (x i).v _ _ hf1 hf2)
        unfold midO at HR
        clear hc0 hc1 hd0 hd1
        go_wp2_with fail
        refine Lo.wp_looseG_all [46, 4] (by kernel_rfl) (by kernel_rfl) ?_
        repeat (first
          | (refine Lo.wpL_loadRow rfl 69 _ rfl (by decide) g (off + (i - 1) * 2) rfl [.int .i64 (x (i - 1)).a, .float .f32 (x (i - 1)).v] _ Try.underlying69 rfl (by kernel_rfl) (fun v ⟨hs, dd, hv⟩ => hv ▸ Lo.range_since R1.out (Lo.mkW_since _ hs dd) hg3) ?_; simp only [Act.put, List.setIfInBounds_toArray, List.set_cons_succ, List.set_cons_zero])
          | (refine Lo.wpL_loadRow rfl 69 _ rfl (by decide) g (off + i * 2) rfl [.int .i64 (x i).a, .float .f32 (x i).v] _ Try.underlying69 rfl (by kernel_rfl) (fun v ⟨hs, dd, hv⟩ => hv ▸ Lo.range_since R2.out (Lo.mkW_since _ hs dd) hg3) ?_; simp only [Act.put, List.setIfInBounds_toArray, List.set_cons_succ, List.set_cons_zero])
          | (refine Lo.wpG_callV rfl 100 [.tmp 44, .tmp 45] [.agg #[.int .i64 (x (i - 1)).a, .float .f32 (x (i - 1)).v, .int .i64 (x i).a, .float .f32 (x i).v], .int .i64 p] _ rfl (by decide) (callsEnter 100 Try.f100 _ (by kernel_rfl) (by kernel_rfl) rfl) .f32 _ rfl HST.out HEX.out ?_; intro rr hrr; simp only [Act.put, List.setIfInBounds_toArray, List.set_cons_succ, List.set_cons_zero])
          | (refine Lo.wpL_move rfl _ (.inl rfl) (by decide) ?_; simp only [Act.put, List.setIfInBounds_toArray, List.set_cons_succ, List.set_cons_zero])
          | (refine Lo.wpL_move rfl _ (.inr rfl) (by decide) ?_; simp only [Act.put, List.setIfInBounds_toArray, List.set_cons_succ, List.set_cons_zero])
          | (refine Lo.wpG_fop (fun _ m h => Lo.drewG m h) rfl _ _ _ _ rfl rfl (by decide) _ _ _ _ _ rfl rfl (by assumption) (by assumption) ?_; intro rr hrr; simp only [Act.put, List.setIfInBounds_toArray, List.set_cons_succ, List.set_cons_zero])
          | (refine Lo.wpL_quiet rfl (by decide) (fun K hK => ?_); go_big_quiet_op; first | (refine hK _ ?_; clear hK K) | (refine ⟨_, fun _ _ _ _ => rfl, hK _ ?_⟩; clear hK K)))
        refine Lo.wpL_nil ?_; intro hsG dG
        refine Lo.after_fl rfl (by assumption) ?_; intro q46 h46; simp only [Act.put, List.setIfInBounds_toArray, List.set_cons_succ, List.set_cons_zero]
        refine Lo.after_fl rfl (by assumption) ?_; intro q4 h4; simp only [Act.put, List.setIfInBounds_toArray, List.set_cons_succ, List.set_cons_zero]
        refine Lo.after_nil ?_; intro nq
        generalize hwG : Lo.mkW _ hsG dG = wG
        replace hwG := Lo.sinceG hwG
        clear hsG dG
        go_wp2
        go_ret
        exact ⟨_, rfl, by rw [HR.out]; exact h4, since_step HS2.out hwG⟩
  · rw [hf] at HQ
    rw [Bool.and_eq_true] at hf
    have hin2 := of_decide_eq_true hf.1
    have hip := of_decide_eq_true hf.2
    have hr := laneO_at x n p i hin2 HI.out hip
    have HR := Lib.hid hr; clear hr
    clear hf hip
    go_enter Try.func62, Try.ntmps62
    go_wp2_with fail
    go_at_call 97
    refine HQ.out.mono ?_
    rintro e w2 ⟨rfl, hs2⟩
    have HS2 := Lib.hid hs2; clear hs2
    obtain ⟨_, _, e1, _, hc⟩ := HA.out.at_ hin2
    injection e1 with e1; injection e1 with e1 e2 _; subst e1; subst e2
    have hc1 := (HS2.out.cell (a := ⟨g, off + i * 2 + 1, none⟩) hg2).trans (hc 1 (by decide))
    simp only [PointR.cells, List.getD_cons_zero, List.getD_cons_succ, Nat.add_zero] at hc1
    go_wp2
    go_ret
    exact ⟨_, rfl, by rw [HR.out]; exact HV.out i hin2, HS2.out⟩
end Go.Proofs.Ytmdnalkfndoicaa

/- Runs of lanes: of the model. -/
set_option linter.unusedVariables false
set_option linter.unusedSimpArgs false
namespace Go.Proofs.Ytmdnalkfndoicaa
open Fl Go.RowKit
/-- so many places from a place on are those of lanes -/
def okRange (f c : Int) : Bool := inB f 0 100000 && inB c 0 256 && decide (f + c ≤ 100001)
theorem okRange_ge (f c : Int) (h : okRange f c = true) : 0 ≤ f ∧ f ≤ 100000 ∧ 0 ≤ c ∧ c ≤ 256 ∧ f + c ≤ 100001 := by
  simp only [okRange, inB, Bool.and_eq_true, decide_eq_true_eq] at h
  omega
set_option maxHeartbeats 2000000 in
theorem specRange_b (f c : Int) (b : Bool) (w : World) (h : okRange f c = b) : Calls Try.prog 63 #[.int .i64 f, .int .i64 c] w fun e w' => e = .returned (.bool b) ∧ w = w' := by
  subst h
  unfold okRange
  cases h1 : inB f 0 100000 <;> cases h2 : inB c 0 256
  case true.true =>
    have h3 : 0 ≤ f ∧ f ≤ 100000 := by simpa [inB] using h1
    have h4 : 0 ≤ c ∧ c ≤ 256 := by simpa [inB] using h2
    obtain ⟨h3, h5⟩ := h3
    obtain ⟨h4, h6⟩ := h4
    go_enter Try.func63, Try.ntmps63
    go_wp2_with (first | (go_at_call 59; with_reducible refine (specHold_b f 0 100000 _ _ h1).mono ?_; rintro e w1 ⟨rfl, rfl⟩) | (go_at_call 59; with_reducible refine (specHold_b c 0 256 _ _ h2).mono ?_; rintro e w1 ⟨rfl, rfl⟩))
    go_ret
    exact ⟨ret_bool (by simp), rfl⟩
  all_goals
    go_enter Try.func63, Try.ntmps63
    go_wp2_with (first | (go_at_call 59; with_reducible refine (specHold_b f 0 100000 _ _ h1).mono ?_; rintro e w1 ⟨rfl, rfl⟩) | (go_at_call 59; with_reducible refine (specHold_b c 0 256 _ _ h2).mono ?_; rintro e w1 ⟨rfl, rfl⟩))
    go_ret
    exact ⟨ret_bool (by simp), rfl⟩
set_option maxHeartbeats 4000000 in
set_option maxRecDepth 100000 in
theorem specRunLane_ok (A : Option Addr) (n cc : Nat) (x : Nat → PointR) (f c : Nat) (w : World) (h : Rs PointR.cells 2 w w.heap.size A n x) (hx : ∀ k, k < n → (x k).ok) (hl : laneOk x n) (hr : okRange f c = true) :
    Calls Try.prog 23 #[.slice A n cc, .int .i64 f, .int .i64 c] w (PEB c (fun k => laneO x n ((f + k : Nat) : Int)) true w) := by
  have HA := Lib.hid h; have HX := Lib.hid hx; have HL := Lib.hid hl
  clear h hx hl
  have hb := okRange_ge _ _ hr
  have hb1 : f ≤ 100000 := by omega
  have hb2 : c ≤ 256 := by omega
  have hb3 : f + c ≤ 100001 := by omega
  clear hb
  go_enter Try.func23, Try.ntmps23
  go_wp2_with fail
  go_at_call 55
  refine (specLane_b A n cc x true _ _ HA.out (Nat.le_refl _) (by have := HL.out.2.2; omega) ⟨fun _ => HL.out, fun _ => rfl⟩).mono ?_
  rintro e w2 ⟨rfl, hs2⟩
  have HS2 := Lib.hid hs2; clear hs2
  have hz2 := HS2.out.size
  go_wp2_with fail
  go_at_call 63
  refine (specRange_b f c true _ hr).mono ?_
  rintro e w3 ⟨rfl, rfl⟩
  go_wp2
  go_loopw [8, 9] (fun v i wr => ∃ k : Nat, k ≤ c ∧ i = .int .i64 k ∧ Rw w.heap.size wr v k (fun k => laneO x n ((f + k : Nat) : Int)) ∧ w.Since w.heap.size wr) (fun _ i _ => c - (intOf i).toNat)
  case atStart => exact ⟨0, Nat.zero_le _, rfl, Rw.start w2 _ hz2 _, HS2.out.alloc hz2 _⟩
  case round =>
    obtain ⟨k, hk, rfl, hr, hs⟩ := hrel
    have HR := Lib.hid hr; have HS := Lib.hid hs
    clear hr hs HS2 hz2
    by_cases hlt : k < c
    · have hz := HS.out.size
      go_wp2_with fail
      go_at_call 60
      refine (specAt_any A n cc x _ _ _ (HA.out.now HS.out) (Nat.le_refl _) HX.out HL.out.1 HL.out.2.1 HL.out.2.2 (by omega) (by omega)).mono ?_
      rintro e w3 ⟨r, rfl, hr, hs3⟩
      have HR3 := Lib.hid (HR.out.since hs3)
      have HS3 := Lib.hid (since_step HS.out hs3); clear hs3
      have hz3 := HS3.out.size
      have hr2 : Hid (Fv .f32 r (laneO x n ((f + k : Nat) : Int))) := hr
      clear hr
      go_wp2_with (first | (at_builtin; refine wpList_app1 rfl (.tmp 25) (.tmp 31) rfl w.heap.size _ k _ rfl _ _ rfl (by simp [go_sem]) (by omega) (by simp; omega) hr2 (HR3.out.alloc _) ?_; intro v' w4 hR4 hS4))
      go_roundw
      case rel => exact ⟨k + 1, by omega, by go_num, hR4.out, HS3.out.trans (((World.Since.refl _ _).alloc hz3 _).trans hS4.out)⟩
      case measure => simp [intOf]; omega
    · obtain rfl : k = c := by omega
      obtain ⟨p, cp, rfl, rfl, hg, ha⟩ := HR.out.done
      have HG := Lib.hid hg; have HAA := Lib.hid ha; clear hg ha
      go_wp2
      go_ret2
      exact ⟨p, cp, rfl, rfl, HG.out.toE, HAA.out, HS.out⟩
end Go.Proofs.Ytmdnalkfndoicaa

/- Products with lanes: of the model. -/
set_option linter.unusedVariables false
set_option linter.unusedSimpArgs false
namespace Go.Proofs.Ytmdnalkfndoicaa
open Fl Go.RowKit
theorem Lo.VR_slice {A : Option Addr} {n c : Nat} {u : Value} (h : Lo.VR (.slice A n c) u) : u = .slice A n c := by
  rcases h with rfl | ⟨_, _, _, e, _⟩
  · rfl
  · cases e
theorem laneO_ex (x : Nat → PointR) (n : Nat) (p : Int) (hx : ∀ k, k < n → (x k).ok) (hn : 1 ≤ n) : ∃ r, Fv .f32 r (laneO x n p) := by
  have hv : ∀ k, k < n → Fv .f32 (x k).v (pv x k) := fun k hk => ⟨hx k hk, rfl⟩
  unfold laneO
  split
  · rename_i h; exact ⟨_, hv _ h.1⟩
  · split
    · exact ⟨_, hv 0 (by omega)⟩
    · split
      · exact ⟨_, hv (n - 1) (by omega)⟩
      · have hle : lowI x p n ≤ n := by
          have : ∀ m, lowI x p m ≤ m := fun m => by
            induction m with
            | zero => exact Nat.le_refl _
            | succ m ih => unfold lowI; split <;> omega
          exact this n
        exact mid_ex _ _ p _ _ _ _ (Lib.hid (hv (lowI x p n - 1) (by omega))) (Lib.hid (hv (lowI x p n) (by omega)))
theorem specAt_hc (W : World) (A : Option Addr) (n c : Nat) (x : Nat → PointR) (p : Int) (h : Rs PointR.cells 2 W W.heap.size A n x) (hx : ∀ k, k < n → (x k).ok) (hl : laneOk x n) (hp : 0 ≤ p) (hp2 : p ≤ 200000) :
    ∀ us, Lo.VRs [.slice A n c, .int .i64 p] us → ∀ v', (∃ hs d, v' = Lo.mkW W hs d) → Calls Try.prog 60 us.toArray v' fun e v2 => ∃ r, e = .returned (.float .f32 r) ∧ Fv .f32 r (laneO x n p) ∧ ∃ hs d, v2 = Lo.mkW W hs d := by
  rintro us ⟨u1, us1, rfl, h1, u2, us2, rfl, h2, h3⟩ v' ⟨hs, d, rfl⟩
  have h3' : us2 = [] := h3
  subst h3'
  obtain rfl := Lo.VR_slice h1
  obtain rfl := Lo.VR_int h2
  exact (specAt_any A n c x p _ _ (h.now (Lo.mkW_since W hs d)) (Nat.le_refl _) hx hl.1 hl.2.1 hl.2.2 hp hp2).mono fun e v2 ⟨r, h1, h2, h3⟩ => ⟨r, h1, h2.out, Lo.mkW_mkW ⟨hs, d, rfl⟩ h3⟩
set_option maxHeartbeats 4000000 in
set_option maxRecDepth 100000 in
theorem specApplyLane_ok (A : Option Addr) (n cc : Nat) (x : Nat → PointR) (f : Nat) (A2 : Option Addr) (n2 c2 : Nat) (xs : List Nat) (w : World) (h : Rs PointR.cells 2 w w.heap.size A n x) (hx : ∀ k, k < n → (x k).ok) (hl : laneOk x n) (h2 : Fs w w.heap.size A2 n2 xs) (hr : okRange f n2 = true) :
    Calls Try.prog 29 #[.slice A n cc, .int .i64 f, .slice A2 n2 c2] w (PEB n2 (fun k => mu (ab .f32 (wd xs k)) (laneO x n ((f + k : Nat) : Int))) true w) := by
  have HA := Lib.hid h; have HX := Lib.hid hx; have HL := Lib.hid hl; have HF := Lib.hid h2
  clear h hx hl h2
  have hb := okRange_ge _ _ hr
  have hb1 : f ≤ 100000 := by omega
  have hb2 : n2 ≤ 256 := by omega
  have hb3 : f + n2 ≤ 100001 := by omega
  clear hb
  go_enter Try.func29, Try.ntmps29
  go_wp2_with fail
  go_at_call 55
  refine (specLane_b A n cc x true _ _ HA.out (Nat.le_refl _) (by have := HL.out.2.2; omega) ⟨fun _ => HL.out, fun _ => rfl⟩).mono ?_
  rintro e w2 ⟨rfl, hs2⟩
  have HS2 := Lib.hid hs2; clear hs2
  have hz2 := HS2.out.size
  go_wp2_with fail
  go_at_call 63
  refine (specRange_b f n2 true _ hr).mono ?_
  rintro e w3 ⟨rfl, rfl⟩
  go_wp2
  go_loopw [8, 23] (fun v i wr => ∃ k : Nat, k ≤ n2 ∧ i = .int .i64 k ∧ Rw w.heap.size wr v k (fun k => mu (ab .f32 (wd xs k)) (laneO x n ((f + k : Nat) : Int))) ∧ w.Since w.heap.size wr) (fun _ i _ => n2 - (intOf i).toNat)
  case atStart => exact ⟨0, Nat.zero_le _, rfl, Rw.start w2 _ hz2 _, HS2.out.alloc hz2 _⟩
  case round =>
    obtain ⟨k, hk, rfl, hr, hs⟩ := hrel
    have HR := Lib.hid hr; have HS := Lib.hid hs
    clear hr hs HS2 hz2
    by_cases hlt : k < n2
    · have hz := HS.out.size
      obtain ⟨g, off, rfl, hg, hcc⟩ := HF.out.2.2 (by omega)
      have d1 := (HS.out.cell (a := ⟨g, off + k, none⟩) hg).trans (hcc k (by omega))
      have x1 : Hid (Fv .f32 (wd xs k) (ab .f32 (wd xs k))) := Lib.hid ⟨HF.out.2.1.at_ k, rfl⟩
      clear hcc
      have hpp : (f : Int) + (k : Int) = ((f + k : Nat) : Int) := by omega
      have HCC := Lib.hid (specAt_hc wr A n cc x ((f + k : Nat) : Int) (HA.out.now HS.out) HX.out HL.out (by omega) (by omega))
      rw [← hpp] at HCC
      have HEX := Lib.hid (laneO_ex x n ((f + k : Nat) : Int) HX.out HL.out.2.1)
      have hg3 : g < wr.heap.size := by omega
      have HPP := Lib.hid hpp; clear hpp
      have HLD := Lib.hid (Lo.loadFG hg3 d1)
      go_wp2_with fail
      refine Lo.wp_looseFG_tail [35,36] 11 _ rfl rfl (by kernel_rfl) (by kernel_rfl) (fun _ _ _ h => h) ?_
      simp only [Nat.reduceSub, List.take_succ_cons, List.take_zero, List.drop_succ_cons, List.drop_zero, Act.eval, Act.put, List.setIfInBounds_toArray, List.set_cons_succ, List.set_cons_zero, Array.getD_eq_getD_getElem?, List.getElem?_toArray, List.getElem?_cons_succ, List.getElem?_cons_zero, Option.getD_some]
      repeat (first
        | (refine Lo.wpL_load1 rfl 29 (.tmp 29) rfl (by decide) ⟨g, off + k, none⟩ rfl (.float .f32 (wd xs k)) HLD.out ?_; simp only [Act.put, List.setIfInBounds_toArray, List.set_cons_succ, List.set_cons_zero])
        | (refine Lo.wpG_callV rfl 60 [.tmp 31, .tmp 34] [.slice A n cc, .int .i64 ((f : Int) + (k : Int))] _ rfl (by decide) (callsEnter 60 Try.f60 _ (by kernel_rfl) (by kernel_rfl) rfl) .f32 _ rfl HCC.out HEX.out ?_; intro rr hrr; simp only [Act.put, List.setIfInBounds_toArray, List.set_cons_succ, List.set_cons_zero])
        | (refine Lo.wpL_move rfl _ (.inl rfl) (by decide) ?_; simp only [Act.put, List.setIfInBounds_toArray, List.set_cons_succ, List.set_cons_zero])
        | (refine Lo.wpL_move rfl _ (.inr rfl) (by decide) ?_; simp only [Act.put, List.setIfInBounds_toArray, List.set_cons_succ, List.set_cons_zero])
        | (refine Lo.wpG_fop (fun _ m h => Lo.drewG m h) rfl _ _ _ _ rfl rfl (by decide) _ _ _ _ _ rfl rfl (by assumption) (by assumption) ?_; intro rr hrr; simp only [Act.put, List.setIfInBounds_toArray, List.set_cons_succ, List.set_cons_zero])
        | (refine Lo.wpL_quiet rfl (by decide) (fun K hK => ?_); go_big_quiet_op; first | (refine hK _ ?_; clear hK K) | (refine ⟨_, fun _ _ _ _ => rfl, hK _ ?_⟩; clear hK K)))
      refine Lo.wpL_nil ?_; intro hsG dG
      refine Lo.after_fl rfl (by assumption) ?_; intro q35 h35; simp only [Act.put, List.setIfInBounds_toArray, List.set_cons_succ, List.set_cons_zero]
      refine Lo.after_fl rfl (by assumption) ?_; intro q36 h36; simp only [Act.put, List.setIfInBounds_toArray, List.set_cons_succ, List.set_cons_zero]
      refine Lo.after_nil ?_; intro nq
      generalize hwG : Lo.mkW _ hsG dG = wG
      replace hwG := Lo.sinceG hwG
      clear hsG dG
      rw [HPP.out] at h36
      have h37 : Hid (Fv .f32 q36 ((fun k => mu (ab .f32 (wd xs k)) (laneO x n ((f + k : Nat) : Int))) k)) := h36
      have HS3 := Lib.hid (since_step HS.out hwG)
      have HR3 := Lib.hid (HR.out.since hwG)
      have hz3 := HS3.out.size
      clear hwG h35 h36
      go_wp2_with (first | (at_builtin; refine wpList_app1 rfl (.tmp 26) (.tmp 37) rfl w.heap.size _ k _ rfl _ _ rfl (by simp [go_sem]) (by omega) (by simp; omega) h37 (HR3.out.alloc _) ?_; intro v' w4 hR4 hS4))
      go_roundw
      case rel => exact ⟨k + 1, by omega, by go_num, hR4.out, HS3.out.trans (((World.Since.refl _ _).alloc hz3 _).trans hS4.out)⟩
      case measure => simp [intOf]; omega
    · obtain rfl : k = n2 := by omega
      obtain ⟨p, cp, rfl, rfl, hg, ha⟩ := HR.out.done
      have HG := Lib.hid hg; have HAA := Lib.hid ha; clear hg ha
      go_wp2
      go_ret2
      exact ⟨p, cp, rfl, rfl, HG.out.toE, HAA.out, HS.out⟩
open Classical in
theorem specRunLane_no (A : Option Addr) (n cc : Nat) (x : Nat → PointR) (f c : Int) (w : World) (h : Rs PointR.cells 2 w w.heap.size A n x) (hn : n ≤ 1048576) (hno : ¬ (laneOk x n ∧ okRange f c = true)) (F : Nat → O) :
    Calls Try.prog 23 #[.slice A n cc, .int .i64 f, .int .i64 c] w (PEB 0 F false w) := by
  have HNO := Lib.hid hno
  have HQ := Lib.hid (fun b (hb : b = true ↔ laneOk x n) => specLane_b A n cc x b _ _ h (Nat.le_refl _) hn hb)
  clear h hno
  by_cases hl : laneOk x n
  · have hp : okRange f c = false := by
      cases e : okRange f c
      · rfl
      · exact absurd ⟨hl, e⟩ HNO.out
    have HQ1 := Lib.hid (HQ.out true ⟨fun _ => hl, fun _ => rfl⟩)
    clear hl
    go_enter Try.func23, Try.ntmps23
    go_wp2_with (first | (go_at_call 55; refine HQ1.out.mono ?_; rintro e w2 ⟨rfl, hs2⟩; have HS2 := Lib.hid hs2; clear hs2) | (go_at_call 63; refine (specRange_b f c false _ hp).mono ?_; rintro e w3 ⟨rfl, rfl⟩))
    go_ret2
    exact PEB.none_ HS2.out _
  · have HQ1 := Lib.hid (HQ.out false ⟨fun h => (by cases h), fun h => absurd h hl⟩)
    clear hl
    go_enter Try.func23, Try.ntmps23
    go_wp2_with (first | (go_at_call 55; refine HQ1.out.mono ?_; rintro e w2 ⟨rfl, hs2⟩; have HS2 := Lib.hid hs2; clear hs2))
    go_ret2
    exact PEB.none_ HS2.out _
open Classical in
theorem specApplyLane_no (A : Option Addr) (n cc : Nat) (x : Nat → PointR) (f : Int) (A2 : Option Addr) (n2 c2 : Nat) (w : World) (h : Rs PointR.cells 2 w w.heap.size A n x) (hn : n ≤ 1048576) (hno : ¬ (laneOk x n ∧ okRange f n2 = true)) (F : Nat → O) :
    Calls Try.prog 29 #[.slice A n cc, .int .i64 f, .slice A2 n2 c2] w (PEB 0 F false w) := by
  have HNO := Lib.hid hno
  have HQ := Lib.hid (fun b (hb : b = true ↔ laneOk x n) => specLane_b A n cc x b _ _ h (Nat.le_refl _) hn hb)
  clear h hno
  by_cases hl : laneOk x n
  · have hp : okRange f n2 = false := by
      cases e : okRange f n2
      · rfl
      · exact absurd ⟨hl, e⟩ HNO.out
    have HQ1 := Lib.hid (HQ.out true ⟨fun _ => hl, fun _ => rfl⟩)
    clear hl
    go_enter Try.func29, Try.ntmps29
    go_wp2_with (first | (go_at_call 55; refine HQ1.out.mono ?_; rintro e w2 ⟨rfl, hs2⟩; have HS2 := Lib.hid hs2; clear hs2) | (go_at_call 63; refine (specRange_b f n2 false _ hp).mono ?_; rintro e w3 ⟨rfl, rfl⟩))
    go_ret2
    exact PEB.none_ HS2.out _
  · have HQ1 := Lib.hid (HQ.out false ⟨fun h => (by cases h), fun h => absurd h hl⟩)
    clear hl
    go_enter Try.func29, Try.ntmps29
    go_wp2_with (first | (go_at_call 55; refine HQ1.out.mono ?_; rintro e w2 ⟨rfl, hs2⟩; have HS2 := Lib.hid hs2; clear hs2))
    go_ret2
    exact PEB.none_ HS2.out _
end Go.Proofs.Ytmdnalkfndoicaa

/- Runs of lanes: of the program. -/
set_option linter.unusedVariables false
set_option linter.unusedSimpArgs false
namespace Go.Proofs.Ytmdnalkfndoicaa
open Fl Go.RowKit
set_option maxHeartbeats 2000000 in
theorem implPlaces_b (f c : Int) (b : Bool) (w : World) (h : okRange f c = b) : Calls Try.prog 64 #[.int .i64 f, .int .i64 c] w fun e w' => e = .returned (.bool b) ∧ w.Since w.heap.size w' := by
  subst h
  unfold okRange
  cases h1 : inB f 0 100000 <;> cases h2 : inB c 0 256
  case true.true =>
    have h3 : 0 ≤ f ∧ f ≤ 100000 := by simpa [inB] using h1
    have h4 : 0 ≤ c ∧ c ≤ 256 := by simpa [inB] using h2
    obtain ⟨h3, h5⟩ := h3
    obtain ⟨h4, h6⟩ := h4
    have h7 : decide (f + c ≤ 100001) = decide (f + c - 1 ≤ 100000) := by
      by_cases h8 : f + c ≤ 100001
      · rw [decide_eq_true h8, decide_eq_true (by omega)]
      · rw [decide_eq_false h8, decide_eq_false (by omega)]
    rw [h7]
    clear h7
    go_enter Try.func64, Try.ntmps64
    go_wp2_with (first | (go_at_call 61; with_reducible refine (isLanePlace_b f _ _ h1).mono ?_; rintro e w1 ⟨rfl, rfl⟩) | (go_at_call 101; with_reducible refine (isCount_b c _ _ h2).mono ?_; rintro e w1 ⟨rfl, rfl⟩))
    go_ret
    exact ⟨ret_bool (by simp), by unfold lim; (repeat (first | (with_reducible refine Fl.sinDrew ?_) | (with_reducible refine World.Since.drew ?_) | (with_reducible refine Fl.sinSet ?_ ?_; rotate_left) | (with_reducible refine Fl.sinAlloc ?_ ?_; rotate_left) | with_reducible exact World.Since.refl _ _ | with_reducible assumption | (with_reducible refine Fl.sinStep (by with_reducible assumption) ?_))); all_goals (first | omega | (simp; done) | (simp; omega) | (simp [go_sem]; done) | (simp [go_sem]; omega))⟩
  all_goals
    go_enter Try.func64, Try.ntmps64
    go_wp2_with (first | (go_at_call 61; with_reducible refine (isLanePlace_b f _ _ h1).mono ?_; rintro e w1 ⟨rfl, rfl⟩) | (go_at_call 101; with_reducible refine (isCount_b c _ _ h2).mono ?_; rintro e w1 ⟨rfl, rfl⟩))
    go_ret
    exact ⟨ret_bool (by simp), by unfold lim; (repeat (first | (with_reducible refine Fl.sinDrew ?_) | (with_reducible refine World.Since.drew ?_) | (with_reducible refine Fl.sinSet ?_ ?_; rotate_left) | (with_reducible refine Fl.sinAlloc ?_ ?_; rotate_left) | with_reducible exact World.Since.refl _ _ | with_reducible assumption | (with_reducible refine Fl.sinStep (by with_reducible assumption) ?_))); all_goals (first | omega | (simp; done) | (simp; omega) | (simp [go_sem]; done) | (simp [go_sem]; omega))⟩
theorem valuesFrom_any (A : Option Addr) (n c : Nat) (f : Int) (w : World) :
    Calls Try.prog 65 #[.slice A n c, .int .i64 f] w fun e w' => e = .returned (.func (.func 102) #[] #[.pointer (some ⟨w.heap.size, 0, none⟩), .pointer (some ⟨w.heap.size + 1, 0, none⟩)]) ∧ (w.alloc (.cells #[.slice A n c] 72)).alloc (.cells #[.int .i64 f] 2) = w' := by
  go_enter Try.func65, Try.ntmps65
  go_wp2
  go_ret
  exact ⟨rfl, rfl⟩
theorem laneClos_any (A : Option Addr) (n c : Nat) (x : Nat → PointR) (f k b1 b2 : Nat) (w : World) (B : Nat) (h : Rs PointR.cells 2 w B A n x) (hB : B ≤ w.heap.size) (hx : ∀ k, k < n → (x k).ok) (hl : laneOk x n) (hf : f ≤ 100000) (hk : k ≤ 300)
    (h1 : w.cell? ⟨b1, 0, none⟩ = some (.slice A n c)) (h2 : w.cell? ⟨b2, 0, none⟩ = some (.int .i64 (f : Int))) :
    Calls Try.prog 102 #[.int .i64 (k : Int), .pointer (some ⟨b1, 0, none⟩), .pointer (some ⟨b2, 0, none⟩)] w fun e w' => ∃ r, e = .returned (.float .f32 r) ∧ Hid (Fv .f32 r (laneO x n ((f + k : Nat) : Int))) ∧ w.Since w.heap.size w' := by
  have HA := Lib.hid (implAt_any A n c x ((f + k : Nat) : Int) w B h hB hx hl.1 hl.2.1 hl.2.2 (by omega) (by omega))
  have e : ((f + k : Nat) : Int) = (f : Int) + (k : Int) := by omega
  rw [e] at HA ⊢
  clear h hx hl e
  go_enter Try.func102, Try.ntmps102
  go_wp2_with (go_at_call 62; refine HA.out.mono ?_; rintro e w2 ⟨r, rfl, hr, hs⟩; have HR := Lib.hid hr; have HS := Lib.hid hs; clear hr hs)
  go_ret
  exact ⟨_, rfl, HR.out, HS.out⟩
theorem on_of_since {g : Nat} {w w' : World} (h : w.Since w.heap.size w') (hg : g ≤ w.heap.size) : On g w w' := ⟨since_mono h hg, fun b hb _ => h.block b hb⟩
set_option maxHeartbeats 4000000 in
set_option maxRecDepth 100000 in
theorem implApplyLane_ok (A : Option Addr) (n cc : Nat) (x : Nat → PointR) (f : Nat) (A2 : Option Addr) (n2 c2 : Nat) (xs : List Nat) (w : World) (h : Rs PointR.cells 2 w w.heap.size A n x) (hnc : n ≤ cc) (hx : ∀ k, k < n → (x k).ok) (hl : laneOk x n) (h2 : Fs w w.heap.size A2 n2 xs) (hr : okRange f n2 = true) :
    Calls Try.prog 31 #[.slice A n cc, .int .i64 f, .slice A2 n2 c2] w (PEB n2 (fun k => mu (ab .f32 (wd xs k)) (laneO x n ((f + k : Nat) : Int))) true w) := by
  have HA := Lib.hid h; have HX := Lib.hid hx; have HL := Lib.hid hl; have HF := Lib.hid h2
  clear h hx hl h2
  have hb := okRange_ge _ _ hr
  have hb1 : f ≤ 100000 := by omega
  have hb2 : n2 ≤ 256 := by omega
  have hb3 : f + n2 ≤ 100001 := by omega
  clear hb
  go_enter Try.func31, Try.ntmps31
  go_wp2_with fail
  go_at_call 57
  refine (laneOf_any A n cc x true _ _ HA.out (Nat.le_refl _) hnc (by have := HL.out.2.2; omega) ⟨fun _ => HL.out, fun _ => rfl⟩).mono ?_
  rintro e w2 ⟨v, rfl, hv, hs2⟩
  have hv2 : v = .slice A n cc := hv
  subst hv2
  have HS2 := Lib.hid hs2; clear hs2 hv
  go_wp2_with fail
  go_at_call 64
  refine (implPlaces_b f n2 true _ hr).mono ?_
  rintro e w3 ⟨rfl, hs3⟩
  have HS3 := Lib.hid (since_step HS2.out hs3); clear hs3
  have hz3 := HS3.out.size
  go_wp2_with fail
  go_at_call 65
  refine (valuesFrom_any A n cc f w3).mono ?_
  rintro e w4 ⟨rfl, hw4⟩
  have HS4 : Hid (w.Since w.heap.size w4) := Lib.hid (by rw [← hw4]; exact (HS3.out.alloc hz3 _).alloc (by simp; omega) _)
  have C1 : Hid (w4.cell? ⟨w3.heap.size, 0, none⟩ = some (.slice A n cc)) := Lib.hid (by rw [← hw4]; simp [go_sem])
  have C2 : Hid (w4.cell? ⟨w3.heap.size + 1, 0, none⟩ = some (.int .i64 (f : Int))) := Lib.hid (by rw [← hw4]; simp [go_sem])
  have z4 : w4.heap.size = w3.heap.size + 2 := by rw [← hw4]; simp
  have HR4 := Lib.hid (HA.out.since HS4.out)
  clear hw4
  go_wp2_with fail
  refine (gains_any A2 n2 c2 xs 102 #[.pointer (some ⟨w3.heap.size, 0, none⟩), .pointer (some ⟨w3.heap.size + 1, 0, none⟩)] w.heap.size (fun _ W => W.cell? ⟨w3.heap.size, 0, none⟩ = some (.slice A n cc) ∧ W.cell? ⟨w3.heap.size + 1, 0, none⟩ = some (.int .i64 (f : Int)) ∧ Rs PointR.cells 2 W w.heap.size A n x) (fun k => laneO x n ((f + k : Nat) : Int)) w4 (HF.out.since HS4.out) (by omega) hb2 (fun _ _ => rfl) ?hI ?hst ⟨C1.out, C2.out, HR4.out⟩).mono ?_
  case hI => exact fun k W W' h1 h2 h3 h4 => ⟨(cell_of_block (h4 _ (by omega)) 0).trans h1.1, (cell_of_block (h4 _ (by omega)) 0).trans h1.2.1, h1.2.2.keep fun g o hg => cell_of_block (h4 _ (by omega)) o⟩
  case hst =>
    rintro k W hk hi hs
    exact (laneClos_any A n cc x f k _ _ W w.heap.size hi.2.2 (by omega) HX.out HL.out hb1 (by omega) hi.1 hi.2.1).mono fun e W' ⟨r, h1, h2, h3⟩ => ⟨r, h1, h2, ⟨(h3.cell (a := ⟨w3.heap.size, 0, none⟩) (show w3.heap.size < W.heap.size by omega)).trans hi.1, (h3.cell (a := ⟨w3.heap.size + 1, 0, none⟩) (show w3.heap.size + 1 < W.heap.size by omega)).trans hi.2.1, hi.2.2.keep fun g o hg => h3.cell (a := ⟨g, o, none⟩) (show g < W.heap.size by omega)⟩, on_of_since h3 (by omega)⟩
  rintro e w5 ⟨ys, rfl, hg, ha, _, ho⟩
  rw [z4] at hg
  have HG := Lib.hid hg; have HAA := Lib.hid ha; have HO := Lib.hid ho; clear hg ha ho
  go_wp2
  go_ret2
  exact ⟨⟨some ⟨w3.heap.size + 2, 0, none⟩, n2, ys⟩, n2, rfl, rfl, (HG.out.less (by omega)).toE, HAA.out, HS4.out.trans (HO.out.since (Nat.le_refl _))⟩
set_option maxHeartbeats 8000000 in
set_option maxRecDepth 100000 in
theorem implRunLane_ok (A : Option Addr) (n cc : Nat) (x : Nat → PointR) (f c : Nat) (w : World) (h : Rs PointR.cells 2 w w.heap.size A n x) (hnc : n ≤ cc) (hx : ∀ k, k < n → (x k).ok) (hl : laneOk x n) (hr : okRange f c = true) :
    Calls Try.prog 24 #[.slice A n cc, .int .i64 f, .int .i64 c] w (PEB c (fun k => laneO x n ((f + k : Nat) : Int)) true w) := by
  have HA := Lib.hid h; have HX := Lib.hid hx; have HL := Lib.hid hl
  clear h hx hl
  have hb := okRange_ge _ _ hr
  have hb1 : f ≤ 100000 := by omega
  have hb2 : c ≤ 256 := by omega
  have hb3 : f + c ≤ 100001 := by omega
  clear hb
  have hmk := fun W => run_make_row' (P := Try.prog) 35 29 (.float .f32 0) 4 Try.underlying35 Try.infoF rfl .i64 .i64 c (by omega) (by omega) W
  go_enter Try.func24, Try.ntmps24
  go_wp2_with fail
  go_at_call 57
  refine (laneOf_any A n cc x true _ _ HA.out (Nat.le_refl _) hnc (by have := HL.out.2.2; omega) ⟨fun _ => HL.out, fun _ => rfl⟩).mono ?_
  rintro e w2 ⟨v, rfl, hv, hs2⟩
  have hv2 : v = .slice A n cc := hv
  subst hv2
  have HS2 := Lib.hid hs2; clear hs2 hv
  go_wp2_with fail
  go_at_call 64
  refine (implPlaces_b f c true _ hr).mono ?_
  rintro e w3 ⟨rfl, hs3⟩
  have HS3 := Lib.hid (since_step HS2.out hs3); clear hs3
  have hz3 := HS3.out.size
  go_wp2_with fail
  go_region_with (first | (go_at_call 65; refine (valuesFrom_any A n cc f _).mono ?_; rintro e w4 ⟨rfl, rfl⟩))
  · generalize hW : World.drew _ = W
    have HS4 : Hid (w.Since w.heap.size W) := Lib.hid (by rw [← hW]; exact (((HS3.out.alloc hz3 _).alloc (by simp; omega) _).alloc (by simp; omega) _).drew)
    have C1 : Hid (W.cell? ⟨w3.heap.size + 1, 0, none⟩ = some (.slice A n cc)) := Lib.hid (by rw [← hW]; simp [go_sem])
    have C2 : Hid (W.cell? ⟨w3.heap.size + 1 + 1, 0, none⟩ = some (.int .i64 (f : Int))) := Lib.hid (by rw [← hW]; simp [go_sem])
    have GC : Hid (GCells W (w3.heap.size) c (partial_ 0 fun _ => 0)) := Lib.hid (by
      obtain ⟨cs, hb, _, hc⟩ := World.rowIs_made w3 (.float .f32 0) c 29
      refine ⟨cs, ?_, fun j hj => hc j hj⟩
      rw [← hW]
      exact ((((World.Since.refl _ _).alloc (Nat.le_refl _) _).alloc (by simp) _).block _ (by simp)).trans hb)
    have z4 : w3.heap.size + 2 < W.heap.size := by rw [← hW]; simp
    clear hW
    go_wp2
    go_loopw [33] (fun i wr => ∃ (k : Nat) (r : Nat → Nat), k ≤ c ∧ i = .int .i64 k ∧ GCells wr (w3.heap.size) c (partial_ k r) ∧ (∀ j, j < k → Hid (Fv .f32 (r j) (laneO x n ((f + j : Nat) : Int)))) ∧ wr.cell? ⟨w3.heap.size + 1, 0, none⟩ = some (.slice A n cc) ∧ wr.cell? ⟨w3.heap.size + 1 + 1, 0, none⟩ = some (.int .i64 (f : Int)) ∧ w3.heap.size + 2 < wr.heap.size ∧ w.Since w.heap.size wr) (fun i _ => c - (intOf i).toNat)
    case atStart => exact ⟨0, fun _ => 0, Nat.zero_le _, rfl, GC.out, fun j hj => by omega, C1.out, C2.out, z4, HS4.out⟩
    case round =>
      obtain ⟨k, r, hk, rfl, hcs, hr, hc1, hc2, hzr, hs⟩ := hrel
      have HC := Lib.hid hcs; have HR := Lib.hid hr; have HS := Lib.hid hs; have D1 := Lib.hid hc1; have D2 := Lib.hid hc2
      clear hcs hr hs hc1 hc2 z4 GC C1 C2 HS4
      by_cases hlt : k < c
      · go_wp2_with fail
        refine (laneClos_any A n cc x f k _ _ wr w.heap.size (HA.out.since HS.out) HS.out.size HX.out HL.out hb1 (by omega) D1.out D2.out).mono ?_
        rintro e w4 ⟨r1, rfl, hr1, hs4⟩
        have HS5 := Lib.hid (since_step HS.out hs4)
        have HC2 := Lib.hid (show GCells w4 (w3.heap.size) c (partial_ k r) by
          obtain ⟨cs, hb, hc⟩ := HC.out
          exact ⟨cs, (hs4.block _ (by omega)).trans hb, hc⟩)
        have E1 := Lib.hid ((hs4.cell (a := ⟨w3.heap.size + 1, 0, none⟩) (show w3.heap.size + 1 < wr.heap.size by omega)).trans D1.out)
        have E2 := Lib.hid ((hs4.cell (a := ⟨w3.heap.size + 1 + 1, 0, none⟩) (show w3.heap.size + 1 + 1 < wr.heap.size by omega)).trans D2.out)
        have hz4 : w3.heap.size + 2 < w4.heap.size := Nat.lt_of_lt_of_le hzr hs4.size
        have hq2 : w4.cell? ⟨w3.heap.size, k, none⟩ = some (partial_ k r k) := HC2.out.cell hlt
        have hf2 : w4.frozen? ⟨w3.heap.size, k, none⟩ = false := HC2.out.free _
        have HR1 := Lib.hid hr1
        clear hs4 hr1
        go_wp2
        go_roundw
        case rel =>
          refine ⟨k + 1, fun j => if j = k then r1 else r j, by omega, by go_num, (HC2.out.set k _).congr (fun j hj => ?_), fun j hj => ?_, (cell_of_block (Go.Deep.blk_setCell_other _ _ _ _ (by show (w3.heap.size + 1) ≠ w3.heap.size; omega)) 0).trans E1.out, (cell_of_block (Go.Deep.blk_setCell_other _ _ _ _ (by show (w3.heap.size + 1 + 1) ≠ w3.heap.size; omega)) 0).trans E2.out, by rw [Go.Deep.nblk_setCell]; exact hz4, HS5.out.setCell (by show w.heap.size ≤ w3.heap.size; omega) _⟩
          · unfold partial_
            dsimp only
            by_cases e : j = k
            · rw [if_pos e, if_pos (by omega), if_pos e]
            · rw [if_neg e, if_neg e]
              by_cases e2 : j < k
              · rw [if_pos e2, if_pos (by omega)]
              · rw [if_neg e2, if_neg (by omega)]
          · show Hid (Fv .f32 (if j = k then r1 else r j) (laneO x n ((f + j : Nat) : Int)))
            by_cases e : j = k
            · subst e; rw [if_pos rfl]; exact HR1.out
            · rw [if_neg e]; exact HR.out j (by omega)
        case measure => simp [intOf]; omega
      · obtain rfl : k = c := by omega
        go_wp2
        go_ret2
        refine ⟨⟨some ⟨w3.heap.size, 0, none⟩, k, lst k r⟩, k, rfl, rfl, Gs.toE ⟨lst_len _ _, fun y hy => ?_, fun _ => ?_⟩, fun i hi => by rw [lst_wd hi]; exact (HR.out i hi).out.2, HS.out⟩
        · obtain ⟨i, hi, rfl⟩ := List.mem_map.1 hy
          exact (HR.out i (List.mem_range.1 hi)).out.1
        · obtain ⟨cs, hb, hc⟩ := HC.out
          refine ⟨_, cs, rfl, by omega, hb, fun j hj => ?_⟩
          rw [hc j hj]; unfold partial_ fv; rw [if_pos hj, lst_wd hj]
  · generalize hW : World.drew _ = W
    have HS4 : Hid (w.Since w.heap.size W) := Lib.hid (by rw [← hW]; exact (((HS3.out.alloc hz3 _).alloc (by simp; omega) _).alloc (by simp; omega) _).drew)
    have C1 : Hid (W.cell? ⟨w3.heap.size, 0, none⟩ = some (.slice A n cc)) := Lib.hid (by rw [← hW]; simp [go_sem])
    have C2 : Hid (W.cell? ⟨w3.heap.size + 1, 0, none⟩ = some (.int .i64 (f : Int))) := Lib.hid (by rw [← hW]; simp [go_sem])
    have GC : Hid (GCells W (w3.heap.size + 1 + 1) c (partial_ 0 fun _ => 0)) := Lib.hid (by
      obtain ⟨cs, hb, _, hc⟩ := World.rowIs_made ((w3.alloc (.cells #[.slice A n cc] 72)).alloc (.cells #[.int .i64 (f : Int)] 2)) (.float .f32 0) c 29
      refine ⟨cs, ?_, fun j hj => hc j hj⟩
      rw [← hW]
      have e3 : ((w3.alloc (.cells #[.slice A n cc] 72)).alloc (.cells #[.int .i64 (f : Int)] 2)).heap.size = w3.heap.size + 1 + 1 := by simp
      rw [e3] at hb
      exact hb)
    have z4 : w3.heap.size + 2 < W.heap.size := by rw [← hW]; simp
    clear hW
    go_wp2
    go_loopw [33] (fun i wr => ∃ (k : Nat) (r : Nat → Nat), k ≤ c ∧ i = .int .i64 k ∧ GCells wr (w3.heap.size + 1 + 1) c (partial_ k r) ∧ (∀ j, j < k → Hid (Fv .f32 (r j) (laneO x n ((f + j : Nat) : Int)))) ∧ wr.cell? ⟨w3.heap.size, 0, none⟩ = some (.slice A n cc) ∧ wr.cell? ⟨w3.heap.size + 1, 0, none⟩ = some (.int .i64 (f : Int)) ∧ w3.heap.size + 2 < wr.heap.size ∧ w.Since w.heap.size wr) (fun i _ => c - (intOf i).toNat)
    case atStart => exact ⟨0, fun _ => 0, Nat.zero_le _, rfl, GC.out, fun j hj => by omega, C1.out, C2.out, z4, HS4.out⟩
    case round =>
      obtain ⟨k, r, hk, rfl, hcs, hr, hc1, hc2, hzr, hs⟩ := hrel
      have HC := Lib.hid hcs; have HR := Lib.hid hr; have HS := Lib.hid hs; have D1 := Lib.hid hc1; have D2 := Lib.hid hc2
      clear hcs hr hs hc1 hc2 z4 GC C1 C2 HS4
      by_cases hlt : k < c
      · go_wp2_with fail
        refine (laneClos_any A n cc x f k _ _ wr w.heap.size (HA.out.since HS.out) HS.out.size HX.out HL.out hb1 (by omega) D1.out D2.out).mono ?_
        rintro e w4 ⟨r1, rfl, hr1, hs4⟩
        have HS5 := Lib.hid (since_step HS.out hs4)
        have HC2 := Lib.hid (show GCells w4 (w3.heap.size + 1 + 1) c (partial_ k r) by
          obtain ⟨cs, hb, hc⟩ := HC.out
          exact ⟨cs, (hs4.block _ (by omega)).trans hb, hc⟩)
        have E1 := Lib.hid ((hs4.cell (a := ⟨w3.heap.size, 0, none⟩) (show w3.heap.size < wr.heap.size by omega)).trans D1.out)
        have E2 := Lib.hid ((hs4.cell (a := ⟨w3.heap.size + 1, 0, none⟩) (show w3.heap.size + 1 < wr.heap.size by omega)).trans D2.out)
        have hz4 : w3.heap.size + 2 < w4.heap.size := Nat.lt_of_lt_of_le hzr hs4.size
        have hq2 : w4.cell? ⟨w3.heap.size + 1 + 1, k, none⟩ = some (partial_ k r k) := HC2.out.cell hlt
        have hf2 : w4.frozen? ⟨w3.heap.size + 1 + 1, k, none⟩ = false := HC2.out.free _
        have HR1 := Lib.hid hr1
        clear hs4 hr1
        go_wp2
        go_roundw
        case rel =>
          refine ⟨k + 1, fun j => if j = k then r1 else r j, by omega, by go_num, (HC2.out.set k _).congr (fun j hj => ?_), fun j hj => ?_, (cell_of_block (Go.Deep.blk_setCell_other _ _ _ _ (by show (w3.heap.size) ≠ w3.heap.size + 1 + 1; omega)) 0).trans E1.out, (cell_of_block (Go.Deep.blk_setCell_other _ _ _ _ (by show (w3.heap.size + 1) ≠ w3.heap.size + 1 + 1; omega)) 0).trans E2.out, by rw [Go.Deep.nblk_setCell]; exact hz4, HS5.out.setCell (by show w.heap.size ≤ w3.heap.size + 1 + 1; omega) _⟩
          · unfold partial_
            dsimp only
            by_cases e : j = k
            · rw [if_pos e, if_pos (by omega), if_pos e]
            · rw [if_neg e, if_neg e]
              by_cases e2 : j < k
              · rw [if_pos e2, if_pos (by omega)]
              · rw [if_neg e2, if_neg (by omega)]
          · show Hid (Fv .f32 (if j = k then r1 else r j) (laneO x n ((f + j : Nat) : Int)))
            by_cases e : j = k
            · subst e; rw [if_pos rfl]; exact HR1.out
            · rw [if_neg e]; exact HR.out j (by omega)
        case measure => simp [intOf]; omega
      · obtain rfl : k = c := by omega
        go_wp2
        go_ret2
        refine ⟨⟨some ⟨w3.heap.size + 1 + 1, 0, none⟩, k, lst k r⟩, k, rfl, rfl, Gs.toE ⟨lst_len _ _, fun y hy => ?_, fun _ => ?_⟩, fun i hi => by rw [lst_wd hi]; exact (HR.out i hi).out.2, HS.out⟩
        · obtain ⟨i, hi, rfl⟩ := List.mem_map.1 hy
          exact (HR.out i (List.mem_range.1 hi)).out.1
        · obtain ⟨cs, hb, hc⟩ := HC.out
          refine ⟨_, cs, rfl, by omega, hb, fun j hj => ?_⟩
          rw [hc j hj]; unfold partial_ fv; rw [if_pos hj, lst_wd hj]
end Go.Proofs.Ytmdnalkfndoicaa

/- The laws of RunLane and ApplyLane. -/
set_option linter.unusedVariables false
set_option linter.unusedSimpArgs false
namespace Go.Proofs.Ytmdnalkfndoicaa
open Fl Go.RowKit
open Classical in
theorem implRunLane_no (A : Option Addr) (n cc : Nat) (x : Nat → PointR) (f c : Int) (w : World) (h : Rs PointR.cells 2 w w.heap.size A n x) (hnc : n ≤ cc) (hn : n ≤ 1048576) (hno : ¬ (laneOk x n ∧ okRange f c = true)) (F : Nat → O) :
    Calls Try.prog 24 #[.slice A n cc, .int .i64 f, .int .i64 c] w (PEB 0 F false w) := by
  have HNO := Lib.hid hno
  have HQ := Lib.hid (fun b (hb : b = true ↔ laneOk x n) => laneOf_any A n cc x b _ _ h (Nat.le_refl _) hnc hn hb)
  clear h hno
  by_cases hl : laneOk x n
  · have hp : okRange f c = false := by
      cases e : okRange f c
      · rfl
      · exact absurd ⟨hl, e⟩ HNO.out
    have HQ1 := Lib.hid (HQ.out true ⟨fun _ => hl, fun _ => rfl⟩)
    clear hl
    go_enter Try.func24, Try.ntmps24
    go_wp2_with (first | (go_at_call 57; refine HQ1.out.mono ?_; rintro e w2 ⟨v, rfl, hv, hs2⟩; have HS2 := Lib.hid hs2; clear hs2 hv) | (go_at_call 64; refine (implPlaces_b f c false _ hp).mono ?_; rintro e w3 ⟨rfl, hs3⟩; have HS3 := Lib.hid (since_step HS2.out hs3); clear hs3))
    go_ret2
    exact PEB.none_ HS3.out _
  · have HQ1 := Lib.hid (HQ.out false ⟨fun h => (by cases h), fun h => absurd h hl⟩)
    clear hl
    go_enter Try.func24, Try.ntmps24
    go_wp2_with (first | (go_at_call 57; refine HQ1.out.mono ?_; rintro e w2 ⟨v, rfl, hv, hs2⟩; have HS2 := Lib.hid hs2; clear hs2 hv))
    go_ret2
    exact PEB.none_ HS2.out _
open Classical in
theorem implApplyLane_no (A : Option Addr) (n cc : Nat) (x : Nat → PointR) (f : Int) (A2 : Option Addr) (n2 c2 : Nat) (w : World) (h : Rs PointR.cells 2 w w.heap.size A n x) (hnc : n ≤ cc) (hn : n ≤ 1048576) (hno : ¬ (laneOk x n ∧ okRange f n2 = true)) (F : Nat → O) :
    Calls Try.prog 31 #[.slice A n cc, .int .i64 f, .slice A2 n2 c2] w (PEB 0 F false w) := by
  have HNO := Lib.hid hno
  have HQ := Lib.hid (fun b (hb : b = true ↔ laneOk x n) => laneOf_any A n cc x b _ _ h (Nat.le_refl _) hnc hn hb)
  clear h hno
  by_cases hl : laneOk x n
  · have hp : okRange f n2 = false := by
      cases e : okRange f n2
      · rfl
      · exact absurd ⟨hl, e⟩ HNO.out
    have HQ1 := Lib.hid (HQ.out true ⟨fun _ => hl, fun _ => rfl⟩)
    clear hl
    go_enter Try.func31, Try.ntmps31
    go_wp2_with (first | (go_at_call 57; refine HQ1.out.mono ?_; rintro e w2 ⟨v, rfl, hv, hs2⟩; have HS2 := Lib.hid hs2; clear hs2 hv) | (go_at_call 64; refine (implPlaces_b f n2 false _ hp).mono ?_; rintro e w3 ⟨rfl, hs3⟩; have HS3 := Lib.hid (since_step HS2.out hs3); clear hs3))
    go_ret2
    exact PEB.none_ HS3.out _
  · have HQ1 := Lib.hid (HQ.out false ⟨fun h => (by cases h), fun h => absurd h hl⟩)
    clear hl
    go_enter Try.func31, Try.ntmps31
    go_wp2_with (first | (go_at_call 57; refine HQ1.out.mono ?_; rintro e w2 ⟨v, rfl, hv, hs2⟩; have HS2 := Lib.hid hs2; clear hs2 hv))
    go_ret2
    exact PEB.none_ HS2.out _
open Classical in
theorem lawRunLane_any (A0 : Option Addr) (n0 c0 : Nat) (x0 : Nat → PointR) (f c : Int) (w : World)
    (h0 : Rs PointR.cells 2 w w.heap.size A0 n0 x0) (hk0 : ∀ k, k < n0 → (x0 k).wf) (hb0 : n0 ≤ 9223372036854775807) (hf : (Lit.int .i64 f).wf = true) (hc : (Lit.int .i64 c).wf = true) :
    Calls Try.prog 5 #[.slice A0 n0 c0, .int .i64 f, .int .i64 c] w fun e w' => e = .returned (.bool true) ∧ w.Since w.heap.size w' := by
  by_cases h : 1048576 < n0
  · exact lawRunLane_big A0 n0 c0 f c w h hb0
  · have hn : n0 ≤ 1048576 := by omega
    by_cases ho : laneOk x0 n0 ∧ okRange f c = true
    · have hb := okRange_ge _ _ ho.2
      obtain ⟨f', rfl⟩ := Int.eq_ofNat_of_zero_le hb.1
      obtain ⟨c', rfl⟩ := Int.eq_ofNat_of_zero_le hb.2.2.1
      exact lawRunLane_gen A0 n0 c0 x0 f' c' c' _ _ w h0 hn (by omega) (fun k hk => (hk0 k hk).1) (fun v b h => specRunLane_ok _ _ _ _ _ _ _ h (fun k hk => (hk0 k hk).1) ho.1 ho.2) (fun v b h => implRunLane_ok _ _ _ _ _ _ _ h (Nat.le_refl _) (fun k hk => (hk0 k hk).1) ho.1 ho.2)
    · exact lawRunLane_gen A0 n0 c0 x0 f c 0 (fun _ => none) _ w h0 hn (by omega) (fun k hk => (hk0 k hk).1) (fun v b h => specRunLane_no _ _ _ _ _ _ _ h hn ho _) (fun v b h => implRunLane_no _ _ _ _ _ _ _ h (Nat.le_refl _) hn ho _)
open Classical in
theorem lawApplyLane_any (A0 : Option Addr) (n0 c0 : Nat) (x0 : Nat → PointR) (f : Int) (A2 : Option Addr) (n2 c2 : Nat) (x2 : List Nat) (w : World)
    (h0 : Rs PointR.cells 2 w w.heap.size A0 n0 x0) (hk0 : ∀ k, k < n0 → (x0 k).wf) (hb0 : n0 ≤ 9223372036854775807) (hf : (Lit.int .i64 f).wf = true) (h2 : Fs w w.heap.size A2 n2 x2) (hb2 : n2 ≤ 9223372036854775807) :
    Calls Try.prog 6 #[.slice A0 n0 c0, .int .i64 f, .slice A2 n2 c2] w fun e w' => e = .returned (.bool true) ∧ w.Since w.heap.size w' := by
  by_cases h : 1048576 < n0 ∨ 1048576 < n2
  · exact lawApplyLane_big A0 n0 c0 f A2 n2 c2 w h hb0
  · have hn : n0 ≤ 1048576 := by omega
    have hn2 : n2 ≤ 1048576 := by omega
    by_cases ho : laneOk x0 n0 ∧ okRange f n2 = true
    · have hb := okRange_ge _ _ ho.2
      obtain ⟨f', rfl⟩ := Int.eq_ofNat_of_zero_le hb.1
      exact lawApplyLane_gen A0 n0 c0 x0 f' A2 n2 c2 x2 n2 _ _ w h0 hn h2 hn2 hn2 (fun k hk => (hk0 k hk).1) (fun v b b2 h h2 => specApplyLane_ok _ _ _ _ _ _ _ _ _ _ h (fun k hk => (hk0 k hk).1) ho.1 h2 ho.2) (fun v b b2 h h2 => implApplyLane_ok _ _ _ _ _ _ _ _ _ _ h (Nat.le_refl _) (fun k hk => (hk0 k hk).1) ho.1 h2 ho.2)
    · exact lawApplyLane_gen A0 n0 c0 x0 f A2 n2 c2 x2 0 (fun _ => none) _ w h0 hn h2 hn2 (by omega) (fun k hk => (hk0 k hk).1) (fun v b b2 h h2 => specApplyLane_no _ _ _ _ _ _ _ _ _ h hn ho _) (fun v b b2 h h2 => implApplyLane_no _ _ _ _ _ _ _ _ _ h (Nat.le_refl _) hn ho _)
end Go.Proofs.Ytmdnalkfndoicaa

/- The law of LaneAt. -/
set_option linter.unusedVariables false
set_option linter.unusedSimpArgs false
namespace Go.Proofs.Ytmdnalkfndoicaa
open Fl Go.RowKit
theorem specLaneAt_ok (A : Option Addr) (n c : Nat) (x : Nat → PointR) (p : Int) (w : World) (h : Rs PointR.cells 2 w w.heap.size A n x) (hx : ∀ k, k < n → (x k).ok) (hl : laneOk x n) (hp : inB p 0 100000 = true) :
    Calls Try.prog 20 #[.slice A n c, .int .i64 p] w (PVB (laneO x n p) true w) := by
  unfold PVB
  have HA := Lib.hid h; have HX := Lib.hid hx; have HL := Lib.hid hl
  clear h hx hl
  have hp1 : 0 ≤ p ∧ p ≤ 100000 := by simpa [inB] using hp
  obtain ⟨hp1, hp2⟩ := hp1
  go_enter Try.func20, Try.ntmps20
  go_wp2_with fail
  go_at_call 55
  refine (specLane_b A n c x true _ _ HA.out (Nat.le_refl _) (by have := HL.out.2.2; omega) ⟨fun _ => HL.out, fun _ => rfl⟩).mono ?_
  rintro e w2 ⟨rfl, hs2⟩
  have HS2 := Lib.hid hs2; clear hs2
  go_wp2_with fail
  go_at_call 59
  refine (specHold_b p 0 100000 true _ hp).mono ?_
  rintro e w3 ⟨rfl, rfl⟩
  go_wp2_with fail
  go_at_call 60
  refine (specAt_any A n c x p _ _ (HA.out.now HS2.out) (Nat.le_refl _) HX.out HL.out.1 HL.out.2.1 HL.out.2.2 hp1 (by omega)).mono ?_
  rintro e w3 ⟨r, rfl, hr, hs3⟩
  have HS3 := Lib.hid (since_step HS2.out hs3); clear hs3
  go_wp2
  go_ret2
  exact ⟨_, rfl, hr, HS3.out⟩
theorem implLaneAt_ok (A : Option Addr) (n c : Nat) (x : Nat → PointR) (p : Int) (w : World) (h : Rs PointR.cells 2 w w.heap.size A n x) (hnc : n ≤ c) (hx : ∀ k, k < n → (x k).ok) (hl : laneOk x n) (hp : inB p 0 100000 = true) :
    Calls Try.prog 21 #[.slice A n c, .int .i64 p] w (PVB (laneO x n p) true w) := by
  unfold PVB
  have HA := Lib.hid h; have HX := Lib.hid hx; have HL := Lib.hid hl
  clear h hx hl
  have hp1 : 0 ≤ p ∧ p ≤ 100000 := by simpa [inB] using hp
  obtain ⟨hp1, hp2⟩ := hp1
  go_enter Try.func21, Try.ntmps21
  go_wp2_with fail
  go_at_call 57
  refine (laneOf_any A n c x true _ _ HA.out (Nat.le_refl _) hnc (by have := HL.out.2.2; omega) ⟨fun _ => HL.out, fun _ => rfl⟩).mono ?_
  rintro e w2 ⟨v, rfl, hv, hs2⟩
  have hv2 : v = .slice A n c := hv
  subst hv2
  have HS2 := Lib.hid hs2; clear hs2 hv
  go_wp2_with fail
  go_at_call 61
  refine (isLanePlace_b p true _ hp).mono ?_
  unfold lim
  rintro e w3 ⟨rfl, rfl⟩
  have HS3 := Lib.hid (HS2.out.alloc HS2.out.size (.cells #[.int .i64 0, .int .i64 100000] 97))
  go_wp2_with fail
  go_at_call 62
  refine (implAt_any A n c x p _ _ (HA.out.now HS3.out) (Nat.le_refl _) HX.out HL.out.1 HL.out.2.1 HL.out.2.2 hp1 (by omega)).mono ?_
  rintro e w3 ⟨r, rfl, hr, hs3⟩
  have HS4 := Lib.hid (since_step HS3.out hs3); clear hs3
  go_wp2
  go_ret2
  exact ⟨_, rfl, hr, HS4.out⟩
open Classical in
theorem specLaneAt_no (A : Option Addr) (n c : Nat) (x : Nat → PointR) (p : Int) (w : World) (h : Rs PointR.cells 2 w w.heap.size A n x) (hn : n ≤ 1048576) (hno : ¬ (laneOk x n ∧ inB p 0 100000 = true)) :
    Calls Try.prog 20 #[.slice A n c, .int .i64 p] w (PVB (some 0) false w) := by
  have HA := Lib.hid h; have HNO := Lib.hid hno
  have HQ := Lib.hid (fun b (hb : b = true ↔ laneOk x n) => specLane_b A n c x b _ _ h (Nat.le_refl _) hn hb)
  clear h hno
  by_cases hl : laneOk x n
  · have hp : inB p 0 100000 = false := by
      cases e : inB p 0 100000
      · rfl
      · exact absurd ⟨hl, e⟩ HNO.out
    have HQ1 := Lib.hid (HQ.out true ⟨fun _ => hl, fun _ => rfl⟩)
    clear hl
    go_enter Try.func20, Try.ntmps20
    go_wp2_with (first | (go_at_call 55; refine HQ1.out.mono ?_; rintro e w2 ⟨rfl, hs2⟩; have HS2 := Lib.hid hs2; clear hs2) | (go_at_call 59; refine (specHold_b p 0 100000 false _ hp).mono ?_; rintro e w3 ⟨rfl, rfl⟩))
    go_ret2
    exact ⟨0, rfl, fv0, HS2.out⟩
  · have HQ1 := Lib.hid (HQ.out false ⟨fun h => (by cases h), fun h => absurd h hl⟩)
    clear hl
    go_enter Try.func20, Try.ntmps20
    go_wp2_with (first | (go_at_call 55; refine HQ1.out.mono ?_; rintro e w2 ⟨rfl, hs2⟩; have HS2 := Lib.hid hs2; clear hs2))
    go_ret2
    exact ⟨0, rfl, fv0, HS2.out⟩
open Classical in
theorem implLaneAt_no (A : Option Addr) (n c : Nat) (x : Nat → PointR) (p : Int) (w : World) (h : Rs PointR.cells 2 w w.heap.size A n x) (hnc : n ≤ c) (hn : n ≤ 1048576) (hno : ¬ (laneOk x n ∧ inB p 0 100000 = true)) :
    Calls Try.prog 21 #[.slice A n c, .int .i64 p] w (PVB (some 0) false w) := by
  have HA := Lib.hid h; have HNO := Lib.hid hno
  have HQ := Lib.hid (fun b (hb : b = true ↔ laneOk x n) => laneOf_any A n c x b _ _ h (Nat.le_refl _) hnc hn hb)
  clear h hno
  by_cases hl : laneOk x n
  · have hp : inB p 0 100000 = false := by
      cases e : inB p 0 100000
      · rfl
      · exact absurd ⟨hl, e⟩ HNO.out
    have HQ1 := Lib.hid (HQ.out true ⟨fun _ => hl, fun _ => rfl⟩)
    clear hl
    go_enter Try.func21, Try.ntmps21
    go_wp2_with (first | (go_at_call 57; refine HQ1.out.mono ?_; rintro e w2 ⟨v, rfl, hv, hs2⟩; have HS2 := Lib.hid hs2; clear hs2 hv) | (go_at_call 61; refine (isLanePlace_b p false _ hp).mono ?_; unfold lim; rintro e w3 ⟨rfl, rfl⟩))
    go_ret2
    exact ⟨0, rfl, fv0, HS2.out.alloc HS2.out.size _⟩
  · have HQ1 := Lib.hid (HQ.out false ⟨fun h => (by cases h), fun h => absurd h hl⟩)
    clear hl
    go_enter Try.func21, Try.ntmps21
    go_wp2_with (first | (go_at_call 57; refine HQ1.out.mono ?_; rintro e w2 ⟨v, rfl, hv, hs2⟩; have HS2 := Lib.hid hs2; clear hs2 hv))
    go_ret2
    exact ⟨0, rfl, fv0, HS2.out⟩
open Classical in
theorem lawLaneAt_any (A0 : Option Addr) (n0 c0 : Nat) (x0 : Nat → PointR) (p : Int) (w : World)
    (h0 : Rs PointR.cells 2 w w.heap.size A0 n0 x0) (hk0 : ∀ k, k < n0 → (x0 k).wf) (hb0 : n0 ≤ 9223372036854775807) (hp : (Lit.int .i64 p).wf = true) :
    Calls Try.prog 4 #[.slice A0 n0 c0, .int .i64 p] w fun e w' => e = .returned (.bool true) ∧ w.Since w.heap.size w' := by
  by_cases h : 1048576 < n0
  · exact lawLaneAt_big A0 n0 c0 p w h hb0
  · have hn : n0 ≤ 1048576 := by omega
    by_cases ho : laneOk x0 n0 ∧ inB p 0 100000 = true
    · exact lawLaneAt_gen A0 n0 c0 x0 p _ _ w h0 hn (fun k hk => (hk0 k hk).1) (fun v b h => specLaneAt_ok _ _ _ _ _ _ h (fun k hk => (hk0 k hk).1) ho.1 ho.2) (fun v b h => implLaneAt_ok _ _ _ _ _ _ h (Nat.le_refl _) (fun k hk => (hk0 k hk).1) ho.1 ho.2)
    · exact lawLaneAt_gen A0 n0 c0 x0 p _ _ w h0 hn (fun k hk => (hk0 k hk).1) (fun v b h => specLaneAt_no _ _ _ _ _ _ h hn ho) (fun v b h => implLaneAt_no _ _ _ _ _ _ h (Nat.le_refl _) hn ho)
end Go.Proofs.Ytmdnalkfndoicaa

