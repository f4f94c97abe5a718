/- Joined: Mb Md Me Ta Ac Zc Zd Ze Zb Zf -/
import Derived.Test.YtbjhioolfighdaaMa
import Derived.Test.YtbjhioolfighdaaMc
import Derived.Test.YtbjhioolfighdaaSf
import Derived.Test.YtbjhioolfighdaaEa
import Derived.StillTailTactics
import Derived.Test.YtbjhioolfighdaaHb
import Derived.Laws.AppendOwnNone
import Derived.Test.YtbjhioolfighdaaEc
import Derived.Test.YtbjhioolfighdaaDm
import Derived.Test.YtbjhioolfighdaaDs
/- Lists of Tap as a law holds them. -/
set_option linter.unusedVariables false
set_option linter.unusedSimpArgs false
namespace Go.Proofs.Ytbjhioolfighdaa
open Fl Go.RowKit
structure TapR where
  b : Int
  g : Nat
def TapR.cells (x : TapR) : List Value := [.int .i64 x.b, .float .f32 x.g]
def TapR.val (x : TapR) : Value := .agg #[.int .i64 x.b, .float .f32 x.g]
def TapR.zero : TapR := ⟨0, 0⟩
def TapR.ok (x : TapR) : Prop := x.g < 4294967296
/-- the same but for bits of not-a-numbers -/
def TapR.same (x y : TapR) : Prop := x.b = y.b ∧ ab .f32 x.g = ab .f32 y.g
theorem TapR.same_refl (x : TapR) : x.same x := ⟨rfl, rfl⟩
set_option maxRecDepth 100000 in
theorem toTap_row (x : TapR) (w : World) : Calls Try.prog 39 #[x.val] w fun e w' => e = .returned x.val ∧ w.Since w.heap.size w' := by
  obtain ⟨x_b, x_g⟩ := x
  unfold TapR.val
  go_enter Try.func39, Try.ntmps39
  go_wp2
  exact bodyPost_ret (v := .agg #[.int .i64 x_b, .float .f32 x_g]) (by simp [results, Try.results39, go_sem]) rfl ⟨rfl, by (repeat (first | (with_reducible refine Fl.sinDrew ?_) | (with_reducible refine World.Since.drew ?_) | (with_reducible refine Fl.sinSet ?_ ?_; rotate_left) | (with_reducible refine Fl.sinAlloc ?_ ?_; rotate_left) | with_reducible exact World.Since.refl _ _ | with_reducible assumption | (with_reducible refine Fl.sinStep (by with_reducible assumption) ?_))); all_goals (first | omega | (simp; done) | (simp; omega) | (simp [go_sem]; done) | (simp [go_sem]; omega))⟩
set_option maxRecDepth 100000 in
set_option maxHeartbeats 2000000 in
theorem eqTap_row (x y : TapR) (w : World) (hx : x.ok) (hy : y.ok) (h : x.same y) : Calls Try.prog 48 #[x.val, y.val] w fun e w' => e = .returned (.bool true) ∧ w.Since w.heap.size w' := by
  obtain ⟨x_b, x_g⟩ := x
  obtain ⟨y_b, y_g⟩ := y
  unfold TapR.val
  have k_g := hx; have l_g := hy; clear hx hy
  obtain ⟨m_b, m_g⟩ := h
  simp only [TapR.ok] at *
  subst m_b
  have px_g : Hid (Fv .f32 x_g (ab .f32 x_g)) := Lib.hid ⟨k_g, rfl⟩
  have py_g : Hid (Fv .f32 y_g (ab .f32 x_g)) := Lib.hid ⟨l_g, m_g.symm⟩
  clear k_g l_g m_g
  go_enter Try.func48, Try.ntmps48
  go_wp2_with (first | (with_reducible_and_instances refine Lo.wpList_wi _ rfl _ _ _ rfl _ _ rfl (by kernel_rfl) (by kernel_rfl) (by assumption) ?_; intro rr nn hrr) | (go_at_call 34; refine (sameFloat_any _ _ _ _ (by assumption : Hid _) (by assumption : Hid _)).mono ?_; rintro e w' ⟨rfl, n1, rfl⟩))
  go_ret
  exact ⟨rfl, by (repeat (first | (with_reducible refine Fl.sinDrew ?_) | (with_reducible refine World.Since.drew ?_) | (with_reducible refine Fl.sinSet ?_ ?_; rotate_left) | (with_reducible refine Fl.sinAlloc ?_ ?_; rotate_left) | with_reducible exact World.Since.refl _ _ | with_reducible assumption | (with_reducible refine Fl.sinStep (by with_reducible assumption) ?_))); all_goals (first | omega | (simp; done) | (simp; omega) | (simp [go_sem]; done) | (simp [go_sem]; omega))⟩
theorem Try.infoTap : (Try.prog.info? 69).map (fun i => (i.zero, i.size, decide (i.bytes ≤ 1024))) = some (some (.agg #[.int .i64 0, .float .f32 0]), 2, true) := by kernel_rfl
set_option maxHeartbeats 4000000 in
set_option maxRecDepth 100000 in
theorem toTapS_any (A : Option Addr) (n c : Nat) (e : Nat → TapR) (W v : World) (h : Rs TapR.cells 2 W W.heap.size A n e) (s : W.Since W.heap.size v) (hn : n ≤ 1048576) :
    Calls Try.prog 19 #[.slice A n c] v fun r v' => r = .returned (.slice (some ⟨v.heap.size, 0, none⟩) n n) ∧ Ge v.heap.size v' (se TapR.cells 2 69 (some ⟨v.heap.size, 0, none⟩) n e) ∧ v.Since v.heap.size v' := by
  have H := Lib.hid (h.now s)
  clear h s
  obtain ⟨i0, hi, hzz⟩ := Option.map_eq_some_iff.1 Try.infoTap
  simp only [Prod.mk.injEq] at hzz
  obtain ⟨hz0, hz1, hz2⟩ := hzz
  have hby : i0.bytes ≤ 1024 := of_decide_eq_true hz2
  have hbn : (i0.bytes : Int) * (n : Int) ≤ 281474976710656 := by
    have : i0.bytes * n ≤ 1024 * 1048576 := Nat.mul_le_mul hby hn
    rw [← Int.natCast_mul]
    omega
  have hmk := fun (w : World) => run_make (P := Try.prog) w 43 69 i0 (.agg #[.int .i64 0, .float .f32 0]) Try.underlying43 hi hz0 .i64 .i64 (n : Int) (n : Int) (by omega) (Int.le_refl _) hbn (by omega)
  simp only [Int.toNat_natCast, hz1] at hmk
  have hzc : (Value.agg #[.int .i64 0, .float .f32 0]).cells = #[.int .i64 0, .float .f32 0] := by rfl
  rw [hzc] at hmk
  have hzero : (TapR.cells TapR.zero).toArray = #[.int .i64 0, .float .f32 0] := rfl
  have hmd := Lib.hid (GF.made (cells := TapR.cells) (s := 2) v 69 #[.int .i64 0, .float .f32 0] TapR.zero n hzero rfl (by decide))
  clear hi hz0 hz1 hz2 hby hbn hzc hzero
  go_enter Try.func19, Try.ntmps19
  go_wp2
  go_loopw [4] (fun i wr => ∃ k : Nat, k ≤ n ∧ i = .int .i64 (k : Nat) ∧ GF wr v.heap.size 69 (n * 2) (ceL TapR.cells 2 fun i => if i < k then e i else TapR.zero) ∧ v.Since v.heap.size wr) (fun i _ => n - (intOf i).toNat)
  case atStart => exact ⟨0, Nat.zero_le _, rfl, hmd.out, (World.Since.refl _ _).alloc (Nat.le_refl _) _⟩
  case round =>
    obtain ⟨k, hk, rfl, hg, hs⟩ := hrel
    have HG := Lib.hid hg; have HS := Lib.hid hs
    clear hg hs hmd
    by_cases hlt : k < n
    · obtain ⟨g, off, rfl, hgl, hc⟩ := H.out.at_ hlt
      have HTO := Lib.hid (toTap_row (e k))
      have HE := Lib.hid (show ∀ j, j < n * 2 → ceL TapR.cells 2 (fun i => if i < k + 1 then e i else TapR.zero) j = if k * 2 ≤ j ∧ j < k * 2 + 2 then ((e k).cells).getD (j - k * 2) undef else ceL TapR.cells 2 (fun i => if i < k then e i else TapR.zero) j from fun j hj => by
        rw [← ceL_upd _ k (e k) (by decide) j]
        congr 1
        funext i
        unfold upd
        by_cases h1 : i = k
        · subst h1; rw [if_pos (by omega), if_pos rfl]
        · rw [if_neg h1]
          by_cases h2 : i < k
          · rw [if_pos (by omega)]; simp only [if_pos h2]
          · rw [if_neg (by omega)]; simp only [if_neg h2])
      have hc0 := (HS.out.cell (a := ⟨g, off + k * 2 + 0, none⟩) hgl).trans (hc 0 (by decide))
      have hc1 := (HS.out.cell (a := ⟨g, off + k * 2 + 1, none⟩) hgl).trans (hc 1 (by decide))
      have hkk : k * 2 + 2 ≤ n * 2 := by omega
      generalize e k = y at *
      obtain ⟨y_b, y_g⟩ := y
      simp only [TapR.cells, TapR.val, List.getD_cons_zero, List.getD_cons_succ, Nat.add_zero] at hc0 hc1 HTO HE
      clear hc
      go_wp2_with fail
      refine (HTO.out _).mono ?_
      rintro r w2 ⟨rfl, hs2⟩
      have HG2 := Lib.hid (HG.out.of (hs2.block _ HG.out.lt))
      have HS2 := Lib.hid (since_step HS.out hs2)
      clear hs2 HG hc0 hc1
      have hd0 := HG2.out.cell (j := k * 2 + 0) (by omega)
      have hf0 := HG2.out.free (k * 2 + 0)
      have hd1 := HG2.out.cell (j := k * 2 + 1) (by omega)
      have hf1 := HG2.out.free (k * 2 + 1)
      simp only [Nat.add_zero] at hd0 hf0 hd1 hf1
      generalize ceL TapR.cells 2 (fun i => if i < k then e i else TapR.zero) (k * 2) = u0q at hd0
      generalize ceL TapR.cells 2 (fun i => if i < k then e i else TapR.zero) (k * 2 + 1) = u1q at hd1
      go_wp2
      go_roundw
      case rel =>
        refine ⟨k + 1, by omega, by go_num, ?_, (HS2.out.setCell (Nat.le_refl _) _).setCell (Nat.le_refl _) _⟩
        refine ((HG2.out.set (k * 2) _).set (k * 2 + 1) _).congr (fun j hj => ?_)
        rw [HE.out j hj]
        by_cases h : k * 2 ≤ j ∧ j < k * 2 + 2
        · rw [if_pos h]
          obtain rfl | rfl : j = k * 2 + 0 ∨ j = k * 2 + 1 := by omega
          all_goals simp
        · rw [if_neg h, if_neg (by omega), if_neg (by omega)]
      case measure => simp [intOf]; omega
    · obtain rfl : k = n := by omega
      go_wp2
      go_ret
      refine ⟨rfl, GF.entry (HG.out.congr fun j hj => ?_) (Nat.le_refl _), HS.out⟩
      unfold ceL
      dsimp only
      rw [if_pos (Nat.div_lt_of_lt_mul (by rw [Nat.mul_comm]; exact hj))]
theorem szTapS_any (A : Option Addr) (n c : Nat) (w : World) (hn : n ≤ 1048576) : Calls Try.prog 17 #[.slice A n c, .int .i64 1048576] w fun r w' => r = .returned (.int .i64 (1048576 - (n : Int))) ∧ w = w' := by
  go_enter Try.func17, Try.ntmps17
  go_wp2
  go_ret
  exact ⟨rfl, rfl⟩
theorem szTapS_big (A : Option Addr) (n c : Nat) (w : World) (hn : 1048576 < n) (hn2 : n ≤ 9223372036854775807) : Calls Try.prog 17 #[.slice A n c, .int .i64 1048576] w fun r w' => r = .returned (.int .i64 (-1)) ∧ w = w' := by
  go_enter Try.func17, Try.ntmps17
  go_wp2
  go_ret
  exact ⟨rfl, rfl⟩
set_option maxHeartbeats 4000000 in
set_option maxRecDepth 100000 in
theorem eqTapS_any (A C : Option Addr) (n c d : Nat) (e f : Nat → TapR) (w : World) (B : Nat) (hB : B ≤ w.heap.size) (ha : Rs TapR.cells 2 w B A n e) (hc : Rs TapR.cells 2 w B C n f) (hn : n ≤ 1048576) (he : ∀ k, k < n → (e k).ok ∧ (f k).ok ∧ (e k).same (f k)) :
    Calls Try.prog 21 #[.slice A n c, .slice C n d] w fun r w' => r = .returned (.bool true) ∧ w.Since w.heap.size w' := by
  have HA := Lib.hid ha; have HC := Lib.hid hc; have HE := Lib.hid he
  clear ha hc he
  go_enter Try.func21, Try.ntmps21
  go_wp2
  go_loopw [5] (fun i wr => ∃ k : Nat, k ≤ n ∧ i = .int .i64 (k : Nat) ∧ w.Since w.heap.size wr) (fun i _ => n - (intOf i).toNat)
  case atStart => exact ⟨0, Nat.zero_le _, rfl, World.Since.refl _ _⟩
  case round =>
    obtain ⟨k, hk, rfl, hs⟩ := hrel
    have HS := Lib.hid hs
    clear hs
    by_cases hlt : k < n
    · obtain ⟨g, off, rfl, hgl, hc1⟩ := HA.out.range hlt (by rfl)
      obtain ⟨g2, off2, rfl, hgl2, hc2⟩ := HC.out.range hlt (by rfl)
      have HEQ := Lib.hid (fun W => eqTap_row (e k) (f k) W (HE.out k hlt).1 (HE.out k hlt).2.1 (HE.out k hlt).2.2)
      have R1 := Lib.hid (Lo.range_since hc1 HS.out (by omega))
      have R2 := Lib.hid (Lo.range_since hc2 HS.out (by omega))
      have hz := HS.out.size
      generalize e k = x at *
      generalize f k = y at *
      obtain ⟨x_b, x_g⟩ := x
      obtain ⟨y_b, y_g⟩ := y
      simp only [TapR.cells, TapR.val] at R1 R2 HEQ
      clear hc1 hc2
      go_wp2_with fail
      refine Lo.wp_looseG_all [] (by kernel_rfl) (by kernel_rfl) ?_
      repeat (first
        | (refine Lo.wpL_loadRow rfl 69 _ rfl (by decide) g (off + k * 2) rfl [.int .i64 x_b, .float .f32 x_g] _ Try.underlying69 rfl (by kernel_rfl) (fun v ⟨hs, dd, hv⟩ => hv ▸ Lo.range_since R1.out (Lo.mkW_since _ hs dd) (by omega)) ?_; simp only [Act.put, List.setIfInBounds_toArray, List.set_cons_succ, List.set_cons_zero])
        | (refine Lo.wpL_loadRow rfl 69 _ rfl (by decide) g2 (off2 + k * 2) rfl [.int .i64 y_b, .float .f32 y_g] _ Try.underlying69 rfl (by kernel_rfl) (fun v ⟨hs, dd, hv⟩ => hv ▸ Lo.range_since R2.out (Lo.mkW_since _ hs dd) (by omega)) ?_; simp only [Act.put, List.setIfInBounds_toArray, List.set_cons_succ, List.set_cons_zero])
        | (refine Lo.wpG_callQ rfl 48 [.tmp _, .tmp _] [.agg #[.int .i64 x_b, .float .f32 x_g], .agg #[.int .i64 y_b, .float .f32 y_g]] _ rfl (by decide) (callsEnter 48 Try.f48 _ (by kernel_rfl) (by kernel_rfl) rfl) rfl (.bool true) (fun v hv => (HEQ.out v).mono fun e v2 ⟨h1, h2⟩ => ⟨h1, Lo.mkW_mkW hv h2⟩) ?_; simp only [Act.put, List.setIfInBounds_toArray, List.set_cons_succ, List.set_cons_zero])
        | (refine Lo.wpL_move rfl _ (.inl rfl) (by decide) ?_; simp only [Act.put, List.setIfInBounds_toArray, List.set_cons_succ, List.set_cons_zero])
        | (refine Lo.wpL_move rfl _ (.inr rfl) (by decide) ?_; simp only [Act.put, List.setIfInBounds_toArray, List.set_cons_succ, List.set_cons_zero])
        | (refine Lo.wpG_fop (fun _ m h => Lo.drewG m h) rfl _ _ _ _ rfl rfl (by decide) _ _ _ _ _ rfl rfl (by assumption) (by assumption) ?_; intro rr hrr; simp only [Act.put, List.setIfInBounds_toArray, List.set_cons_succ, List.set_cons_zero])
        | (refine Lo.wpL_quiet rfl (by decide) (fun K hK => ?_); go_big_quiet_op; first | (refine hK _ ?_; clear hK K) | (refine ⟨_, fun _ _ _ _ => rfl, hK _ ?_⟩; clear hK K)))
      refine Lo.wpL_nil ?_; intro hsG dG
      refine Lo.after_nil ?_; intro nq
      generalize hwG : Lo.mkW _ hsG dG = wG
      replace hwG := Lo.sinceG hwG
      clear hsG dG
      go_wp2
      go_roundw
      case rel => exact ⟨k + 1, by omega, by go_num, since_step HS.out hwG⟩
      case measure => simp [intOf]; omega
    · go_wp2
      go_ret
      exact ⟨rfl, HS.out⟩
def TapR.wf (x : TapR) : Prop := x.ok ∧ (Lit.int .i64 x.b).wf = true
section
open Go.ChangeShapes Go.WideShapes Go.Deep
variable {H : Type} {enc : TypeId × Value → H} {P : Program} {w : World} {base : Nat}
theorem openTap_row {t : TypeId} {f0 f1 : Field} (hs : P.underlying t = some (.struct #[f0, f1])) (hone : oneCellFields P #[f0, f1] = true) (hC : P.cellsOf t = 2) (h0 : P.underlying f0.type = some (.int .i64)) (h1 : P.underlying f1.type = some (.float .f32))
    (fuel : Nat) (cs : List Value) (x : DataW H × List MemPlace) (h : DataW.trod enc P w base (fun _ => true) true fuel t cs = some x) : ∃ y : TapR, y.wf ∧ y.cells = cs := by
  obtain ⟨hl, hc⟩ := row_cells hs hone hC h
  obtain ⟨c0, y0, n0, e0, t0⟩ := hc 0 f0 rfl
  obtain ⟨x0, hx0, w0⟩ := trod_int h0 t0
  injection hx0 with hx0 _; subst hx0
  obtain ⟨c1, y1, n1, e1, t1⟩ := hc 1 f1 rfl
  obtain ⟨x1, hx1, w1⟩ := trod_fl h1 t1
  injection hx1 with hx1 _; subst hx1
  refine ⟨⟨x0, x1⟩, ⟨wf_f32 w1, w0⟩, ?_⟩
  unfold TapR.cells
  match cs, hl with
  | [d0, d1], _ =>
    have g0 : d0 = _ := Option.some.inj e0
    have g1 : d1 = _ := Option.some.inj e1
    rw [g0, g1]
end
/-- what a mark leaves -/
def TapR.mkd (k0 : Nat) (i : Nat) : TapR := ⟨((k0 + i * 2 + 0 : Nat) : Int), floatOfInt .f32 ((k0 + i * 2 + 1 : Nat) : Int)⟩
set_option maxHeartbeats 4000000 in
set_option maxRecDepth 100000 in
theorem markTapS_any (g n : Nat) (e : Nat → TapR) (c k0 : Nat) (K : Int) (v : World) (B : Nat) (r : List En) (h : He B v (se TapR.cells 2 69 (some ⟨g, 0, none⟩) n e :: r)) (hn : n ≤ 1048576) (hk0 : k0 ≤ 1073741824) (hK : K = (k0 : Nat)) :
    Calls Try.prog 22 #[.slice (some ⟨g, 0, none⟩) n c, .int .i64 K] v fun r1 v' => r1 = .returned (.int .i64 ((k0 + n * 2 : Nat) : Int)) ∧ He B v' (se TapR.cells 2 69 (some ⟨g, 0, none⟩) n (TapR.mkd k0) :: r) ∧ v.Since B v' := by
  subst hK
  have HH := Lib.hid h
  by_cases hpos : 0 < n
  · obtain ⟨g1, off1, cs1, e1, hg, hgl, hb, hc⟩ := h.1.1.ce (Nat.mul_pos hpos (by decide))
    injection e1 with e1; injection e1 with e1 e2 _; subst e1; subst e2
    have HG0 : Hid (GF v g 69 (n * 2) (ceL TapR.cells 2 e)) := Lib.hid ⟨cs1, hb, fun j hj => by have := hc j hj; rwa [Nat.zero_add] at this⟩
    clear hb hc h
    go_enter Try.func22, Try.ntmps22
    go_wp2
    go_loopw [1, 5] (fun kv i wr => ∃ k : Nat, k ≤ n ∧ i = .int .i64 (k : Nat) ∧ kv = .int .i64 ((k0 + k * 2 : Nat) : Int) ∧ GF wr g 69 (n * 2) (ceL TapR.cells 2 fun i => if i < k then TapR.mkd k0 i else e i) ∧ v.Since B wr ∧ wr.heap.size = v.heap.size ∧ (∀ b, b ≠ g → wr.heap[b]? = v.heap[b]?)) (fun _ i _ => n - (intOf i).toNat)
    case atStart => exact ⟨0, Nat.zero_le _, rfl, by simp, HG0.out.congr (fun j hj => by unfold ceL; simp), World.Since.refl _ _, rfl, fun _ _ => rfl⟩
    case round =>
      obtain ⟨k, hk, rfl, rfl, hgf, hs, hsz, hoth⟩ := hrel
      have HG2 := Lib.hid hgf; have HS := Lib.hid hs; have HZ := Lib.hid hsz; have HO := Lib.hid hoth
      clear hgf hs hsz hoth HG0
      by_cases hlt : k < n
      · have HE := Lib.hid (show ∀ j, j < n * 2 → ceL TapR.cells 2 (fun i => if i < k + 1 then TapR.mkd k0 i else e i) j = if k * 2 ≤ j ∧ j < k * 2 + 2 then ((TapR.mkd k0 k).cells).getD (j - k * 2) undef else ceL TapR.cells 2 (fun i => if i < k then TapR.mkd k0 i else e i) j from fun j hj => by
          rw [← ceL_upd _ k (TapR.mkd k0 k) (by decide) j]
          congr 1
          funext i
          unfold upd
          by_cases h1 : i = k
          · subst h1; rw [if_pos (by omega), if_pos rfl]
          · rw [if_neg h1]
            by_cases h2 : i < k
            · rw [if_pos (by omega)]; simp only [if_pos h2]
            · rw [if_neg (by omega)]; simp only [if_neg h2])
        have hkk : k * 2 + 2 ≤ n * 2 := by omega
        have hsp : Hid (∀ B', B' ≤ g → True) := Lib.hid fun _ _ => trivial
        have hd0 := HG2.out.cell (j := k * 2 + 0) (by omega)
        have hf0 := HG2.out.free (k * 2 + 0)
        have hd1 := HG2.out.cell (j := k * 2 + 1) (by omega)
        have hf1 := HG2.out.free (k * 2 + 1)
        simp only [Nat.add_zero] at hd0 hf0 hd1 hf1
        generalize ceL TapR.cells 2 (fun i => if i < k then TapR.mkd k0 i else e i) (k * 2) = u0q at hd0
        generalize ceL TapR.cells 2 (fun i => if i < k then TapR.mkd k0 i else e i) (k * 2 + 1) = u1q at hd1
        go_wp2
        go_roundw
        case rel =>
          refine ⟨k + 1, by omega, by go_num, by go_num, ?_, (HS.out.setCell hg _).setCell hg _, by simp only [Go.Deep.nblk_setCell]; exact HZ.out, fun b hb => ?_⟩
          · refine ((HG2.out.set (k * 2) _).set (k * 2 + 1) _).congr (fun j hj => ?_)
            rw [HE.out j hj]
            by_cases h : k * 2 ≤ j ∧ j < k * 2 + 2
            · rw [if_pos h]
              obtain rfl | rfl : j = k * 2 + 0 ∨ j = k * 2 + 1 := by omega
              all_goals simp [TapR.cells, TapR.mkd, Nat.add_assoc, Int.add_assoc]
            · rw [if_neg h, if_neg (by omega), if_neg (by omega)]
          · rw [Go.Deep.blk_setCell_other _ _ _ _ hb]; rw [Go.Deep.blk_setCell_other _ _ _ _ hb]; exact HO.out b hb
        case measure => simp [intOf]; omega
      · obtain rfl : k = n := by omega
        go_wp2
        go_ret
        refine ⟨rfl, HH.out.mark_hd (GF.entry (HG2.out.congr fun j hj => ?_) hg) rfl (fun b hb => HO.out b fun e => hb ⟨Nat.mul_pos hpos (by decide), 0, by rw [e]⟩) (by rw [HZ.out]; exact Nat.le_refl _), HS.out⟩
        unfold ceL
        dsimp only
        rw [if_pos (Nat.div_lt_of_lt_mul (by rw [Nat.mul_comm]; exact hj))]
  · obtain rfl : n = 0 := by omega
    clear h
    go_enter Try.func22, Try.ntmps22
    go_wp2
    go_loopw [1, 5] (fun kv i wr => i = .int .i64 0 ∧ kv = .int .i64 k0 ∧ wr = v) (fun _ _ _ => 0)
    case atStart => exact ⟨rfl, rfl, rfl⟩
    case round =>
      obtain ⟨rfl, rfl, rfl⟩ := hrel
      go_wp2
      go_ret
      exact ⟨by simp, HH.out.mark_hd (ce_ge trivial (fun h => by omega)) (funext fun g => by simp [se, ce]) (fun _ _ => rfl) (Nat.le_refl _), World.Since.refl _ _⟩
end Go.Proofs.Ytbjhioolfighdaa

/- Walks of laws whose results are lists. -/
set_option linter.unusedVariables false
set_option linter.unusedSimpArgs false
namespace Go.Proofs.Ytbjhioolfighdaa
open Fl Go.RowKit
end Go.Proofs.Ytbjhioolfighdaa

/- ValidTaps, of the model and of the program. -/
set_option linter.unusedVariables false
set_option linter.unusedSimpArgs false
namespace Go.Proofs.Ytbjhioolfighdaa
open Fl Go.RowKit
/-- the first k taps are in their limits -/
def tapsOk (x : Nat → TapR) (k : Nat) : Prop := ∀ j, j < k → 0 ≤ (x j).b ∧ (x j).b ≤ 64
theorem specIn_bt (l a b : Int) (bb : Bool) (w : World) (h : (decide (a ≤ l) && decide (l ≤ b)) = bb) : Calls Try.prog 49 #[.int .i64 l, .int .i64 a, .int .i64 b] w fun e w' => e = .returned (.bool bb) ∧ w = w' := by
  subst h
  cases h1 : decide (a ≤ l)
  · go_enter Try.func49, Try.ntmps49
    go_wp2
    go_ret
    exact ⟨rfl, rfl⟩
  · go_enter Try.func49, Try.ntmps49
    go_wp2
    go_ret
    exact ⟨rfl, rfl⟩
theorem tapClos_b (b : Int) (g : Nat) (bb : Bool) (w : World) (h : (decide (0 ≤ b) && decide (b ≤ 64)) = bb) : Calls Try.prog 62 #[.agg #[.int .i64 b, .float .f32 g]] w fun e w' => e = .returned (.bool bb) ∧ w.Since w.heap.size w' := by
  subst h
  cases h1 : decide (0 ≤ b)
  · go_enter Try.func62, Try.ntmps62
    go_wp2
    go_ret
    exact ⟨rfl, by (repeat (first | (with_reducible refine Fl.sinDrew ?_) | (with_reducible refine World.Since.drew ?_) | (with_reducible refine Fl.sinSet ?_ ?_; rotate_left) | (with_reducible refine Fl.sinAlloc ?_ ?_; rotate_left) | with_reducible exact World.Since.refl _ _ | with_reducible assumption | (with_reducible refine Fl.sinStep (by with_reducible assumption) ?_))); all_goals (first | omega | (simp; done) | (simp; omega) | (simp [go_sem]; done) | (simp [go_sem]; omega))⟩
  · go_enter Try.func62, Try.ntmps62
    go_wp2
    go_ret
    exact ⟨rfl, by (repeat (first | (with_reducible refine Fl.sinDrew ?_) | (with_reducible refine World.Since.drew ?_) | (with_reducible refine Fl.sinSet ?_ ?_; rotate_left) | (with_reducible refine Fl.sinAlloc ?_ ?_; rotate_left) | with_reducible exact World.Since.refl _ _ | with_reducible assumption | (with_reducible refine Fl.sinStep (by with_reducible assumption) ?_))); all_goals (first | omega | (simp; done) | (simp; omega) | (simp [go_sem]; done) | (simp [go_sem]; omega))⟩
set_option maxHeartbeats 2000000 in
set_option maxRecDepth 100000 in
theorem specTaps_b (A : Option Addr) (n c : Nat) (x : Nat → TapR) (r : Bool) (w : World) (B : Nat) (h : Rs TapR.cells 2 w B A n x) (hB : B ≤ w.heap.size) (hn : n ≤ 1048576) (hr : r = true ↔ tapsOk x n ∧ n ≤ 8) :
    Calls Try.prog 38 #[.slice A n c] w fun e w' => e = .returned (.bool r) ∧ w.Since w.heap.size w' := by
  have HA := Lib.hid h; have HR := Lib.hid hr
  clear h hr
  go_enter Try.func38, Try.ntmps38
  go_wp2
  go_loopw [6] (fun i wr => ∃ k : Nat, k ≤ n ∧ i = .int .i64 k ∧ tapsOk x k ∧ w.Since w.heap.size wr) (fun i _ => n - (intOf i).toNat)
  case atStart => exact ⟨0, Nat.zero_le _, rfl, (fun j hj => by omega), World.Since.refl _ _⟩
  case round =>
    obtain ⟨k, hk, rfl, hz, hs⟩ := hrel
    have HZ := Lib.hid hz; have HS := Lib.hid hs
    clear hz hs
    by_cases hlt : k < n
    · obtain ⟨g, off, rfl, hg, hc⟩ := HA.out.at_ hlt
      have hcell : wr.cell? ⟨g, off + k * 2 + 0, none⟩ = some (.int .i64 (x k).b) := (HS.out.cell (a := ⟨g, off + k * 2 + 0, none⟩) (by show g < _; omega)).trans (hc 0 (by decide))
      simp only [Nat.add_zero] at hcell
      clear hc
      cases ho : decide (0 ≤ (x k).b) && decide ((x k).b ≤ 64)
      · have h6 : r = false := by
          cases h6 : r
          · rfl
          · have h7 := (HR.out.1 h6).1 k hlt
            rw [decide_eq_true h7.1, decide_eq_true h7.2] at ho; cases ho
        subst h6
        go_wp2_with (first | (go_at_call 49; refine (specIn_bt _ 0 64 false _ ho).mono ?_; rintro e w2 ⟨rfl, rfl⟩))
        go_ret
        exact ⟨rfl, HS.out⟩
      · have HO := Lib.hid ho
        go_wp2_with (first | (go_at_call 49; refine (specIn_bt _ 0 64 true _ ho).mono ?_; rintro e w2 ⟨rfl, rfl⟩))
        go_roundw
        case rel =>
          refine ⟨k + 1, by omega, by go_num, fun j hj => ?_, HS.out⟩
          by_cases e : j = k
          · subst e
            have h8 := HO.out
            rw [Bool.and_eq_true] at h8
            exact ⟨of_decide_eq_true h8.1, of_decide_eq_true h8.2⟩
          · exact HZ.out j (by omega)
        case measure => simp [intOf]; omega
    · obtain rfl : k = n := by omega
      cases h3 : decide ((k : Int) ≤ 8)
      · have h5 : r = false := by
          cases h6 : r
          · rfl
          · exact absurd (HR.out.1 h6).2 (by have := of_decide_eq_false h3; omega)
        subst h5
        clear HR
        go_wp2
        go_ret
        exact ⟨rfl, HS.out⟩
      · have h5 := HR.out.2 ⟨HZ.out, by have := of_decide_eq_true h3; omega⟩
        subst h5
        clear HR
        go_wp2
        go_ret
        exact ⟨rfl, HS.out⟩
set_option maxHeartbeats 2000000 in
set_option maxRecDepth 100000 in
theorem allTaps_any (A : Option Addr) (n c : Nat) (x : Nat → TapR) (r : Bool) (w : World) (B : Nat) (h : Rs TapR.cells 2 w B A n x) (hB : B ≤ w.heap.size) (hn : n ≤ 1048576) (hr : r = true ↔ tapsOk x n) :
    Calls Try.prog 61 #[.slice A n c, .func (.func 62) #[] #[]] w fun e w' => e = .returned (.bool r) ∧ w.Since w.heap.size w' := by
  have HA := Lib.hid h; have HR := Lib.hid hr
  clear h hr
  go_enter Try.func61, Try.ntmps61
  go_wp2
  go_loopw [9] (fun i wr => ∃ k : Nat, k ≤ n ∧ i = .int .i64 k ∧ tapsOk x k ∧ w.Since w.heap.size wr) (fun i _ => n - (intOf i).toNat)
  case atStart => exact ⟨0, Nat.zero_le _, rfl, (fun j hj => by omega), World.Since.refl _ _⟩
  case round =>
    obtain ⟨k, hk, rfl, hz, hs⟩ := hrel
    have HZ := Lib.hid hz; have HS := Lib.hid hs
    clear hz hs
    by_cases hlt : k < n
    · obtain ⟨g, off, rfl, hg, hc⟩ := HA.out.at_ hlt
      have hc0 := (HS.out.cell (a := ⟨g, off + k * 2 + 0, none⟩) (by show g < _; omega)).trans (hc 0 (by decide))
      have hc1 := (HS.out.cell (a := ⟨g, off + k * 2 + 1, none⟩) (by show g < _; omega)).trans (hc 1 (by decide))
      simp only [TapR.cells, List.getD_cons_zero, List.getD_cons_succ, Nat.add_zero] at hc0 hc1
      clear hc
      cases ho : decide (0 ≤ (x k).b) && decide ((x k).b ≤ 64)
      · have h6 : r = false := by
          cases h6 : r
          · rfl
          · have h7 := HR.out.1 h6 k hlt
            rw [decide_eq_true h7.1, decide_eq_true h7.2] at ho; cases ho
        subst h6
        go_wp2_with fail
        refine (tapClos_b _ _ false _ ho).mono ?_; rintro e w2 ⟨rfl, hs2⟩
        have HS2 := Lib.hid (since_step (HS.out.alloc HS.out.size _) hs2); clear hs2
        go_wp2
        go_ret
        exact ⟨rfl, HS2.out⟩
      · have HO := Lib.hid ho
        go_wp2_with fail
        refine (tapClos_b _ _ true _ ho).mono ?_; rintro e w2 ⟨rfl, hs2⟩
        have HS2 := Lib.hid (since_step (HS.out.alloc HS.out.size _) hs2); clear hs2
        go_wp2
        go_roundw
        case rel =>
          refine ⟨k + 1, by omega, by go_num, fun j hj => ?_, HS2.out⟩
          by_cases e : j = k
          · subst e
            have h8 := HO.out
            rw [Bool.and_eq_true] at h8
            exact ⟨of_decide_eq_true h8.1, of_decide_eq_true h8.2⟩
          · exact HZ.out j (by omega)
        case measure => simp [intOf]; omega
    · obtain rfl : k = n := by omega
      have h5 := HR.out.2 HZ.out
      subst h5
      clear HR
      go_wp2
      go_ret
      exact ⟨rfl, HS.out⟩
theorem implValidTaps_b (A : Option Addr) (n c : Nat) (x : Nat → TapR) (r : Bool) (w : World) (h : Rs TapR.cells 2 w w.heap.size A n x) (hn : n ≤ 1048576) (hr : r = true ↔ tapsOk x n ∧ n ≤ 8) :
    Calls Try.prog 40 #[.slice A n c] w (PB r w) := by
  unfold PB
  have HA := Lib.hid h; have HR := Lib.hid hr
  clear h hr
  cases h3 : decide ((n : Int) ≤ 8)
  · have h5 : r = false := by
      cases h6 : r
      · rfl
      · exact absurd (HR.out.1 h6).2 (by have := of_decide_eq_false h3; omega)
    subst h5
    clear HR
    go_enter Try.func40, Try.ntmps40
    go_wp2
    go_ret
    exact ⟨rfl, by (repeat (first | (with_reducible refine Fl.sinDrew ?_) | (with_reducible refine World.Since.drew ?_) | (with_reducible refine Fl.sinSet ?_ ?_; rotate_left) | (with_reducible refine Fl.sinAlloc ?_ ?_; rotate_left) | with_reducible exact World.Since.refl _ _ | with_reducible assumption | (with_reducible refine Fl.sinStep (by with_reducible assumption) ?_))); all_goals (first | omega | (simp; done) | (simp; omega) | (simp [go_sem]; done) | (simp [go_sem]; omega))⟩
  · have h5 : Hid (r = true ↔ tapsOk x n) := Lib.hid (HR.out.trans ⟨fun h => h.1, fun h => ⟨h, by have := of_decide_eq_true h3; omega⟩⟩)
    clear HR
    go_enter Try.func40, Try.ntmps40
    go_wp2_with (go_at_call 61; refine (allTaps_any A n c x r _ _ HA.out (Nat.le_refl _) hn h5.out).mono ?_; rintro e w2 ⟨rfl, hs⟩)
    go_ret
    exact ⟨rfl, hs⟩
end Go.Proofs.Ytbjhioolfighdaa

/- Folds: rows of floats that whole lists are appended to; the model's fold. -/
set_option linter.unusedVariables false
set_option linter.unusedSimpArgs false
namespace Go.Proofs.Ytbjhioolfighdaa
open Fl Go.RowKit
theorem fvl_app (xs ys : List Nat) : fvl xs ++ fvl ys = fvl (xs ++ ys) := by unfold fvl; simp
theorem wd_app (xs ys : List Nat) (j : Nat) : wd (xs ++ ys) j = if j < xs.length then wd xs j else wd ys (j - xs.length) := by
  unfold wd
  split
  · next h => simp [List.getD_eq_getElem?_getD, List.getElem?_append_left h]
  · next h => simp [List.getD_eq_getElem?_getD, List.getElem?_append_right (Nat.le_of_not_lt h)]
set_option maxRecDepth 100000 in
theorem wpList_appN {ops : Array Oper} {rest : List Oper} {o : Oper} {a : Act} {Q : Exit → Act → World → Prop} {w : World} (hgd : o.guard = none) (s x : Operand)
    (ho : o.op = .call { callee := .builtin .append, args := #[s, x], argTypes := #[25, 25] }) (lo : Nat) (v : Value) (k : Nat) (F : Nat → O) (hs : a.eval s = v) (A : Option Addr) (m c : Nat) (xs : List Nat) (B : Nat)
    (hx : a.eval x = .slice A m c) (hnone : A = none → m = 0 ∧ c = 0) (hA : Hid (Fs w B A m xs)) (hF : ∀ j, j < m → F (k + j) = ab .f32 (wd xs j)) (hk : k + m ≤ 1048576) (hlo : lo ≤ w.heap.size) (hR : Rw lo w v k F)
    (h : ∀ v' w', Hid (Rw lo w' v' (k + m) F) → Hid (w.Since lo w') → wpList Try.prog ops Q rest (a.put o.dst v') w') : wpList Try.prog ops Q (o :: rest) a w := by
  obtain ⟨os, h1, h2, h3⟩ := hR
  obtain ⟨i0, hi, hz0, hz1, hz2⟩ := info_parts Try.infoF
  have HA := hA.out
  cases A with
  | none =>
    obtain ⟨rfl, rfl⟩ := hnone rfl
    exact wpList_append_own_none (P := Try.prog) hgd s x 25 ho lo 22 i0 1 Try.underlying25 hi v k (fvl os) (by rw [hs]) h1 hx (h v w (Lib.hid ⟨os, h1, h2, h3⟩) (Lib.hid (World.Since.refl _ _)))
  | some ad =>
  refine wpList_append_own (P := Try.prog) w hgd s x 25 ho lo 22 i0 (.float .f32 0) 1 4 Try.underlying25 hi hz0 hz1 hz2 rfl (by omega) v k (fvl os) hs h1 ad m c (fvl xs) hx ?_ ?_ ?_ ?_ ?_ hlo ?_
  · rw [fvl, List.length_map, HA.1, Nat.mul_one]
  · intro j u hj
    have hlt : j < m := by
      have := (List.getElem?_eq_some_iff.1 hj).1
      rw [fvl, List.length_map, HA.1] at this; exact this
    obtain ⟨g, off, e, _, hc⟩ := HA.2.2 (by omega)
    injection e with e
    subst e
    have := hc j hlt
    rw [show (Addr.mk g off none).add j = ⟨g, off + j, none⟩ by simp [Addr.add], this]
    rw [← hj]
    unfold fvl fv wd
    simp [List.getD_eq_getElem?_getD, List.getElem?_eq_getElem (show j < xs.length by rw [HA.1]; exact hlt)]
  · intro u hu
    obtain ⟨x, _, rfl⟩ := List.mem_map.1 hu
    rfl
  · unfold maxLen; omega
  · omega
  · intro v' w' hown hg _
    have hyl : os.length = k := by simpa [fvl] using h1.1
    refine h v' w' (Lib.hid ⟨os ++ xs, ?_, fun x hx => ?_, fun j hj => ?_⟩) (Lib.hid ⟨hg.os, hg.tape, hg.output, hg.size, fun i hi => ?_⟩)
    · rw [← fvl_app]; exact hown
    · rcases List.mem_append.1 hx with h4 | h4
      · exact h2 x h4
      · exact HA.2.1 x h4
    · rw [wd_app, hyl]
      by_cases e : j < k
      · rw [if_pos e]; exact h3 j e
      · rw [if_neg e, ← hF (j - k) (by omega)]; congr 1; omega
    · refine hg.block i (by omega) fun e => ?_
      have := own_lo h1 i e.symm
      omega
theorem Rw.end_ {lo : Nat} {w : World} {v : Value} {k : Nat} {F : Nat → O} (h : Rw lo w v k F) : ∃ (A : Option Addr) (c : Nat) (xs : List Nat), v = .slice A k c ∧ k ≤ c ∧ (A = none → k = 0 ∧ c = 0) ∧ (∀ a, A = some a → ∃ g, a = ⟨g, 0, none⟩ ∧ lo ≤ g) ∧ Gs 22 w lo A k xs ∧ Are ⟨A, k, xs⟩ F := by
  obtain ⟨os, h1, hs, hf⟩ := h
  rcases h1.2 with ⟨rfl, rfl⟩ | ⟨g, cap, cur, rfl, hg, _, hk, _⟩
  · exact ⟨none, 0, os, rfl, Nat.le_refl _, fun _ => ⟨rfl, rfl⟩, (fun a h => by cases h), Gs.of_own h1 hs, hf⟩
  · exact ⟨some ⟨g, 0, none⟩, cap, os, rfl, hk, (fun h => by cases h), fun a h => by cases h; exact ⟨g, rfl, hg⟩, Gs.of_own h1 hs, hf⟩
theorem Fs.nil_ {w : World} {A : Option Addr} : Fs w 0 A 0 [] := ⟨rfl, (fun x hx => by cases hx), (fun h => by omega)⟩
/-- the last ones of a list -/
theorem Fs.tail {w : World} {B n m : Nat} {g off : Nat} {xs : List Nat} (h : Fs w B (some ⟨g, off, none⟩) (n + m) xs) : Fs w B (some ⟨g, off + n, none⟩) m (xs.drop n) :=
  ⟨by rw [List.length_drop, h.1]; omega, fun x hx => h.2.1 x (List.mem_of_mem_drop hx), fun hm => by
    obtain ⟨g', off', e, hg, hc⟩ := h.2.2 (by omega)
    injection e with e
    injection e with e1 e2 _
    subst e1; subst e2
    refine ⟨g, off + n, rfl, hg, fun k hk => ?_⟩
    have := hc (n + k) (by omega)
    rw [← Nat.add_assoc] at this
    rw [this]
    unfold fv wd
    simp [List.getD_eq_getElem?_getD]⟩
theorem wd_drop (xs : List Nat) (n k : Nat) : wd (xs.drop n) k = wd xs (n + k) := by unfold wd; simp [List.getD_eq_getElem?_getD]
def apO (xs ys : List Nat) (n j : Nat) : O := if j < n then ab .f32 (wd xs j) else ab .f32 (wd ys (j - n))
def fsum (T Z : Nat → O) (p : Nat) : Nat → O
  | 0 => some 0
  | k + 1 => opO .add .f32 (fsum T Z p k) (opO .mul .f32 (T k) (Z (p - k)))
def foldF (T Z : Nat → O) (l t i : Nat) : O := fsum T Z (l + i) t
def offO (Z : Nat → O) (n j : Nat) : O := Z (n + j)
def PEE (n0 : Nat) (f0 : Nat → O) (n1 : Nat) (f1 : Nat → O) (w : World) (e : Ending) (w' : World) : Prop :=
  ∃ (p q : Ls) (c d : Nat), e = .returned (.tuple #[.slice p.A p.n c, .slice q.A q.n d]) ∧ Hid (p.n = n0) ∧ Hid (q.n = n1) ∧ Hid (Ge w.heap.size w' (fe p.A p.n p.xs)) ∧ Hid (Ge w.heap.size w' (fe q.A q.n q.xs)) ∧ Hid (Are p f0) ∧ Hid (Are q f1) ∧ Hid (De (fe p.A p.n p.xs) (fe q.A q.n q.xs)) ∧ Hid (w.Since w.heap.size w')
end Go.Proofs.Ytbjhioolfighdaa

/- Two rows of floats that grow side by side. -/
set_option linter.unusedVariables false
set_option linter.unusedSimpArgs false
namespace Go.Proofs.Ytbjhioolfighdaa
open Fl Go.RowKit
/-- two rows lie in two blocks -/
def Apart (v u : Value) : Prop := ∀ b, v.ownBlock = some b → u.ownBlock = some b → False
theorem Apart.symm {v u : Value} (h : Apart v u) : Apart u v := fun b h1 h2 => h b h2 h1
/-- where a row lies that something was appended to -/
theorem append_where {P : Program} (w : World) (base : Nat) (t ty e : TypeId) (i : TypeInfo) (z : Value) (ht : P.underlying t = some (.slice e)) (hi : P.info? e = some i) (hz : i.zero = some z)
    (v : Value) (n : Nat) (xs : List Value) (hown : w.ownsRow base e i.size v n xs) (hsz : 0 < i.size)
    (a : Addr) (m c : Nat) (news : List Value) (hl : news.length = m * i.size) (hnews : ∀ j u, news[j]? = some u → w.cell? (a.add j) = some u) (h1 : ∀ u ∈ news, u.oneCell' = true) (hm : 0 < m)
    (h63 : n + m ≤ maxLen) (hbytes : (n + m) * i.bytes ≤ 140737488355328) :
    ∃ v' w', (Builtin.append_ #[t, t] ty #[v, .slice (some a) m c]).run P w = .ok v' w' ∧ (v'.ownBlock = v.ownBlock ∨ v'.ownBlock = some w.heap.size) := by
  have hsmall : n + m ≤ 9223372036854775807 := by simp only [maxLen] at h63; omega
  rcases hown.2 with ⟨rfl, rfl⟩ | ⟨g, cap, cur, rfl, hbg, hg, hnc, hcm, hcs, htake⟩
  · have hr := run_append_nil (P := P) w t ty e i z ht hi hz a m c news hl hnews (by omega) (by omega) (by have hb := hbytes; simp only [Nat.zero_add] at hb; omega)
    exact ⟨_, _, hr, .inr rfl⟩
  · by_cases hroom : n + m ≤ cap
    · have hfit : n * i.size + news.length ≤ cur.size := by rw [hl, hcs, ← Nat.add_mul]; exact Nat.mul_le_mul_right _ hroom
      have hr := run_append_room (P := P) w t ty e i ht hi g n cap cur hg a m c news hl hnews h1 hroom hfit
      exact ⟨_, _, hr, .inl rfl⟩
    · have holds : ∀ j u, xs[j]? = some u → w.cell? ((⟨g, 0, none⟩ : Addr).add j) = some u := hown.cells (g := g) rfl
      have hr := run_append_grow (P := P) w t ty e i z ht hi hz ⟨g, 0, none⟩ n cap xs hown.1 holds a m c news hl hnews (by omega) (by omega) (growslice_fits (by omega) hbytes)
      exact ⟨_, _, hr, .inr rfl⟩
theorem Rw.kept {lo : Nat} {w w' : World} {u v : Value} {k : Nat} {G : Nat → O} (h : Rw lo w u k G) (hg : w.grownBy w' v.ownBlock) (ha : Apart v u) : Rw lo w' u k G := by
  obtain ⟨os, h1, h2, h3⟩ := h
  refine ⟨os, h1.kept hg ?_, h2, h3⟩
  cases e : u.ownBlock with
  | none => exact .inl rfl
  | some b => exact .inr fun e2 => ha b e2.symm e
theorem Rw.blk {lo : Nat} {w : World} {u : Value} {k : Nat} {G : Nat → O} (h : Rw lo w u k G) : ∀ b, u.ownBlock = some b → b < w.heap.size := by
  obtain ⟨os, h1, h2, h3⟩ := h
  exact fun b hb => (h1.lt b hb).2
theorem wpList_app2 {ops : Array Oper} {rest : List Oper} {o : Oper} {a : Act} {Q : Exit → Act → World → Prop} {w : World} (hgd : o.guard = none) (s x : Operand)
    (ho : o.op = .call { callee := .builtin .append, args := #[s, x], argTypes := #[25, 25] }) (lo : Nat) (v : Value) (k : Nat) (F : Nat → O) (hs : a.eval s = v) (b r : Nat)
    (hx : a.eval x = .slice (some ⟨b, 0, none⟩) 1 1) (hc : w.cell? ⟨b, 0, none⟩ = some (.float .f32 r)) (hk : k < 1048576) (hlo : lo ≤ w.heap.size) (hr : Hid (Fv .f32 r (F k))) (hR : Rw lo w v k F)
    (h : ∀ v' w', Hid (Rw lo w' v' (k + 1) F) → Hid (w.Since lo w') → Hid (∀ u k' G, Rw lo w u k' G → Apart v u → Rw lo w' u k' G ∧ Apart v' u) → wpList Try.prog ops Q rest (a.put o.dst v') w') : wpList Try.prog ops Q (o :: rest) a w := by
  obtain ⟨os, h1, h2, h3⟩ := hR
  obtain ⟨i0, hi, hz0, hz1, hz2⟩ := info_parts Try.infoF
  have hnews : ∀ (j : Nat) (u : Value), [Value.float .f32 r][j]? = some u → w.cell? ((⟨b, 0, none⟩ : Addr).add j) = some u := by
    intro j u hj
    rcases j with _ | j
    · simp at hj; subst hj; simpa [Addr.add] using hc
    · simp at hj
  have hone : ∀ u ∈ [Value.float .f32 r], u.oneCell' = true := by intro u hu; simp at hu; subst hu; rfl
  have h63 : k + 1 ≤ maxLen := by unfold maxLen; omega
  have hby : (k + 1) * i0.bytes ≤ 140737488355328 := by rw [hz2]; omega
  refine wpList_plain hgd fun K hK => ?_
  obtain ⟨v', w', hrun, hown, hgr, _⟩ := run_append_own (P := Try.prog) w lo 25 o.type 22 i0 (.float .f32 0) i0.size i0.bytes Try.underlying25 hi hz0 rfl rfl (by rw [hz1]; rfl) (by rw [hz1]; omega) v k (fvl os) (by rw [hz1]; exact h1) ⟨b, 0, none⟩ 1 1 [.float .f32 r] (by rw [hz1]; rfl) hnews hone h63 hby hlo
  obtain ⟨v2, w2, hrun2, hwh⟩ := append_where (P := Try.prog) w lo 25 o.type 22 i0 (.float .f32 0) Try.underlying25 hi hz0 v k (fvl os) (by rw [hz1]; exact h1) (by rw [hz1]; omega) ⟨b, 0, none⟩ 1 1 [.float .f32 r] (by rw [hz1]; rfl) hnews hone (by omega) h63 hby
  rw [hrun] at hrun2
  injection hrun2 with e1 e2
  subst e1
  rw [hz1] at hown
  unfold Oper.wp execOp
  simp only [ho, resolve, invoke, builtin, Sem.run_bind, Sem.run_pure, Result.andThen_ok, List.map_toArray, List.map_cons, List.map_nil, hs, hx, hrun]
  refine hK _ _ (h v' w' (Lib.hid ⟨os ++ [r], ?_, h2.snoc hr.out.1, fun j hj => ?_⟩) (Lib.hid ⟨hgr.os, hgr.tape, hgr.output, hgr.size, fun i hi => ?_⟩) (Lib.hid fun u k' G hu hap => ⟨hu.kept hgr hap, fun b h4 h5 => ?_⟩))
  · rw [← fvl_snoc]; exact hown
  · have hyl : os.length = k := by simpa [fvl] using h1.1
    rw [wd_snoc hyl]
    by_cases e : j < k
    · rw [if_pos e]; exact h3 j e
    · obtain rfl : j = k := by omega
      rw [if_neg e, if_pos rfl]; exact hr.out.2
  · refine hgr.block i (by omega) fun e => ?_
    have := own_lo h1 i e.symm
    omega
  · rcases hwh with e | e
    · exact hap b (e ▸ h4) h5
    · have := hu.blk b h5
      rw [e] at h4
      injection h4 with h4
      omega
theorem De.of_apart {p q : Ls} {c d : Nat} (h : Apart (.slice p.A p.n c) (.slice q.A q.n d)) : De (fe p.A p.n p.xs) (fe q.A q.n q.xs) := by
  rintro g ⟨_, o1, e1⟩ ⟨_, o2, e2⟩
  exact h g (by rw [e1]; rfl) (by rw [e2]; rfl)
end Go.Proofs.Ytbjhioolfighdaa

/- Taps: of the model. -/
set_option linter.unusedVariables false
set_option linter.unusedSimpArgs false
namespace Go.Proofs.Ytbjhioolfighdaa
open Fl Go.RowKit
/-- the numbers of a past of 64, and the samples behind it -/
def tapS (xs ys : List Nat) (j : Nat) : O := if j < 64 then ab .f32 (wd xs j) else ab .f32 (wd ys (j - 64))
def tapSum (x : Nat → TapR) (S : Nat → O) (k : Nat) : Nat → O
  | 0 => some 0
  | t + 1 => ad (tapSum x S k t) (mu (ab .f32 (x t).g) (S (k + 64 - (x t).b.toNat)))
set_option maxHeartbeats 1000000 in
theorem specOwnR_any (b n : Nat) (xs : List Nat) (F : Nat → O) (w : World) (h : Fs w w.heap.size (some ⟨b, 0, none⟩) n xs) (hn : n ≤ 1048576) (hF : ∀ j, j < n → F j = ab .f32 (wd xs j)) :
    Calls Try.prog 30 #[.slice (some ⟨b, 0, none⟩) n n] w fun e w' => ∃ v, e = .returned v ∧ Rw w.heap.size w' v n F ∧ w.Since w.heap.size w' := by
  have H := Lib.hid h; have HF := Lib.hid hF
  clear h hF
  have HR := Lib.hid (Rw.start w w.heap.size (Nat.le_refl _) F)
  have HS : Hid (w.Since w.heap.size (w.alloc (.cells #[] 22))) := Lib.hid ((World.Since.refl _ _).alloc (Nat.le_refl _) _)
  go_enter Try.func30, Try.ntmps30
  go_wp2_with (first | (at_builtin; go_loud (refine wpList_appN rfl (.tmp 3) (.tmp 4) rfl w.heap.size _ 0 F rfl (some ⟨b, 0, none⟩) n n xs w.heap.size rfl (fun h => by cases h) (Lib.hid (H.out.since HS.out)) (fun j hj => by rw [Nat.zero_add]; exact HF.out j hj) (by omega) (by simp) HR.out ?_); intro v' w3 hR3 hS3))
  go_ret
  exact ⟨_, rfl, by have := hR3.out; rwa [Nat.zero_add] at this, HS.out.trans hS3.out⟩
theorem Fs.drop {w : World} {B m n g o : Nat} {zs : List Nat} (h : Fs w B (some ⟨g, o, none⟩) (n + m) zs) (hn : 0 < n) : Fs w B (some ⟨g, o + m, none⟩) n (zs.drop m) :=
  ⟨by rw [List.length_drop, h.1]; omega, fun y hy => h.2.1 y (List.mem_of_mem_drop hy), fun _ => by
    obtain ⟨g', o', e, hg, hc⟩ := h.2.2 (by omega)
    injection e with e; injection e with e1 e2 _; subst e1; subst e2
    exact ⟨g, o + m, rfl, hg, fun j hj => by have e : fv (zs.drop m) j = fv zs (m + j) := (by unfold fv; rw [wd_drop]); rw [e, Nat.add_assoc]; exact hc (m + j) (by omega)⟩⟩
theorem Rw.under {lo : Nat} {w : World} {v : Value} {k : Nat} {F : Nat → O} (h : Rw lo w v k F) : ∀ b, v.ownBlock = some b → b < w.heap.size := by
  intro b hb
  obtain ⟨os, h1, _, _⟩ := h
  rcases h1.2 with h2 | ⟨g, cap, cur, e1, h3, h4, r⟩
  · rw [h2.1] at hb; cases hb
  · rw [e1] at hb
    simp only [Value.ownBlock, Option.some.injEq] at hb
    subst hb
    exact (Array.getElem?_eq_some_iff.1 h4).1
set_option maxHeartbeats 8000000 in
set_option maxRecDepth 100000 in
theorem specRunTaps_ok (b0 n : Nat) (x : Nat → TapR) (b1 : Nat) (xs : List Nat) (b2 m : Nat) (ys : List Nat) (w : World) (h0 : Rs TapR.cells 2 w w.heap.size (some ⟨b0, 0, none⟩) n x) (hx : ∀ k, k < n → (x k).ok) (ht : tapsOk x n ∧ n ≤ 8) (h1 : Fs w w.heap.size (some ⟨b1, 0, none⟩) 64 xs) (h2 : Fs w w.heap.size (some ⟨b2, 0, none⟩) m ys) (hm : m ≤ 256) :
    Calls Try.prog 18 #[.slice (some ⟨b0, 0, none⟩) n n, .slice (some ⟨b1, 0, none⟩) 64 64, .slice (some ⟨b2, 0, none⟩) m m] w (PEEB m (fun k => tapSum x (tapS xs ys) k n) 64 (fun i => tapS xs ys (m + i)) true w) := by
  have hfew : decide ((m : Int) ≤ 256) = true := decide_eq_true (by omega)
  have H0 := Lib.hid h0; have HX := Lib.hid hx; have HT := Lib.hid ht; have H1 := Lib.hid h1; have H2 := Lib.hid h2
  have hn8 : n ≤ 8 := ht.2
  have HF0 : Hid (∀ j, j < 64 → tapS xs ys j = ab .f32 (wd xs j)) := Lib.hid (fun j hj => by unfold tapS; rw [if_pos hj])
  have HF1 : Hid (∀ j, j < m → tapS xs ys (64 + j) = ab .f32 (wd ys j)) := Lib.hid (fun j hj => by unfold tapS; rw [if_neg (by omega)]; congr 2; omega)
  clear h0 hx ht h1 h2
  go_enter Try.func18, Try.ntmps18
  go_wp2_with (first | (go_at_call 38; refine (specTaps_b _ n n x true _ _ H0.out (Nat.le_refl _) (by omega) (by simp [HT.out])).mono ?_; rintro e w1 ⟨rfl, hs1⟩; have S1 := Lib.hid hs1; clear hs1) | (go_at_call 29; refine (specFew_any _ _ _ _ _ hfew).mono ?_; rintro e w' ⟨rfl, rfl⟩) | (go_at_call 30; go_loud (refine (specOwnR_any b1 64 xs (tapS xs ys) _ (H1.out.now S1.out) (by omega) HF0.out).mono ?_); rintro e w2 ⟨v2, rfl, hr2, hs2⟩; have R2 := Lib.hid hr2; have S2 := Lib.hid (since_step S1.out hs2); have Z2 : Hid (w1.heap.size ≤ w2.heap.size) := Lib.hid hs2.size; clear hr2 hs2) | (at_builtin; go_loud (refine wpList_appN rfl (.tmp 28) (.tmp 29) rfl w1.heap.size _ 64 (tapS xs ys) rfl (some ⟨b2, 0, none⟩) m m ys w.heap.size rfl (fun h => by cases h) (Lib.hid (H2.out.since S2.out)) HF1.out (by omega) Z2.out R2.out ?_); intro v3 w3 hR3 hS3))
  obtain ⟨A3, c3, zs, rfl, hkc, hnz, hAz, hgz, haz⟩ := hR3.out.end_
  have S3 : Hid (w.Since w.heap.size w3) := Lib.hid (S2.out.trans (since_mono hS3.out (by have := S1.out.size; omega)))
  have ZF : Hid (Fs w3 w3.heap.size A3 (64 + m) zs) := Lib.hid hgz.read
  have ZA : Hid (∀ j, j < 64 + m → ab .f32 (wd zs j) = tapS xs ys j) := Lib.hid haz
  have HR0 := Lib.hid (Rw.start w3 w3.heap.size (Nat.le_refl _) (fun k => tapSum x (tapS xs ys) k n))
  have HS0 : Hid (w3.Since w3.heap.size (w3.alloc (.cells #[] 22))) := Lib.hid ((World.Since.refl _ _).alloc (Nat.le_refl _) _)
  have hzw : w.heap.size ≤ w3.heap.size := S3.out.size
  clear hgz haz hnz hAz hR3 hS3 R2 S2 Z2 H1
  go_loopw [10, 34] (fun v i wr => ∃ k : Nat, k ≤ m ∧ i = .int .i64 (k : Nat) ∧ Rw w3.heap.size wr v k (fun k => tapSum x (tapS xs ys) k n) ∧ w3.Since w3.heap.size wr) (fun _ i _ => m - (intOf i).toNat)
  case atStart => exact ⟨0, Nat.zero_le _, rfl, HR0.out, HS0.out⟩
  case round =>
    obtain ⟨k, hk, rfl, hr, hs⟩ := hrel
    have HR := Lib.hid hr; have HS := Lib.hid hs
    clear hr hs HR0 HS0
    have hz := HS.out.size
    by_cases hlt : k < m
    · go_wp2
      go_loopw [12, 39] (fun s i wi => ∃ (t r nn : Nat), t ≤ n ∧ i = .int .i64 (t : Nat) ∧ s = .float .f32 r ∧ Hid (Fv .f32 r (tapSum x (tapS xs ys) k t)) ∧ wi = wr.drewN nn) (fun _ i _ => n - (intOf i).toNat)
      case atStart => exact ⟨0, 0, 0, Nat.zero_le _, rfl, rfl, fv0, rfl⟩
      case round =>
        obtain ⟨t, r, nn, htn, rfl, rfl, hr, rfl⟩ := hrel
        by_cases hlt2 : t < n
        · obtain ⟨g, off, e1, hg, hc⟩ := H0.out.at_ hlt2
          injection e1 with e1; injection e1 with e1 e2 _; subst e1; subst e2
          have SK : Hid (w.Since w.heap.size wr) := Lib.hid (S3.out.trans (since_mono HS.out hzw))
          have c0 := (SK.out.cell (a := ⟨b0, 0 + t * 2 + 0, none⟩) hg).trans (hc 0 (by decide))
          have c1 := (SK.out.cell (a := ⟨b0, 0 + t * 2 + 1, none⟩) hg).trans (hc 1 (by decide))
          simp only [TapR.cells, List.getD_cons_zero, List.getD_cons_succ, Nat.add_zero, Nat.zero_add] at c0 c1
          obtain ⟨d, hd, hd64⟩ : ∃ d : Nat, (x t).b = (d : Int) ∧ d ≤ 64 := ⟨(x t).b.toNat, by have := (HT.out.1 t hlt2); omega, by have := (HT.out.1 t hlt2); omega⟩
          have hgn : Hid (Fv .f32 (x t).g (ab .f32 (x t).g)) := Lib.hid ⟨HX.out t hlt2, rfl⟩
          have hsum : tapSum x (tapS xs ys) k (t + 1) = ad (tapSum x (tapS xs ys) k t) (mu (ab .f32 (x t).g) (tapS xs ys (k + 64 - d))) := by
            show ad _ (mu _ (tapS xs ys (k + 64 - (x t).b.toNat))) = _
            rw [hd]; rfl
          have HSUM := Lib.hid hsum
          rw [hd] at c0
          obtain ⟨g3, o3, e3, hg3, hc3⟩ := ZF.out.2.2 (by omega)
          subst e3
          have c2 := (HS.out.cell (a := ⟨g3, o3 + (64 + k - d), none⟩) hg3).trans (hc3 (64 + k - d) (by omega))
          have hzv : Hid (Fv .f32 (wd zs (64 + k - d)) (tapS xs ys (k + 64 - d))) := Lib.hid ⟨ZF.out.2.1.at_ _, by rw [ZA.out _ (by omega), show 64 + k - d = k + 64 - d by omega]⟩
          have hI : (64 : Int) + (k : Int) - (d : Int) = ((64 + k - d : Nat) : Int) := by omega
          have hb1 : (64 + k - d : Nat) < 64 + m := by omega
          clear hc hc3 hsum hd
          have HI := hI
          go_wp2_with fail
          refine Lo.wp_loose_all [12,42,59,60] (by kernel_rfl) (by kernel_rfl) ?_
          repeat (first
            | (refine Lo.wpL_move rfl _ (.inl rfl) (by decide) ?_; simp only [Act.put, List.setIfInBounds_toArray, List.set_cons_succ, List.set_cons_zero])
            | (refine Lo.wpL_move rfl _ (.inr rfl) (by decide) ?_; simp only [Act.put, List.setIfInBounds_toArray, List.set_cons_succ, List.set_cons_zero])
            | (refine Lo.wpL_fop rfl _ _ _ _ rfl rfl (by decide) _ _ _ _ _ rfl rfl (by assumption) (by assumption) ?_; intro rr hrr; simp only [Act.put, List.setIfInBounds_toArray, List.set_cons_succ, List.set_cons_zero])
            | (refine Lo.wpL_wide rfl _ _ _ rfl (by decide) _ _ rfl (by kernel_rfl) (by kernel_rfl) (by assumption) ?_; intro rr hrr; simp only [Act.put, List.setIfInBounds_toArray, List.set_cons_succ, List.set_cons_zero])
            | (refine Lo.wpL_quiet rfl (by decide) (fun K hK => ?_); go_big_quiet_op; (refine hK _ ?_; clear hK K)))
          refine Lo.wpL_nil ?_
          refine Lo.after_fl rfl (by assumption) ?_; intro q12 h12; simp only [Act.put, List.setIfInBounds_toArray, List.set_cons_succ, List.set_cons_zero]
          refine Lo.after_fl rfl (by assumption) ?_; intro q42 h42; simp only [Act.put, List.setIfInBounds_toArray, List.set_cons_succ, List.set_cons_zero]
          refine Lo.after_fl rfl (by assumption) ?_; intro q59 h59; simp only [Act.put, List.setIfInBounds_toArray, List.set_cons_succ, List.set_cons_zero]
          refine Lo.after_fl rfl (by assumption) ?_; intro q60 h60; simp only [Act.put, List.setIfInBounds_toArray, List.set_cons_succ, List.set_cons_zero]
          refine Lo.after_nil ?_; intro nq
          have h61 : Hid (Fv .f32 q12 (tapSum x (tapS xs ys) k (t + 1))) := by rw [HSUM.out]; exact h12
          clear h60 h12
          go_wp2
          go_roundw
          case rel => exact ⟨t + 1, q12, nn + nq, by omega, by go_num, rfl, h61, rfl⟩
          case measure => simp [intOf]; omega
        · obtain rfl : t = n := by omega
          go_wp2_with (first | (at_builtin; go_loud (refine wpList_app1 rfl (.tmp 62) (.tmp 64) rfl w3.heap.size _ k _ rfl _ _ rfl (by simp [go_sem]) (by omega) (by simp; omega) hr ((HR.out.drewN _).alloc _) ?_); intro v' w4 hR4 hS4))
          go_roundw
          case rel => exact ⟨k + 1, by omega, by go_num, hR4.out, HS.out.trans ((since_drewN ((World.Since.refl _ _).alloc hz _) _).trans hS4.out)⟩
          case measure => simp [intOf]; omega
    · obtain rfl : k = m := by omega
      obtain ⟨g3, o3, e3, hg3, _⟩ := ZF.out.2.2 (by omega)
      subst e3
      have SUB := Lib.hid (Fs.drop ZF.out (by decide))
      have HU := Lib.hid HR.out.under
      obtain ⟨A4, c4, os, rfl, _, _, _, hg4, ha4⟩ := HR.out.end_
      have G4 := Lib.hid hg4; have A4' := Lib.hid ha4
      have hkc' : k < c3 := by omega
      clear hg4 ha4 HR
      go_wp2_with (first | (go_at_call 30; go_loud (refine (specOwn_any _ 64 _ (zs.drop k) _ ((SUB.out.since HS.out).more HS.out.size) (by decide) (by decide)).mono ?_); rintro e w5 ⟨g5, c5, rfl, hg5, hlo5, hhi5, hs5⟩; have G5 := Lib.hid hg5; have S5 := Lib.hid hs5; clear hg5 hs5))
      have HS5 : Hid (w.Since w.heap.size wr) := Lib.hid (S3.out.trans (since_mono HS.out hzw))
      have hz5 := HS.out.size
      go_ret3
      refine ⟨⟨A4, k, os⟩, ⟨some ⟨g5, 0, none⟩, 64, zs.drop k⟩, c4, c5, rfl, rfl, rfl, ((G4.out.since S5.out).less hzw).toE, (G5.out.less (by omega)).toE, A4'.out, fun i hi => ?_, De.of_apart (c := c4) (d := c5) (fun b h1 h2 => ?_), since_step HS5.out S5.out⟩
      · show ab .f32 (wd (zs.drop k) i) = _
        have hi' : i < 64 := hi
        rw [wd_drop, ZA.out _ (by omega)]
      · have := HU.out b h1
        have e : g5 = b := by simpa [Value.ownBlock] using h2
        omega
end Go.Proofs.Ytbjhioolfighdaa

/- Taps: of the program. -/
set_option linter.unusedVariables false
set_option linter.unusedSimpArgs false
namespace Go.Proofs.Ytbjhioolfighdaa
open Fl Go.RowKit
set_option maxHeartbeats 4000000 in
set_option maxRecDepth 100000 in
theorem before_any (g o d : Nat) (f : Nat → Nat) (w : World) (h : RingAt w g 64 o f) (ho : o < 64) (hd0 : 0 < d) (hd : d ≤ 64) :
    Calls Try.prog 54 #[.pointer (some ⟨g, 0, none⟩), .int .i64 (d : Nat)] w fun e w' => e = .returned (.float .f32 (f ((o + 64 - d) % 64))) ∧ ∃ m, w' = w.drewN m := by
  obtain ⟨j, hj⟩ : ∃ j, j = (o + 64 - d) % 64 := ⟨_, rfl⟩
  have hj64 : j < 64 := by omega
  rw [← hj]
  have h1 := h.num hj64
  have h2 := h.old
  have h3 := h.len
  have hI : ((o : Int) + 64 - (d : Int)) % 64 = (j : Int) := by omega
  have b0 : (0 : Int) ≤ (o : Int) + 64 - (d : Int) := by omega
  have b1 : (0 : Int) ≤ j := by omega
  have b2 : (j : Int) < 64 := by omega
  clear h hj
  go_enter Try.func54, Try.ntmps54
  go_wp2
  go_quiet (fail)
  go_wp2
  go_ret
  exact ⟨rfl, _, rfl⟩
set_option maxHeartbeats 4000000 in
set_option maxRecDepth 100000 in
theorem sumOfTaps_any (b0 n : Nat) (x : Nat → TapR) (g k q : Nat) (f : Nat → Nat) (S : Nat → O) (w : World) (h0 : Rs TapR.cells 2 w w.heap.size (some ⟨b0, 0, none⟩) n x) (hx : ∀ k, k < n → (x k).ok) (ht : tapsOk x n) (hn : n ≤ 8)
    (h : RingAt w g 64 (k % 64) f) (hf : ∀ j, j < 64 → ab .f32 (f j) = S (Ln.ix 64 k j)) (hq : Hid (Fv .f32 q (S (k + 64)))) :
    Calls Try.prog 45 #[.slice (some ⟨b0, 0, none⟩) n n, .pointer (some ⟨g, 0, none⟩), .float .f32 q] w fun e w' => ∃ r, e = .returned (.float .f32 r) ∧ Hid (Fv .f32 r (tapSum x S k n)) ∧ w.Since w.heap.size w' := by
  have H0 := Lib.hid h0; have HX := Lib.hid hx; have HT := Lib.hid ht; have HF := Lib.hid hf; have HG := Lib.hid h
  have hgl : g < w.heap.size := h.lt
  clear h0 hx ht hf h
  go_enter Try.func45, Try.ntmps45
  go_wp2
  go_loopw [7, 13] (fun s i wr => ∃ (t r : Nat), t ≤ n ∧ i = .int .i64 (t : Nat) ∧ s = .float .f32 r ∧ Hid (Fv .f32 r (tapSum x S k t)) ∧ w.Since w.heap.size wr) (fun _ i _ => n - (intOf i).toNat)
  case atStart => exact ⟨0, 0, Nat.zero_le _, rfl, rfl, fv0, World.Since.refl _ _⟩
  case round =>
    obtain ⟨t, r, htn, rfl, rfl, hr, hs⟩ := hrel
    have HS := Lib.hid hs
    have hz := hs.size
    clear hs
    by_cases hlt : t < n
    · obtain ⟨g', off, e1, hg, hc⟩ := H0.out.at_ hlt
      injection e1 with e1; injection e1 with e1 e2 _; subst e1; subst e2
      have c0 := (HS.out.cell (a := ⟨b0, 0 + t * 2 + 0, none⟩) hg).trans (hc 0 (by decide))
      have c1 := (HS.out.cell (a := ⟨b0, 0 + t * 2 + 1, none⟩) hg).trans (hc 1 (by decide))
      simp only [TapR.cells, List.getD_cons_zero, List.getD_cons_succ, Nat.add_zero, Nat.zero_add] at c0 c1
      obtain ⟨d, hd, hd64⟩ : ∃ d : Nat, (x t).b = (d : Int) ∧ d ≤ 64 := ⟨(x t).b.toNat, by have := (HT.out t hlt); omega, by have := (HT.out t hlt); omega⟩
      have hgn : Hid (Fv .f32 (x t).g (ab .f32 (x t).g)) := Lib.hid ⟨HX.out t hlt, rfl⟩
      have HSUM : Hid (tapSum x S k (t + 1) = ad (tapSum x S k t) (mu (ab .f32 (x t).g) (S (k + 64 - d)))) := Lib.hid (by
        show ad _ (mu _ (S (k + 64 - (x t).b.toNat))) = _
        rw [hd]; rfl)
      rw [hd] at c0
      clear hc hd
      have HR1 := Lib.hid (HG.out.since HS.out hgl)
      by_cases hd0 : d = 0
      · subst hd0
        go_wp2_with (with_reducible_and_instances refine Lo.wpList_fo _ rfl _ _ _ _ _ rfl _ _ _ _ _ rfl rfl rfl (by assumption) (by assumption) ?_; intro rr nn hrr)
        go_roundw
        case rel => exact ⟨t + 1, rr, by omega, by go_num, rfl, by rw [HSUM.out]; exact hrr, since_drewN (HS.out.alloc hz _) _⟩
        case measure => simp [intOf]; omega
      · have hdi : decide ((0 : Int) < (d : Int)) = true := decide_eq_true (by omega)
        have hold : Hid (Fv .f32 (f ((k % 64 + 64 - d) % 64)) (S (k + 64 - d))) := Lib.hid ⟨HG.out.small _ (Nat.mod_lt _ (by decide)), by
          rw [HF.out _ (Nat.mod_lt _ (by decide)), show k % 64 + 64 - d = k % 64 + (64 - d) by omega, Ln.ix_at (by omega)]
          congr 1; omega⟩
        go_wp2_with (first | (with_reducible_and_instances refine Lo.wpList_fo _ rfl _ _ _ _ _ rfl _ _ _ _ _ rfl rfl rfl (by assumption) (by assumption) ?_; intro rr nn hrr) | (go_at_call 54; go_loud (refine (before_any g (k % 64) d f _ (HR1.out.since ((World.Since.refl _ _).alloc (Nat.le_refl _) _) (by omega)) (by omega) (by omega) hd64).mono ?_); rintro e w2 ⟨rfl, m2, rfl⟩))
        go_roundw
        case rel => exact ⟨t + 1, rr, by omega, by go_num, rfl, by rw [HSUM.out]; exact hrr, since_drewN (HS.out.alloc hz _) _⟩
        case measure => simp [intOf]; omega
    · obtain rfl : t = n := by omega
      go_wp2
      go_ret
      exact ⟨r, rfl, hr, HS.out⟩
/-- what stands when k samples have gone through a past -/
def TapI (b0 n : Nat) (x : Nat → TapR) (S : Nat → O) (g bt br B k : Nat) (W : World) : Prop :=
  ∃ f, RingAt W g 64 (k % 64) f ∧ (∀ j, j < 64 → ab .f32 (f j) = S (Ln.ix 64 k j)) ∧ W.cell? ⟨bt, 0, none⟩ = some (.slice (some ⟨b0, 0, none⟩) n n) ∧ W.cell? ⟨br, 0, none⟩ = some (.pointer (some ⟨g, 0, none⟩)) ∧ Rs TapR.cells 2 W B (some ⟨b0, 0, none⟩) n x
theorem On.of_since {g : Nat} {w w' : World} (h : w.Since w.heap.size w') (hg : g < w.heap.size) : On g w w' := ⟨since_mono h (by omega), fun i hi _ => h.block i hi⟩
set_option maxHeartbeats 4000000 in
set_option maxRecDepth 100000 in
theorem closTaps_any (b0 n : Nat) (x : Nat → TapR) (S : Nat → O) (g bt br B k q : Nat) (w : World) (hx : ∀ k, k < n → (x k).ok) (ht : tapsOk x n) (hn : n ≤ 8) (h : TapI b0 n x S g bt br B k w) (hq : q < 4294967296) (hS : S (k + 64) = ab .f32 q)
    (h1 : bt ≠ g) (h2 : br ≠ g) (l1 : bt < w.heap.size) (l2 : br < w.heap.size) (hB : B ≤ g) :
    Calls Try.prog 44 #[.float .f32 q, .pointer (some ⟨bt, 0, none⟩), .pointer (some ⟨br, 0, none⟩)] w fun e w' => ∃ r, e = .returned (.float .f32 r) ∧ Hid (Fv .f32 r (tapSum x S k n)) ∧ TapI b0 n x S g bt br B (k + 1) w' ∧ On g w w' := by
  obtain ⟨f, hr, hf, hc1, hc2, hrs⟩ := h
  have hgl := hr.lt
  have HR := Lib.hid hr; have HF := Lib.hid hf; have HX := Lib.hid hx; have HT := Lib.hid ht; have HRS := Lib.hid hrs; have HC1 := Lib.hid hc1; have HC2 := Lib.hid hc2; have HS := Lib.hid hS
  have HQ : Hid (Fv .f32 q (S (k + 64))) := Lib.hid ⟨hq, hS.symm⟩
  clear hr hf hx ht hrs hS
  go_enter Try.func44, Try.ntmps44
  go_wp2_with fail
  go_at_call 45
  refine (sumOfTaps_any b0 n x g k q f S _ (HRS.out.more (by omega)) HX.out HT.out hn HR.out HF.out HQ).mono ?_
  rintro e w1 ⟨r, rfl, hr, hs⟩
  have HRV := Lib.hid hr; have S1 := Lib.hid hs
  have R1 := Lib.hid (HR.out.since hs hgl)
  have hc2' := (hs.cell (a := ⟨br, 0, none⟩) l2).trans HC2.out
  clear hr hs hc1 hc2
  go_wp2_with fail
  go_at_call 46
  refine (take_any g 64 (k % 64) q f _ R1.out (Nat.mod_lt _ (by decide)) (Nat.le_refl _) hq).mono ?_
  rintro e w2 ⟨rfl, hr2, ho⟩
  have R2 := Lib.hid hr2; have O2 := Lib.hid ho
  clear hr2 ho hc2'
  go_wp2
  go_ret
  have oo : On g w w2 := (On.of_since S1.out hgl).trans O2.out
  refine ⟨r, rfl, HRV.out, ⟨_, by rw [← Ln.mod_step (by decide)]; exact R2.out, fun j hj => ?_, ?_, ?_, HRS.out.keep fun g' o hg' => ?_⟩, oo⟩
  · rw [Ln.ix_step hj]
    by_cases e : j = k % 64
    · rw [if_pos e, if_pos e, HS.out]
    · rw [if_neg e, if_neg e]; exact HF.out j hj
  · exact (cell_of_block (oo.2 _ l1 h1) 0).trans HC1.out
  · exact (cell_of_block (oo.2 _ l2 h2) 0).trans HC2.out
  · exact cell_of_block (oo.2 g' (by omega) (by omega)) o
end Go.Proofs.Ytbjhioolfighdaa

/- RunTaps of the program. -/
set_option linter.unusedVariables false
set_option linter.unusedSimpArgs false
namespace Go.Proofs.Ytbjhioolfighdaa
open Fl Go.RowKit
theorem tapS_old {xs ys : List Nat} {j : Nat} (h : j < 64) : tapS xs ys j = ab .f32 (wd xs j) := by unfold tapS; rw [if_pos h]
theorem tapS_new (xs ys : List Nat) (k : Nat) : tapS xs ys (k + 64) = ab .f32 (wd ys k) := by unfold tapS; rw [if_neg (by omega)]; congr 2
set_option maxHeartbeats 8000000 in
set_option maxRecDepth 100000 in
theorem implRunTaps_ok (b0 n : Nat) (x : Nat → TapR) (b1 : Nat) (xs : List Nat) (b2 m : Nat) (ys : List Nat) (w : World) (h0 : Rs TapR.cells 2 w w.heap.size (some ⟨b0, 0, none⟩) n x) (hx : ∀ k, k < n → (x k).ok) (ht : tapsOk x n ∧ n ≤ 8) (h1 : Fs w w.heap.size (some ⟨b1, 0, none⟩) 64 xs) (h2 : Fs w w.heap.size (some ⟨b2, 0, none⟩) m ys) (hm : m ≤ 256) :
    Calls Try.prog 20 #[.slice (some ⟨b0, 0, none⟩) n n, .slice (some ⟨b1, 0, none⟩) 64 64, .slice (some ⟨b2, 0, none⟩) m m] w (PEEB m (fun k => tapSum x (tapS xs ys) k n) 64 (fun i => tapS xs ys (m + i)) true w) := by
  have hfew : decide ((m : Int) ≤ 256) = true := decide_eq_true (by omega)
  have H0 := Lib.hid h0; have HX := Lib.hid hx; have HT := Lib.hid ht; have H1 := Lib.hid h1; have H2 := Lib.hid h2
  have hn8 : n ≤ 8 := ht.2
  clear h0 hx ht h1 h2
  go_enter Try.func20, Try.ntmps20
  go_wp2_with fail
  generalize hW1 : World.alloc w _ = W1
  have z1 : Hid (W1.heap.size = w.heap.size + 1) := Lib.hid (by rw [← hW1]; simp)
  have S1 : Hid (w.Since w.heap.size W1) := Lib.hid (by rw [← hW1]; exact (World.Since.refl _ _).alloc (Nat.le_refl _) _)
  have C1 : Hid (W1.cell? ⟨w.heap.size, 0, none⟩ = some (.slice (some ⟨b0, 0, none⟩) n n)) := Lib.hid (by rw [← hW1]; simp [go_sem])
  clear hW1
  go_at_call 40
  refine (implValidTaps_b (some ⟨b0, 0, none⟩) n n x true W1 (H0.out.now S1.out) (by omega) (by simp [HT.out])).mono ?_
  rintro e w2 ⟨rfl, hs2⟩
  have S2 := Lib.hid hs2
  have z2 : Hid (w.heap.size + 1 ≤ w2.heap.size) := Lib.hid (by have := hs2.size; have := z1.out; omega)
  have C2 : Hid (w2.cell? ⟨w.heap.size, 0, none⟩ = some (.slice (some ⟨b0, 0, none⟩) n n)) := Lib.hid ((hs2.cell (a := ⟨w.heap.size, 0, none⟩) (by show w.heap.size < W1.heap.size; have := z1.out; omega)).trans C1.out)
  have SW2 : Hid (w.Since w.heap.size w2) := Lib.hid (since_step S1.out hs2)
  clear hs2
  go_wp2_with (first | (go_at_call 41; refine (implSamples_b _ _ _ _ _ hfew).mono ?_; rintro e w' ⟨rfl, rfl⟩) | fail)
  go_at_call 42
  refine (ringOf_any (some ⟨b1, 0, none⟩) 64 64 xs w2 (H1.out.now SW2.out) (by decide) (by decide)).mono ?_
  rintro e w3 ⟨rfl, hr3, hs3⟩
  have R3 := Lib.hid hr3; have S3 := Lib.hid hs3
  have z3 : Hid (w2.heap.size < w3.heap.size) := Lib.hid hr3.lt
  clear hr3 hs3
  go_wp2_with fail
  generalize hw4 : World.alloc w3 _ = w4
  have S4 : Hid (w3.Since w3.heap.size w4) := Lib.hid (by rw [← hw4]; exact (World.Since.refl _ _).alloc (Nat.le_refl _) _)
  have C4 : Hid (w4.cell? ⟨w3.heap.size, 0, none⟩ = some (.pointer (some ⟨w2.heap.size, 0, none⟩))) := Lib.hid (by rw [← hw4]; simp [go_sem])
  have z4 : Hid (w4.heap.size = w3.heap.size + 1) := Lib.hid (by rw [← hw4]; simp)
  clear hw4
  have R4 : Hid (RingAt w4 w2.heap.size 64 0 (fun j => wd xs j)) := Lib.hid (R3.out.since S4.out z3.out)
  have C5 : Hid (w4.cell? ⟨w.heap.size, 0, none⟩ = some (.slice (some ⟨b0, 0, none⟩) n n)) := Lib.hid (((S4.out.cell (a := ⟨w.heap.size, 0, none⟩) (by show w.heap.size < w3.heap.size; have := z2.out; have := z3.out; omega)).trans (S3.out.cell (a := ⟨w.heap.size, 0, none⟩) (by show w.heap.size < w2.heap.size; have := z2.out; omega))).trans C2.out)
  have SW : Hid (w.Since w.heap.size w4) := Lib.hid (since_step (since_step SW2.out S3.out) S4.out)
  have B4 : Hid (Fs w4 w2.heap.size (some ⟨b2, 0, none⟩) m ys) := Lib.hid ((H2.out.since SW.out).more (by have := z2.out; omega))
  have y1 := z2.out; have y2 := z3.out; have y3 := z4.out
  refine (results_any (some ⟨b2, 0, none⟩) m m ys 44 #[.pointer (some ⟨w.heap.size, 0, none⟩), .pointer (some ⟨w3.heap.size, 0, none⟩)] w2.heap.size (TapI b0 n x (tapS xs ys) w2.heap.size w.heap.size w3.heap.size w.heap.size) (fun k => tapSum x (tapS xs ys) k n) w4 B4.out (by omega) hm (fun _ _ => rfl) ?hI ?hst ?h0).mono ?_
  case hI =>
    rintro k W W' ⟨f, ha, hb, hc, hd, he⟩ hs1 hs2 hbl
    exact ⟨f, ha.of (hbl _ (by omega)), hb, (cell_of_block (hbl _ (by omega)) 0).trans hc, (cell_of_block (hbl _ (by omega)) 0).trans hd, he.keep fun g' o hg' => cell_of_block (hbl g' (by omega)) o⟩
  case hst =>
    rintro k q W hk rfl hi hs
    exact closTaps_any b0 n x (tapS xs ys) w2.heap.size w.heap.size w3.heap.size w.heap.size k _ W HX.out HT.out.1 hn8 hi (B4.out.2.1.at_ k) (tapS_new xs ys k) (by omega) (by omega) (by omega) (by omega) (by omega)
  case h0 => exact ⟨_, by rw [Nat.zero_mod]; exact R4.out, fun j hj => by rw [Ln.ix_zero hj]; exact (tapS_old hj).symm, C5.out, C4.out, H0.out.since SW.out⟩
  rintro e w5 ⟨os, rfl, hgs, har, ⟨f5, hr5, hf5, hd5, hc5, _⟩, ho5⟩
  have G5 := Lib.hid hgs; have A5 := Lib.hid har; have R5 := Lib.hid hr5; have F5 := Lib.hid hf5; have O5 := Lib.hid ho5
  clear hgs har hr5 hf5 hd5 ho5
  have z5 : Hid (w4.heap.size ≤ w5.heap.size) := Lib.hid O5.out.1.size
  clear y1 y2 y3
  go_wp2_with (go_at_call 47; refine (line_any _ 64 _ f5 w5 R5.out (Nat.mod_lt _ (by decide)) (by decide)).mono ?_; rintro e w6 ⟨ls, rfl, hg6, hl6, hs6⟩; have G6 := Lib.hid hg6; have L6 := Lib.hid hl6; have S6 := Lib.hid hs6; clear hg6 hl6 hs6)
  go_ret3
  have y1 := z2.out; have y2 := z3.out; have y3 := z4.out; have y4 := z5.out
  have SZ : w.Since w.heap.size w6 := since_step (SW.out.trans (O5.out.since (by omega))) S6.out
  refine ⟨⟨some ⟨w4.heap.size, 0, none⟩, m, os⟩, ⟨some ⟨w5.heap.size, 0, none⟩, 64, ls⟩, m, 64, rfl, rfl, rfl, ((G5.out.since S6.out).less (by omega)).toE, (G6.out.less (by omega)).toE, A5.out, fun i hi => ?_, ?_, SZ⟩
  · have hi' : i < 64 := hi
    show ab .f32 (wd ls i) = _
    rw [L6.out i hi', F5.out _ (Nat.mod_lt _ (by decide)), Ln.ix_at hi']
  · rintro g ⟨hp, o1, e1⟩ ⟨_, o2, e2⟩
    have hp' : 0 < m := by simpa using hp
    obtain ⟨b, e3, h3, h4⟩ := G5.out.block hp'
    injection e3 with e3; injection e3 with e3 _ _
    injection e1 with e1; injection e1 with e1 _ _
    injection e2 with e2; injection e2 with e2 _ _
    omega
theorem specRunTaps_no (b0 n : Nat) (x : Nat → TapR) (b1 l : Nat) (b2 m : Nat) (w : World) (h0 : Rs TapR.cells 2 w w.heap.size (some ⟨b0, 0, none⟩) n x) (hn : n ≤ 1048576) (h : ¬ ((tapsOk x n ∧ n ≤ 8) ∧ l = 64 ∧ m ≤ 256)) (f0 f1 : Nat → O) :
    Calls Try.prog 18 #[.slice (some ⟨b0, 0, none⟩) n n, .slice (some ⟨b1, 0, none⟩) l l, .slice (some ⟨b2, 0, none⟩) m m] w (PEEB 0 f0 0 f1 false w) := by
  have H0 := Lib.hid h0
  clear h0
  by_cases h1 : tapsOk x n ∧ n ≤ 8
  · have HT := Lib.hid h1
    by_cases h2 : l = 64
    · have hfew : decide ((m : Int) ≤ 256) = false := decide_eq_false (by have h4 : ¬ m ≤ 256 := fun h3 => h ⟨h1, h2, h3⟩; omega)
      subst h2
      clear h h1
      go_enter Try.func18, Try.ntmps18
      go_wp2_with (first | (go_at_call 38; refine (specTaps_b _ n n x true _ _ H0.out (Nat.le_refl _) hn (by simp [HT.out])).mono ?_; rintro e w1 ⟨rfl, hs1⟩; have S1 := Lib.hid hs1; clear hs1) | (go_at_call 29; refine (specFew_any _ _ _ _ _ hfew).mono ?_; rintro e w' ⟨rfl, rfl⟩))
      go_ret3
      exact PEEB.none_ S1.out _ _
    · have h3 : ¬ (l : Int) = 64 := by omega
      clear h h1
      go_enter Try.func18, Try.ntmps18
      go_wp2_with (first | (go_at_call 38; refine (specTaps_b _ n n x true _ _ H0.out (Nat.le_refl _) hn (by simp [HT.out])).mono ?_; rintro e w1 ⟨rfl, hs1⟩; have S1 := Lib.hid hs1; clear hs1))
      go_ret3
      exact PEEB.none_ S1.out _ _
  · have HT := Lib.hid h1
    clear h h1
    go_enter Try.func18, Try.ntmps18
    go_wp2_with (first | (go_at_call 38; refine (specTaps_b _ n n x false _ _ H0.out (Nat.le_refl _) hn (by simp [HT.out])).mono ?_; rintro e w1 ⟨rfl, hs1⟩; have S1 := Lib.hid hs1; clear hs1))
    go_ret3
    exact PEEB.none_ S1.out _ _
theorem implRunTaps_no (b0 n : Nat) (x : Nat → TapR) (b1 l : Nat) (b2 m : Nat) (w : World) (h0 : Rs TapR.cells 2 w w.heap.size (some ⟨b0, 0, none⟩) n x) (hn : n ≤ 1048576) (h : ¬ ((tapsOk x n ∧ n ≤ 8) ∧ l = 64 ∧ m ≤ 256)) (f0 f1 : Nat → O) :
    Calls Try.prog 20 #[.slice (some ⟨b0, 0, none⟩) n n, .slice (some ⟨b1, 0, none⟩) l l, .slice (some ⟨b2, 0, none⟩) m m] w (PEEB 0 f0 0 f1 false w) := by
  have H0 := Lib.hid h0
  have HV : Hid (∀ r, (r = true ↔ tapsOk x n ∧ n ≤ 8) → ∀ W1 : World, w.Since w.heap.size W1 → Calls Try.prog 40 #[.slice (some ⟨b0, 0, none⟩) n n] W1 (PB r W1)) := Lib.hid (fun r hr W1 s => implValidTaps_b _ n n x r W1 (H0.out.now s) hn hr)
  clear h0
  by_cases h1 : tapsOk x n ∧ n ≤ 8
  · have HT := Lib.hid h1
    by_cases h2 : l = 64
    · have hfew : decide ((m : Int) ≤ 256) = false := decide_eq_false (by have h4 : ¬ m ≤ 256 := fun h3 => h ⟨h1, h2, h3⟩; omega)
      subst h2
      clear h h1
      go_enter Try.func20, Try.ntmps20
      go_wp2_with (first | (go_at_call 40; refine (HV.out true (by simp [HT.out]) _ (by (repeat (first | (with_reducible refine Fl.sinDrew ?_) | (with_reducible refine World.Since.drew ?_) | (with_reducible refine Fl.sinSet ?_ ?_; rotate_left) | (with_reducible refine Fl.sinAlloc ?_ ?_; rotate_left) | with_reducible exact World.Since.refl _ _ | with_reducible assumption | (with_reducible refine Fl.sinStep (by with_reducible assumption) ?_))); all_goals (first | omega | (simp; done) | (simp; omega) | (simp [go_sem]; done) | (simp [go_sem]; omega)))).mono ?_; rintro e w2 ⟨rfl, hs2⟩; have S2 := Lib.hid hs2; clear hs2) | (go_at_call 41; refine (implSamples_b _ _ _ _ _ hfew).mono ?_; rintro e w' ⟨rfl, rfl⟩))
      go_ret3
      exact PEEB.none_ (since_step (by (repeat (first | (with_reducible refine Fl.sinDrew ?_) | (with_reducible refine World.Since.drew ?_) | (with_reducible refine Fl.sinSet ?_ ?_; rotate_left) | (with_reducible refine Fl.sinAlloc ?_ ?_; rotate_left) | with_reducible exact World.Since.refl _ _ | with_reducible assumption | (with_reducible refine Fl.sinStep (by with_reducible assumption) ?_))); all_goals (first | omega | (simp; done) | (simp; omega) | (simp [go_sem]; done) | (simp [go_sem]; omega))) S2.out) _ _
    · have h3 : ¬ (l : Int) = 64 := by omega
      clear h h1
      go_enter Try.func20, Try.ntmps20
      go_wp2_with (first | (go_at_call 40; refine (HV.out true (by simp [HT.out]) _ (by (repeat (first | (with_reducible refine Fl.sinDrew ?_) | (with_reducible refine World.Since.drew ?_) | (with_reducible refine Fl.sinSet ?_ ?_; rotate_left) | (with_reducible refine Fl.sinAlloc ?_ ?_; rotate_left) | with_reducible exact World.Since.refl _ _ | with_reducible assumption | (with_reducible refine Fl.sinStep (by with_reducible assumption) ?_))); all_goals (first | omega | (simp; done) | (simp; omega) | (simp [go_sem]; done) | (simp [go_sem]; omega)))).mono ?_; rintro e w2 ⟨rfl, hs2⟩; have S2 := Lib.hid hs2; clear hs2))
      go_ret3
      exact PEEB.none_ (since_step (by (repeat (first | (with_reducible refine Fl.sinDrew ?_) | (with_reducible refine World.Since.drew ?_) | (with_reducible refine Fl.sinSet ?_ ?_; rotate_left) | (with_reducible refine Fl.sinAlloc ?_ ?_; rotate_left) | with_reducible exact World.Since.refl _ _ | with_reducible assumption | (with_reducible refine Fl.sinStep (by with_reducible assumption) ?_))); all_goals (first | omega | (simp; done) | (simp; omega) | (simp [go_sem]; done) | (simp [go_sem]; omega))) S2.out) _ _
  · have HT := Lib.hid h1
    clear h h1
    go_enter Try.func20, Try.ntmps20
    go_wp2_with (first | (go_at_call 40; refine (HV.out false (by simp [HT.out]) _ (by (repeat (first | (with_reducible refine Fl.sinDrew ?_) | (with_reducible refine World.Since.drew ?_) | (with_reducible refine Fl.sinSet ?_ ?_; rotate_left) | (with_reducible refine Fl.sinAlloc ?_ ?_; rotate_left) | with_reducible exact World.Since.refl _ _ | with_reducible assumption | (with_reducible refine Fl.sinStep (by with_reducible assumption) ?_))); all_goals (first | omega | (simp; done) | (simp; omega) | (simp [go_sem]; done) | (simp [go_sem]; omega)))).mono ?_; rintro e w2 ⟨rfl, hs2⟩; have S2 := Lib.hid hs2; clear hs2))
    go_ret3
    exact PEEB.none_ (since_step (by (repeat (first | (with_reducible refine Fl.sinDrew ?_) | (with_reducible refine World.Since.drew ?_) | (with_reducible refine Fl.sinSet ?_ ?_; rotate_left) | (with_reducible refine Fl.sinAlloc ?_ ?_; rotate_left) | with_reducible exact World.Since.refl _ _ | with_reducible assumption | (with_reducible refine Fl.sinStep (by with_reducible assumption) ?_))); all_goals (first | omega | (simp; done) | (simp; omega) | (simp [go_sem]; done) | (simp [go_sem]; omega))) S2.out) _ _
end Go.Proofs.Ytbjhioolfighdaa

/- Walks of laws whose arguments or results are lists. -/
set_option linter.unusedVariables false
set_option linter.unusedSimpArgs false
namespace Go.Proofs.Ytbjhioolfighdaa
open Fl Go.RowKit
set_option maxHeartbeats 16000000 in
set_option maxRecDepth 100000 in
theorem lawRunTaps_gen (A0 : Option Addr) (n0 c0 : Nat) (x0 : Nat → TapR) (A1 : Option Addr) (n1 c1 : Nat) (x1 : List Nat) (A2 : Option Addr) (n2 c2 : Nat) (x2 : List Nat) (rn0 : Nat) (rf0 : Nat → Option Nat) (rn1 : Nat) (rf1 : Nat → Option Nat) (rb2 : Bool) (w : World)
    (h0 : Rs TapR.cells 2 w w.heap.size A0 n0 x0) (hn0 : n0 ≤ 1048576) (h1 : Fs w w.heap.size A1 n1 x1) (hn1 : n1 ≤ 1048576) (h2 : Fs w w.heap.size A2 n2 x2) (hn2 : n2 ≤ 1048576) (hr0 : rn0 ≤ 1048576) (hr1 : rn1 ≤ 1048576)
    (hk0 : ∀ k, k < n0 → (x0 k).ok)
    (hsp : ∀ (v : World) (b0 : Nat) (b1 : Nat) (b2 : Nat), Rs TapR.cells 2 v v.heap.size (some ⟨b0, 0, none⟩) n0 x0 → Fs v v.heap.size (some ⟨b1, 0, none⟩) n1 x1 → Fs v v.heap.size (some ⟨b2, 0, none⟩) n2 x2 → Calls Try.prog 18 #[.slice (some ⟨b0, 0, none⟩) n0 n0, .slice (some ⟨b1, 0, none⟩) n1 n1, .slice (some ⟨b2, 0, none⟩) n2 n2] v (PEEB rn0 rf0 rn1 rf1 rb2 v))
    (him : ∀ (v : World) (b0 : Nat) (b1 : Nat) (b2 : Nat), Rs TapR.cells 2 v v.heap.size (some ⟨b0, 0, none⟩) n0 x0 → Fs v v.heap.size (some ⟨b1, 0, none⟩) n1 x1 → Fs v v.heap.size (some ⟨b2, 0, none⟩) n2 x2 → Calls Try.prog 20 #[.slice (some ⟨b0, 0, none⟩) n0 n0, .slice (some ⟨b1, 0, none⟩) n1 n1, .slice (some ⟨b2, 0, none⟩) n2 n2] v (PEEB rn0 rf0 rn1 rf1 rb2 v)) :
    Calls Try.prog 5 #[.slice A0 n0 c0, .slice A1 n1 c1, .slice A2 n2 c2] w fun e w' => e = .returned (.bool true) ∧ w.Since w.heap.size w' := by
  have S0 : Hid (w.Since w.heap.size w) := Lib.hid (World.Since.refl _ _)
  have F0 : Hid (Rs TapR.cells 2 w w.heap.size A0 n0 x0) := Lib.hid (h0.now S0.out); clear h0
  have hd0 : decide ((1048576 : Int) < n0) = false := decide_eq_false (by omega)
  have F1 : Hid (Fs w w.heap.size A1 n1 x1) := Lib.hid (h1.now S0.out); clear h1
  have hd1 : decide ((1048576 : Int) < n1) = false := decide_eq_false (by omega)
  have F2 : Hid (Fs w w.heap.size A2 n2 x2) := Lib.hid (h2.now S0.out); clear h2
  have hd2 : decide ((1048576 : Int) < n2) = false := decide_eq_false (by omega)
  have HSP := Lib.hid hsp; have HIM := Lib.hid him; clear hsp him
  have hz0 : decide ((1048576 : Int) - n0 < 0) = false := decide_eq_false (by omega)
  have HK0 := Lib.hid hk0; clear hk0
  go_enter Try.func5, Try.ntmps5
  go_wp2_with fail
  go_at_call 17
  refine (szTapS_any A0 n0 c0 _ hn0).mono ?_; rintro e w' ⟨rfl, rfl⟩
  go_wp2_with fail
  have S : Hid (w.Since w.heap.size w) := Lib.hid (World.Since.refl _ _)
  have LV : Hid (He w.heap.size w []) := Lib.hid trivial
  go_at_call 19
  refine (toTapS_any A0 n0 c0 x0 w _ F0.out S.out hn0).mono ?_
  rintro e v1 ⟨rfl, hg, hs⟩
  have LV' := Lib.hid (LV.out.new hs hg S.out.size); clear LV; have LV := LV'; clear LV'
  have S' := Lib.hid (since_step S.out hs); clear S; have S := S'; clear S'
  clear hs hg
  go_wp2_with fail
  go_at_call 9
  refine (toFE_any A1 n1 c1 x1 w _ F1.out S.out hn1).mono ?_
  rintro e v2 ⟨rfl, hg, hs⟩
  have LV' := Lib.hid (LV.out.new hs hg S.out.size); clear LV; have LV := LV'; clear LV'
  have S' := Lib.hid (since_step S.out hs); clear S; have S := S'; clear S'
  clear hs hg
  go_wp2_with fail
  go_at_call 9
  refine (toFE_any A2 n2 c2 x2 w _ F2.out S.out hn2).mono ?_
  rintro e v3 ⟨rfl, hg, hs⟩
  have LV' := Lib.hid (LV.out.new hs hg S.out.size); clear LV; have LV := LV'; clear LV'
  have S' := Lib.hid (since_step S.out hs); clear S; have S := S'; clear S'
  clear hs hg
  go_wp2_with fail
  go_at_call 18
  refine (HSP.out _ _ _ _ ((LV.out.2.2.1.1).readS (by decide)) ((LV.out.2.1.1).readF) ((LV.out.1.1).readF)).mono ?_
  rintro e v4 ⟨w0, w1, kw0, kw1, rfl, hnw0, hnw1, hgw0, hgw1, hfw0, hfw1, hdj, hs⟩
  have LV' := Lib.hid ((LV.out.2.2.2).new2 hs hgw0 hgw1 hdj S.out.size); clear LV; have LV := LV'; clear LV'
  have S' := Lib.hid (since_step S.out hs); clear S; have S := S'; clear S'
  have Kw0 := Lib.hid hfw0; have Nw0 := Lib.hid hnw0; clear hfw0 hgw0 hnw0
  have Kw1 := Lib.hid hfw1; have Nw1 := Lib.hid hnw1; clear hfw1 hgw1 hnw1
  clear hs hdj
  go_wp2_with fail
  go_at_call 19
  refine (toTapS_any A0 n0 c0 x0 w _ F0.out S.out hn0).mono ?_
  rintro e v5 ⟨rfl, hg, hs⟩
  have LV' := Lib.hid (LV.out.new hs hg S.out.size); clear LV; have LV := LV'; clear LV'
  have S' := Lib.hid (since_step S.out hs); clear S; have S := S'; clear S'
  clear hs hg
  go_wp2_with fail
  go_at_call 9
  refine (toFE_any A1 n1 c1 x1 w _ F1.out S.out hn1).mono ?_
  rintro e v6 ⟨rfl, hg, hs⟩
  have LV' := Lib.hid (LV.out.new hs hg S.out.size); clear LV; have LV := LV'; clear LV'
  have S' := Lib.hid (since_step S.out hs); clear S; have S := S'; clear S'
  clear hs hg
  go_wp2_with fail
  go_at_call 9
  refine (toFE_any A2 n2 c2 x2 w _ F2.out S.out hn2).mono ?_
  rintro e v7 ⟨rfl, hg, hs⟩
  have LV' := Lib.hid (LV.out.new hs hg S.out.size); clear LV; have LV := LV'; clear LV'
  have S' := Lib.hid (since_step S.out hs); clear S; have S := S'; clear S'
  clear hs hg
  go_wp2_with fail
  go_at_call 20
  refine (HIM.out _ _ _ _ ((LV.out.2.2.1.1).readS (by decide)) ((LV.out.2.1.1).readF) ((LV.out.1.1).readF)).mono ?_
  rintro e v8 ⟨g0, g1, kg0, kg1, rfl, hng0, hng1, hgg0, hgg1, hfg0, hfg1, hdj, hs⟩
  have LV' := Lib.hid ((LV.out).new2 hs hgg0 hgg1 hdj S.out.size); clear LV; have LV := LV'; clear LV'
  have S' := Lib.hid (since_step S.out hs); clear S; have S := S'; clear S'
  have Kg0 := Lib.hid hfg0; have Ng0 := Lib.hid hng0; clear hfg0 hgg0 hng0
  have Kg1 := Lib.hid hfg1; have Ng1 := Lib.hid hng1; clear hfg1 hgg1 hng1
  clear hs hdj
  go_wp2_with fail
  go_at_call 11
  refine (eqL_any g0 w0 _ _ _ _ (LV.out.1.1).readF (LV.out.2.2.2.2.2.1.1).readF (by rw [Ng0.out]; exact hr0) (Nw0.out.trans Ng0.out.symm) Kg0.out Kw0.out).mono ?_
  rintro e v9 ⟨rfl, hs⟩
  have S' := Lib.hid (since_step S.out hs); clear S; have S := S'; clear S'
  have LV' := Lib.hid (LV.out.since hs); clear LV; have LV := LV'; clear LV'
  clear hs
  go_wp2_with fail
  go_at_call 11
  refine (eqL_any g1 w1 _ _ _ _ (LV.out.2.1.1).readF (LV.out.2.2.2.2.2.2.1.1).readF (by rw [Ng1.out]; exact hr1) (Nw1.out.trans Ng1.out.symm) Kg1.out Kw1.out).mono ?_
  rintro e v10 ⟨rfl, hs⟩
  have S' := Lib.hid (since_step S.out hs); clear S; have S := S'; clear S'
  have LV' := Lib.hid (LV.out.since hs); clear LV; have LV := LV'; clear LV'
  clear hs
  go_wp2_with fail
  go_at_call 19
  refine (toTapS_any A0 n0 c0 x0 w _ F0.out S.out hn0).mono ?_
  rintro e v11 ⟨rfl, hg, hs⟩
  have LV' := Lib.hid (LV.out.new hs hg S.out.size); clear LV; have LV := LV'; clear LV'
  have S' := Lib.hid (since_step S.out hs); clear S; have S := S'; clear S'
  clear hs hg
  go_wp2_with fail
  go_at_call 21
  refine (eqTapS_any _ _ n0 _ _ x0 x0 _ _ (Nat.le_refl _) ((LV.out.2.2.2.2.2.1.1).readS (by decide)) ((LV.out.1.1).readS (by decide)) hn0 (fun k hk => ⟨HK0.out k hk, HK0.out k hk, TapR.same_refl _⟩)).mono ?_
  rintro e v12 ⟨rfl, hs⟩
  have S' := Lib.hid (since_step S.out hs); clear S; have S := S'; clear S'
  have LV' := Lib.hid (LV.out.since hs); clear LV; have LV := LV'; clear LV'
  clear hs
  have LV' := Lib.hid LV.out.2; clear LV; have LV := LV'; clear LV'
  go_wp2_with fail
  go_at_call 9
  refine (toFE_any A1 n1 c1 x1 w _ F1.out S.out hn1).mono ?_
  rintro e v13 ⟨rfl, hg, hs⟩
  have LV' := Lib.hid (LV.out.new hs hg S.out.size); clear LV; have LV := LV'; clear LV'
  have S' := Lib.hid (since_step S.out hs); clear S; have S := S'; clear S'
  clear hs hg
  go_wp2_with fail
  go_at_call 11
  refine (eqL_any ⟨some ⟨v5.heap.size, 0, none⟩, n1, x1⟩ ⟨some ⟨v12.heap.size, 0, none⟩, n1, x1⟩ _ _ _ _ (LV.out.2.2.2.2.1.1).readF (LV.out.1.1).readF (by omega) rfl (fun _ _ => rfl) (fun _ _ => rfl)).mono ?_
  rintro e v14 ⟨rfl, hs⟩
  have S' := Lib.hid (since_step S.out hs); clear S; have S := S'; clear S'
  have LV' := Lib.hid (LV.out.since hs); clear LV; have LV := LV'; clear LV'
  clear hs
  have LV' := Lib.hid LV.out.2; clear LV; have LV := LV'; clear LV'
  go_wp2_with fail
  go_at_call 9
  refine (toFE_any A2 n2 c2 x2 w _ F2.out S.out hn2).mono ?_
  rintro e v15 ⟨rfl, hg, hs⟩
  have LV' := Lib.hid (LV.out.new hs hg S.out.size); clear LV; have LV := LV'; clear LV'
  have S' := Lib.hid (since_step S.out hs); clear S; have S := S'; clear S'
  clear hs hg
  go_wp2_with fail
  go_at_call 11
  refine (eqL_any ⟨some ⟨v6.heap.size, 0, none⟩, n2, x2⟩ ⟨some ⟨v14.heap.size, 0, none⟩, n2, x2⟩ _ _ _ _ (LV.out.2.2.2.1.1).readF (LV.out.1.1).readF (by omega) rfl (fun _ _ => rfl) (fun _ _ => rfl)).mono ?_
  rintro e v16 ⟨rfl, hs⟩
  have S' := Lib.hid (since_step S.out hs); clear S; have S := S'; clear S'
  have LV' := Lib.hid (LV.out.since hs); clear LV; have LV := LV'; clear LV'
  clear hs
  have LV' := Lib.hid LV.out.2; clear LV; have LV := LV'; clear LV'
  go_wp2_with fail
  go_at_call 22
  refine (markTapS_any v4.heap.size n0 x0 _ (1) _ _ _ _ (He.front [_, _, _, _] LV.out) (hn0) (by have := Ng0.out; have := Ng1.out; omega) (by first | rfl | omega | (push_cast; omega))).mono ?_
  rintro e v17 ⟨rfl, hlv, hs⟩
  have LV' := Lib.hid hlv; clear LV hlv; have LV := LV'; clear LV'
  have S' := Lib.hid (since_mark S.out hs); clear S hs; have S := S'; clear S'
  go_wp2_with fail
  go_at_call 12
  refine (markFE_any (some ⟨v5.heap.size, 0, none⟩) n1 x1 _ (1 + n0 * 2) _ _ _ _ (He.front [_, _, _, _] LV.out) (hn1) (by have := Ng0.out; have := Ng1.out; omega) (by first | rfl | omega | (push_cast; omega))).mono ?_
  rintro e v18 ⟨rfl, hlv, hs⟩
  have LV' := Lib.hid hlv; clear LV hlv; have LV := LV'; clear LV'
  have S' := Lib.hid (since_mark S.out hs); clear S hs; have S := S'; clear S'
  go_wp2_with fail
  go_at_call 12
  refine (markFE_any (some ⟨v6.heap.size, 0, none⟩) n2 x2 _ (1 + n0 * 2 + n1) _ _ _ _ (He.front [_, _, _, _] LV.out) (hn2) (by have := Ng0.out; have := Ng1.out; omega) (by first | rfl | omega | (push_cast; omega))).mono ?_
  rintro e v19 ⟨rfl, hlv, hs⟩
  have LV' := Lib.hid hlv; clear LV hlv; have LV := LV'; clear LV'
  have S' := Lib.hid (since_mark S.out hs); clear S hs; have S := S'; clear S'
  go_wp2_with fail
  go_at_call 11
  refine (eqL_any g0 w0 _ _ _ _ (LV.out.2.2.2.1.1).readF (LV.out.2.2.2.2.2.1.1).readF (by rw [Ng0.out]; exact hr0) (Nw0.out.trans Ng0.out.symm) Kg0.out Kw0.out).mono ?_
  rintro e v20 ⟨rfl, hs⟩
  have S' := Lib.hid (since_step S.out hs); clear S; have S := S'; clear S'
  have LV' := Lib.hid (LV.out.since hs); clear LV; have LV := LV'; clear LV'
  clear hs
  go_wp2_with fail
  go_at_call 11
  refine (eqL_any g1 w1 _ _ _ _ (LV.out.2.2.2.2.1.1).readF (LV.out.2.2.2.2.2.2.1.1).readF (by rw [Ng1.out]; exact hr1) (Nw1.out.trans Ng1.out.symm) Kg1.out Kw1.out).mono ?_
  rintro e v21 ⟨rfl, hs⟩
  have S' := Lib.hid (since_step S.out hs); clear S; have S := S'; clear S'
  have LV' := Lib.hid (LV.out.since hs); clear LV; have LV := LV'; clear LV'
  clear hs
  go_wp2_with fail
  go_at_call 12
  refine (markFE_any g0.A g0.n g0.xs _ (1) _ _ _ _ (He.front [_, _, _] LV.out) (by rw [Ng0.out]; exact hr0) (by have := Ng0.out; have := Ng1.out; omega) (by first | rfl | omega | (push_cast; omega))).mono ?_
  rintro e v22 ⟨rfl, hlv, hs⟩
  have LV' := Lib.hid hlv; clear LV hlv; have LV := LV'; clear LV'
  have S' := Lib.hid (since_mark S.out hs); clear S hs; have S := S'; clear S'
  go_wp2_with fail
  go_at_call 12
  refine (markFE_any g1.A g1.n g1.xs _ (1 + g0.n) _ _ _ _ (He.front [_, _, _, _] LV.out) (by rw [Ng1.out]; exact hr1) (by have := Ng0.out; have := Ng1.out; omega) (by first | rfl | omega | (push_cast; omega))).mono ?_
  rintro e v23 ⟨rfl, hlv, hs⟩
  have LV' := Lib.hid hlv; clear LV hlv; have LV := LV'; clear LV'
  have S' := Lib.hid (since_mark S.out hs); clear S hs; have S := S'; clear S'
  go_wp2_with fail
  go_at_call 13
  refine (heldFE_any g0.A g0.n _ (1) _ _ _ ((LV.out.2.1.1)) (by rw [Ng0.out]; exact hr0) (by have := Ng0.out; have := Ng1.out; omega) (by first | rfl | omega | (push_cast; omega))).mono ?_
  rintro e v ⟨rfl, rfl⟩
  go_wp2_with fail
  go_at_call 13
  refine (heldFE_any g1.A g1.n _ (1 + g0.n) _ _ _ ((LV.out.1.1)) (by rw [Ng1.out]; exact hr1) (by have := Ng0.out; have := Ng1.out; omega) (by first | rfl | omega | (push_cast; omega))).mono ?_
  rintro e v ⟨rfl, rfl⟩
  go_wp2_with fail
  go_at_call 19
  refine (toTapS_any A0 n0 c0 x0 w _ F0.out S.out hn0).mono ?_
  rintro e v24 ⟨rfl, hg, hs⟩
  have LV' := Lib.hid (LV.out.new hs hg S.out.size); clear LV; have LV := LV'; clear LV'
  have S' := Lib.hid (since_step S.out hs); clear S; have S := S'; clear S'
  clear hs hg
  go_wp2_with fail
  go_at_call 9
  refine (toFE_any A1 n1 c1 x1 w _ F1.out S.out hn1).mono ?_
  rintro e v25 ⟨rfl, hg, hs⟩
  have LV' := Lib.hid (LV.out.new hs hg S.out.size); clear LV; have LV := LV'; clear LV'
  have S' := Lib.hid (since_step S.out hs); clear S; have S := S'; clear S'
  clear hs hg
  go_wp2_with fail
  go_at_call 9
  refine (toFE_any A2 n2 c2 x2 w _ F2.out S.out hn2).mono ?_
  rintro e v26 ⟨rfl, hg, hs⟩
  have LV' := Lib.hid (LV.out.new hs hg S.out.size); clear LV; have LV := LV'; clear LV'
  have S' := Lib.hid (since_step S.out hs); clear S; have S := S'; clear S'
  clear hs hg
  go_wp2_with fail
  go_at_call 20
  refine (HIM.out _ _ _ _ ((LV.out.2.2.1.1).readS (by decide)) ((LV.out.2.1.1).readF) ((LV.out.1.1).readF)).mono ?_
  rintro e v27 ⟨h0, h1, kh0, kh1, rfl, hnh0, hnh1, hgh0, hgh1, hfh0, hfh1, hdj, hs⟩
  have LV' := Lib.hid ((LV.out.2.2.2).new2 hs hgh0 hgh1 hdj S.out.size); clear LV; have LV := LV'; clear LV'
  have S' := Lib.hid (since_step S.out hs); clear S; have S := S'; clear S'
  have Kh0 := Lib.hid hfh0; have Nh0 := Lib.hid hnh0; clear hfh0 hgh0 hnh0
  have Kh1 := Lib.hid hfh1; have Nh1 := Lib.hid hnh1; clear hfh1 hgh1 hnh1
  clear hs hdj
  go_wp2_with fail
  go_at_call 11
  refine (eqL_any h0 w0 _ _ _ _ (LV.out.1.1).readF (LV.out.2.2.2.2.2.2.2.1.1).readF (by rw [Nh0.out]; exact hr0) (Nw0.out.trans Nh0.out.symm) Kh0.out Kw0.out).mono ?_
  rintro e v28 ⟨rfl, hs⟩
  have S' := Lib.hid (since_step S.out hs); clear S; have S := S'; clear S'
  have LV' := Lib.hid (LV.out.since hs); clear LV; have LV := LV'; clear LV'
  clear hs
  go_wp2_with fail
  go_at_call 11
  refine (eqL_any h1 w1 _ _ _ _ (LV.out.2.1.1).readF (LV.out.2.2.2.2.2.2.2.2.1.1).readF (by rw [Nh1.out]; exact hr1) (Nw1.out.trans Nh1.out.symm) Kh1.out Kw1.out).mono ?_
  rintro e v29 ⟨rfl, hs⟩
  have S' := Lib.hid (since_step S.out hs); clear S; have S := S'; clear S'
  have LV' := Lib.hid (LV.out.since hs); clear LV; have LV := LV'; clear LV'
  clear hs
  go_wp2_with fail
  go_at_call 13
  refine (heldFE_any g0.A g0.n _ (1) _ _ _ ((LV.out.2.2.2.1.1)) (by rw [Ng0.out]; exact hr0) (by have := Ng0.out; have := Ng1.out; omega) (by first | rfl | omega | (push_cast; omega))).mono ?_
  rintro e v ⟨rfl, rfl⟩
  go_wp2_with fail
  go_at_call 13
  refine (heldFE_any g1.A g1.n _ (1 + g0.n) _ _ _ ((LV.out.2.2.1.1)) (by rw [Ng1.out]; exact hr1) (by have := Ng0.out; have := Ng1.out; omega) (by first | rfl | omega | (push_cast; omega))).mono ?_
  rintro e v ⟨rfl, rfl⟩
  go_wp2_with fail
  go_ret
  exact ⟨rfl, S.out⟩
set_option maxHeartbeats 2000000 in
set_option maxRecDepth 100000 in
theorem lawRunTaps_big (A0 : Option Addr) (n0 c0 : Nat) (A1 : Option Addr) (n1 c1 : Nat) (A2 : Option Addr) (n2 c2 : Nat) (w : World) (h : 1048576 < n0 ∨ 1048576 < n1 ∨ 1048576 < n2)
    (hb0 : n0 ≤ 9223372036854775807)
    : Calls Try.prog 5 #[.slice A0 n0 c0, .slice A1 n1 c1, .slice A2 n2 c2] w fun e w' => e = .returned (.bool true) ∧ w.Since w.heap.size w' := by
  by_cases b1 : 1048576 < n1
  · have hd1 : decide ((1048576 : Int) < n1) = true := decide_eq_true (by omega)
    go_enter Try.func5, Try.ntmps5
    go_wp2
    go_ret
    exact ⟨rfl, by (repeat (first | (with_reducible refine Fl.sinDrew ?_) | (with_reducible refine World.Since.drew ?_) | (with_reducible refine Fl.sinSet ?_ ?_; rotate_left) | (with_reducible refine Fl.sinAlloc ?_ ?_; rotate_left) | with_reducible exact World.Since.refl _ _ | with_reducible assumption | (with_reducible refine Fl.sinStep (by with_reducible assumption) ?_))); all_goals (first | omega | (simp; done) | (simp; omega) | (simp [go_sem]; done) | (simp [go_sem]; omega))⟩
  · have hd1 : decide ((1048576 : Int) < n1) = false := decide_eq_false (by omega)
    by_cases b2 : 1048576 < n2
    · have hd2 : decide ((1048576 : Int) < n2) = true := decide_eq_true (by omega)
      go_enter Try.func5, Try.ntmps5
      go_wp2
      go_ret
      exact ⟨rfl, by (repeat (first | (with_reducible refine Fl.sinDrew ?_) | (with_reducible refine World.Since.drew ?_) | (with_reducible refine Fl.sinSet ?_ ?_; rotate_left) | (with_reducible refine Fl.sinAlloc ?_ ?_; rotate_left) | with_reducible exact World.Since.refl _ _ | with_reducible assumption | (with_reducible refine Fl.sinStep (by with_reducible assumption) ?_))); all_goals (first | omega | (simp; done) | (simp; omega) | (simp [go_sem]; done) | (simp [go_sem]; omega))⟩
    · have hd2 : decide ((1048576 : Int) < n2) = false := decide_eq_false (by omega)
      by_cases b0 : 1048576 < n0
      · have hd0 : decide ((1048576 : Int) < n0) = true := decide_eq_true (by omega)
        go_enter Try.func5, Try.ntmps5
        go_wp2_with (go_at_call 17; refine (szTapS_big A0 n0 c0 _ b0 hb0).mono ?_; rintro e w' ⟨rfl, rfl⟩)
        go_ret
        exact ⟨rfl, by (repeat (first | (with_reducible refine Fl.sinDrew ?_) | (with_reducible refine World.Since.drew ?_) | (with_reducible refine Fl.sinSet ?_ ?_; rotate_left) | (with_reducible refine Fl.sinAlloc ?_ ?_; rotate_left) | with_reducible exact World.Since.refl _ _ | with_reducible assumption | (with_reducible refine Fl.sinStep (by with_reducible assumption) ?_))); all_goals (first | omega | (simp; done) | (simp; omega) | (simp [go_sem]; done) | (simp [go_sem]; omega))⟩
      · have hd0 : decide ((1048576 : Int) < n0) = false := decide_eq_false (by omega)
        omega
end Go.Proofs.Ytbjhioolfighdaa

/- The law of RunTaps. -/
set_option linter.unusedVariables false
set_option linter.unusedSimpArgs false
namespace Go.Proofs.Ytbjhioolfighdaa
open Fl Go.RowKit
theorem lawRunTaps_any (A0 : Option Addr) (n0 c0 : Nat) (x0 : Nat → TapR) (A1 : Option Addr) (n1 c1 : Nat) (x1 : List Nat) (A2 : Option Addr) (n2 c2 : Nat) (x2 : List Nat) (w : World)
    (h0 : Rs TapR.cells 2 w w.heap.size A0 n0 x0) (hk0 : ∀ k, k < n0 → (x0 k).wf) (hb0 : n0 ≤ 9223372036854775807) (h1 : Fs w w.heap.size A1 n1 x1) (hb1 : n1 ≤ 9223372036854775807) (h2 : Fs w w.heap.size A2 n2 x2) (hb2 : n2 ≤ 9223372036854775807) :
    Calls Try.prog 5 #[.slice A0 n0 c0, .slice A1 n1 c1, .slice A2 n2 c2] w fun e w' => e = .returned (.bool true) ∧ w.Since w.heap.size w' := by
  by_cases h : 1048576 < n0 ∨ 1048576 < n1 ∨ 1048576 < n2
  · exact lawRunTaps_big A0 n0 c0 A1 n1 c1 A2 n2 c2 w h hb0
  · have hn : n0 ≤ 1048576 := by omega
    have hn1 : n1 ≤ 1048576 := by omega
    have hn2 : n2 ≤ 1048576 := by omega
    by_cases ho : (tapsOk x0 n0 ∧ n0 ≤ 8) ∧ n1 = 64 ∧ n2 ≤ 256
    · obtain ⟨ht, h64, hm⟩ := ho
      subst h64
      exact lawRunTaps_gen A0 n0 c0 x0 A1 64 c1 x1 A2 n2 c2 x2 n2 (fun k => tapSum x0 (tapS x1 x2) k n0) 64 (fun i => tapS x1 x2 (n2 + i)) true w h0 hn h1 hn1 h2 hn2 hn2 hn1 (fun k hk => (hk0 k hk).1)
        (fun v b b' b'' g0 g1 g2 => specRunTaps_ok b n0 x0 b' x1 b'' n2 x2 v g0 (fun k hk => (hk0 k hk).1) ht g1 g2 hm)
        (fun v b b' b'' g0 g1 g2 => implRunTaps_ok b n0 x0 b' x1 b'' n2 x2 v g0 (fun k hk => (hk0 k hk).1) ht g1 g2 hm)
    · exact lawRunTaps_gen A0 n0 c0 x0 A1 n1 c1 x1 A2 n2 c2 x2 0 (fun _ => none) 0 (fun _ => none) false w h0 hn h1 hn1 h2 hn2 (by omega) (by omega) (fun k hk => (hk0 k hk).1)
        (fun v b b' b'' g0 g1 g2 => specRunTaps_no b n0 x0 b' n1 b'' n2 v g0 hn ho _ _)
        (fun v b b' b'' g0 g1 g2 => implRunTaps_no b n0 x0 b' n1 b'' n2 v g0 hn ho _ _)
end Go.Proofs.Ytbjhioolfighdaa

