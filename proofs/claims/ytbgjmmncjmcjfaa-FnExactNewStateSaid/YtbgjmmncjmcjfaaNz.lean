/- Joined: Ra Rc Rd Re Rf Rb Rh Ri Rj Rk Rl -/
import Derived.Test.YtbgjmmncjmcjfaaOa
import Derived.Test.YtbgjmmncjmcjfaaSf
import Derived.Test.YtbgjmmncjmcjfaaEa
import Derived.StillTailTactics
import Derived.Test.YtbgjmmncjmcjfaaFk
import Derived.Test.YtbgjmmncjmcjfaaWa
import Derived.Test.YtbgjmmncjmcjfaaEh
import Derived.Test.YtbgjmmncjmcjfaaVa
import Derived.Test.YtbgjmmncjmcjfaaRz
import Derived.Test.YtbgjmmncjmcjfaaHb
import Derived.Test.YtbgjmmncjmcjfaaFq
import Derived.Maps.AppendAt
/- Lists of Effect as a law holds them. -/
set_option linter.unusedVariables false
set_option linter.unusedSimpArgs false
namespace Go.Proofs.Ytbgjmmncjmcjfaa
open Fl Go.RowKit
structure EffectR where
  k : Int
  l : Int
  sA : Option Addr
  sn : Nat
  sc : Nat
  sx : List Nat
def EffectR.cells (x : EffectR) : List Value := [.int .i64 x.k, .int .i64 x.l, .slice x.sA x.sn x.sc]
def EffectR.val (x : EffectR) : Value := .agg #[.int .i64 x.k, .int .i64 x.l, .slice x.sA x.sn x.sc]
def EffectR.zero : EffectR := ⟨0, 0, none, 0, 0, []⟩
def EffectR.ok (x : EffectR) : Prop := True
/-- the same but for where its list lies -/
def EffectR.like (x y : EffectR) : Prop := x.sn = y.sn ∧ x.sx = y.sx ∧ x.k = y.k ∧ x.l = y.l
theorem EffectR.like_refl (x : EffectR) : x.like x := ⟨rfl, rfl, rfl, rfl⟩
/-- its list, as an entry -/
def EffectR.inn (x : EffectR) : En := fe x.sA x.sn x.sx
theorem EffectR.inn_fr (x : EffectR) : Fr_ x.inn := ce_frame
/-- such a list that can be read -/
def EffectR.Ts (w : World) (B : Nat) (A : Option Addr) (n : Nat) (e : Nat → EffectR) : Prop := Rs EffectR.cells 3 w B A n e ∧ ∀ k, k < n → Fs w B (e k).sA (e k).sn (e k).sx
theorem EffectR.Ts.now {w w1 : World} {A : Option Addr} {n : Nat} {e : Nat → EffectR} (h : EffectR.Ts w w.heap.size A n e) (k : w.Since w.heap.size w1) : EffectR.Ts w1 w1.heap.size A n e := ⟨h.1.now k, fun i hi => (h.2 i hi).now k⟩
theorem EffectR.Ts.since {w w1 : World} {B : Nat} {A : Option Addr} {n : Nat} {e : Nat → EffectR} (h : EffectR.Ts w B A n e) (k : w.Since B w1) : EffectR.Ts w1 B A n e := ⟨h.1.since k, fun i hi => (h.2 i hi).since k⟩
theorem EffectR.Ts.more {w : World} {B B' : Nat} {A : Option Addr} {n : Nat} {e : Nat → EffectR} (h : EffectR.Ts w B A n e) (k : B ≤ B') : EffectR.Ts w B' A n e := ⟨h.1.more k, fun i hi => (h.2 i hi).more k⟩
abbrev EffectR.ent (A : Option Addr) (n : Nat) (e : Nat → EffectR) : En := ne EffectR.cells 3 27 EffectR.inn A n e
theorem EffectR.read {w : World} {lo n : Nat} {A : Option Addr} {e : Nat → EffectR} (h : Ge lo w (EffectR.ent A n e)) : EffectR.Ts w w.heap.size A n e := ⟨h.outer.readS (by decide), fun k hk => (h.each EffectR.inn_fr k hk).readF⟩
theorem gflEffect {w : World} {T : TypeId} {l : List Value} {g : Nat} (h : w.heap[g]? = some (.cells l.toArray T (0, 0))) : GF w g T l.length (fun j => l.getD j undef) := ⟨_, h, fun j hj => by rw [List.getElem?_toArray]; simp [List.getD_eq_getElem?_getD, List.getElem?_eq_getElem hj]⟩
set_option maxRecDepth 100000 in
set_option maxHeartbeats 2000000 in
theorem toEffect_row (x : EffectR) (W w : World) (hF : Fs W W.heap.size x.sA x.sn x.sx) (s : W.Since W.heap.size w) (hn : x.sn ≤ 1048576) : Calls Try.prog 17 #[x.val] w fun e w' => ∃ y : EffectR, e = .returned y.val ∧ y.like x ∧ (∃ b, y.sA = some ⟨b, 0, none⟩) ∧ Ge w.heap.size w' y.inn ∧ w.Since w.heap.size w' := by
  obtain ⟨x_k, x_l, x_sA, x_sn, x_sc, x_sx⟩ := x
  simp only at hF hn
  have HF := Lib.hid hF; have HW := Lib.hid s
  clear hF s
  unfold EffectR.val
  go_enter Try.func17, Try.ntmps17
  go_wp2_with fail
  generalize hW : World.alloc _ _ = V
  have hz : V.heap.size = w.heap.size + 3 := by rw [← hW]; simp
  have HS : Hid (w.Since w.heap.size V) := Lib.hid (by rw [← hW]; exact (((World.Since.refl _ _).alloc (Nat.le_refl _) _).alloc (by simp) _).alloc (by simp; omega) _)
  have G1 := Lib.hid (gflEffect (w := V) (T := 24) (l := [.int .i64 x_k, .int .i64 x_l, .slice x_sA x_sn x_sc]) (g := w.heap.size) (by rw [← hW]; exact ((((World.Since.refl (w.heap.size + 1) _).alloc (by simp) _).alloc (by simp) _).block w.heap.size (by omega)).trans (Go.Deep.blk_alloc_new w _)))
  have G2 := Lib.hid (gflEffect (w := V) (T := 27) (l := [.int .i64 0, .int .i64 0, .slice none 0 0]) (g := w.heap.size + 1) (by rw [← hW]; have := Go.Deep.blk_alloc_new (w.alloc (.cells #[.int .i64 x_k, .int .i64 x_l, .slice x_sA x_sn x_sc] 24)) (.cells #[.int .i64 0, .int .i64 0, .slice none 0 0] 27); exact (((World.Since.refl (w.heap.size + 2) _).alloc (by simp) _).block (w.heap.size + 1) (by omega)).trans (by simpa using this)))
  have G3 := Lib.hid (gflEffect (w := V) (T := 27) (l := [.int .i64 x_k, .int .i64 x_l, .slice none 0 0]) (g := w.heap.size + 1 + 1) (by rw [← hW]; have := Go.Deep.blk_alloc_new ((w.alloc (.cells #[.int .i64 x_k, .int .i64 x_l, .slice x_sA x_sn x_sc] 24)).alloc (.cells #[.int .i64 0, .int .i64 0, .slice none 0 0] 27)) (.cells #[.int .i64 x_k, .int .i64 x_l, .slice none 0 0] 27); simpa using this))
  clear hW
  have a0 := G1.out.cell (j := 0) (by simp)
  have a1 := G1.out.cell (j := 1) (by simp)
  have a2 := G1.out.cell (j := 2) (by simp)
  simp only [List.getD_cons_zero, List.getD_cons_succ] at a0 a1 a2
  go_wp2_with fail
  go_at_call 49
  refine (toFE_any x_sA x_sn x_sc x_sx W V HF.out (HW.out.trans (since_mono HS.out HW.out.size)) hn).mono ?_
  rw [hz]
  rintro e w2 ⟨rfl, hg, hs⟩
  clear a0 a1 a2
  have HG := Lib.hid hg
  have HS2 : Hid (w.Since w.heap.size w2) := Lib.hid (HS.out.trans (since_mono hs (by omega)))
  have K1 := Lib.hid (G1.out.of (hs.block _ (by omega)))
  have K2 := Lib.hid (G2.out.of (hs.block _ (by omega)))
  have K3 := Lib.hid (G3.out.of (hs.block _ (by omega)))
  have hz2 : w.heap.size + 3 ≤ w2.heap.size := by have := hs.size; omega
  clear hg hs G1 G2 G3
  have a0 := K1.out.cell (j := 0) (by simp)
  have b0 := K2.out.cell (j := 0) (by simp)
  have c0 := K3.out.cell (j := 0) (by simp)
  have d0 := K2.out.free 0
  have e0 := K3.out.free 0
  have a1 := K1.out.cell (j := 1) (by simp)
  have b1 := K2.out.cell (j := 1) (by simp)
  have c1 := K3.out.cell (j := 1) (by simp)
  have d1 := K2.out.free 1
  have e1 := K3.out.free 1
  have a2 := K1.out.cell (j := 2) (by simp)
  have b2 := K2.out.cell (j := 2) (by simp)
  have c2 := K3.out.cell (j := 2) (by simp)
  have d2 := K2.out.free 2
  have e2 := K3.out.free 2
  simp only [List.getD_cons_zero, List.getD_cons_succ] at a0 b0 c0 a1 b1 c1 a2 b2 c2
  go_wp2
  refine bodyPost_ret (v := .agg #[.int .i64 x_k, .int .i64 x_l, .slice (some ⟨w.heap.size + 3, 0, none⟩) x_sn x_sn]) (by simp [results, Try.results17, go_sem, b0, d0, b1, d1, b2, d2]) rfl ⟨⟨x_k, x_l, some ⟨w.heap.size + 3, 0, none⟩, x_sn, x_sn, x_sx⟩, rfl, ⟨rfl, rfl, rfl, rfl⟩, ⟨_, rfl⟩, ?_, ?_⟩
  · refine (HG.out.less (by omega)).keep (fun g hg => ?_) (by simp only [Go.Deep.nblk_setCell]; exact Nat.le_refl _)
    have hg3 := (HG.out.2.2 g hg).1
    have hne1 : g ≠ w.heap.size + 1 := by omega
    have hne2 : g ≠ w.heap.size + 1 + 1 := by omega
    rw [Go.Deep.blk_setCell_other _ _ _ _ hne1]; rw [Go.Deep.blk_setCell_other _ _ _ _ hne1]; rw [Go.Deep.blk_setCell_other _ _ _ _ hne1]; rw [Go.Deep.blk_setCell_other _ _ _ _ hne2]
  · have hs0 := HS2.out
    (repeat (first | (with_reducible refine Fl.sinDrew ?_) | (with_reducible refine World.Since.drew ?_) | (with_reducible refine Fl.sinSet ?_ ?_; rotate_left) | (with_reducible refine Fl.sinAlloc ?_ ?_; rotate_left) | with_reducible exact World.Since.refl _ _ | with_reducible assumption | (with_reducible refine Fl.sinStep (by with_reducible assumption) ?_))); all_goals (first | omega | (simp; done) | (simp; omega) | (simp [go_sem]; done) | (simp [go_sem]; omega))
theorem Try.infoEffect : (Try.prog.info? 27).map (fun i => (i.zero, i.size, decide (i.bytes ≤ 1024))) = some (some (.agg #[.int .i64 0, .int .i64 0, .slice none 0 0]), 3, true) := by kernel_rfl
set_option maxHeartbeats 8000000 in
set_option maxRecDepth 100000 in
theorem toEffectS_any (A : Option Addr) (n c : Nat) (x : Nat → EffectR) (W v : World) (h : EffectR.Ts W W.heap.size A n x) (s : W.Since W.heap.size v) (hn : n ≤ 1048576) (hns : ∀ k, k < n → (x k).sn ≤ 1048576) :
    Calls Try.prog 22 #[.slice A n c] v fun r v' => r = .returned (.slice (some ⟨v.heap.size, 0, none⟩) n n) ∧ ∃ e : Nat → EffectR, (∀ k, k < n → (e k).like (x k)) ∧ Ge v.heap.size v' (EffectR.ent (some ⟨v.heap.size, 0, none⟩) n e) ∧ v.Since v.heap.size v' := by
  have H := Lib.hid (h.now s)
  have HNS := Lib.hid hns
  clear h s hns
  obtain ⟨i0, hi, hzz⟩ := Option.map_eq_some_iff.1 Try.infoEffect
  simp only [Prod.mk.injEq] at hzz
  obtain ⟨hz0, hz1, hz2⟩ := hzz
  have hby : i0.bytes ≤ 1024 := of_decide_eq_true hz2
  have hbn : (i0.bytes : Int) * (n : Int) ≤ 281474976710656 := by
    have : i0.bytes * n ≤ 1024 * 1048576 := Nat.mul_le_mul hby hn
    rw [← Int.natCast_mul]
    omega
  have hmk := fun (w : World) => run_make (P := Try.prog) w 34 27 i0 (.agg #[.int .i64 0, .int .i64 0, .slice none 0 0]) Try.underlying34 hi hz0 .i64 .i64 (n : Int) (n : Int) (by omega) (Int.le_refl _) hbn (by omega)
  simp only [Int.toNat_natCast, hz1] at hmk
  have hzc : (Value.agg #[.int .i64 0, .int .i64 0, .slice none 0 0]).cells = #[.int .i64 0, .int .i64 0, .slice none 0 0] := by rfl
  rw [hzc] at hmk
  have hzero : (EffectR.cells EffectR.zero).toArray = #[.int .i64 0, .int .i64 0, .slice none 0 0] := rfl
  have hmd := Lib.hid (GF.made (cells := EffectR.cells) (s := 3) v 27 #[.int .i64 0, .int .i64 0, .slice none 0 0] EffectR.zero n hzero rfl (by decide))
  clear hi hz0 hz1 hz2 hby hbn hzc hzero
  go_enter Try.func22, Try.ntmps22
  go_wp2
  go_loopw [4] (fun i wr => ∃ (k : Nat) (e : Nat → EffectR), k ≤ n ∧ i = .int .i64 (k : Nat) ∧ (∀ j, j < k → (e j).like (x j)) ∧ GF wr v.heap.size 27 (n * 3) (ceL EffectR.cells 3 fun i => if i < k then e i else EffectR.zero) ∧ (∀ j, j < k → Ge (v.heap.size + 1) wr (e j).inn) ∧ (∀ i j, i < k → j < k → i ≠ j → De (e i).inn (e j).inn) ∧ v.Since v.heap.size wr) (fun i _ => n - (intOf i).toNat)
  case atStart => exact ⟨0, fun _ => EffectR.zero, Nat.zero_le _, rfl, (fun j hj => by omega), hmd.out, (fun j hj => by omega), (fun i j hi => by omega), (World.Since.refl _ _).alloc (Nat.le_refl _) _⟩
  case round =>
    obtain ⟨k, e, hk, rfl, hlk, hg, hin, hde, hs⟩ := hrel
    have HL := Lib.hid hlk; have HG := Lib.hid hg; have HIN := Lib.hid hin; have HDE := Lib.hid hde; have HS := Lib.hid hs
    have hzw : v.heap.size + 1 ≤ wr.heap.size := hg.lt
    clear hlk hg hin hde hs hmd
    by_cases hlt : k < n
    · obtain ⟨g, off, rfl, hgl, hc⟩ := H.out.1.at_ hlt
      have HTO := Lib.hid (toEffect_row (x k) v wr (H.out.2 k hlt) HS.out (HNS.out k hlt))
      have hc0 := (HS.out.cell (a := ⟨g, off + k * 3 + 0, none⟩) hgl).trans (hc 0 (by decide))
      have hc1 := (HS.out.cell (a := ⟨g, off + k * 3 + 1, none⟩) hgl).trans (hc 1 (by decide))
      have hc2 := (HS.out.cell (a := ⟨g, off + k * 3 + 2, none⟩) hgl).trans (hc 2 (by decide))
      have hkk : k * 3 + 3 ≤ n * 3 := by omega
      obtain ⟨y, hy⟩ : ∃ y, y = x k := ⟨_, rfl⟩
      have HY := Lib.hid hy
      rw [← hy] at hc0 hc1 hc2 HTO
      clear hy hc
      obtain ⟨y_k, y_l, y_sA, y_sn, y_sc, y_sx⟩ := y
      simp only [EffectR.cells, EffectR.val, List.getD_cons_zero, List.getD_cons_succ, Nat.add_zero] at hc0 hc1 hc2 HTO
      go_wp2_with fail
      refine HTO.out.mono ?_
      rintro r w2 ⟨z, rfl, hlz, hbz, hgz, hs2⟩
      have HLZ : Hid (z.like (x k)) := Lib.hid (HY.out ▸ hlz)
      have HGZ := Lib.hid hgz
      have HG2 := Lib.hid (HG.out.of (hs2.block _ HG.out.lt))
      have HS2 := Lib.hid (since_step HS.out hs2)
      have HT2 := Lib.hid hs2
      have HE := Lib.hid (show ∀ j, j < n * 3 → ceL EffectR.cells 3 (fun i => if i < k + 1 then (if i = k then z else e i) else EffectR.zero) j = if k * 3 ≤ j ∧ j < k * 3 + 3 then (z.cells).getD (j - k * 3) undef else ceL EffectR.cells 3 (fun i => if i < k then e i else EffectR.zero) j from fun j hj => by
        rw [← ceL_upd _ k z (by decide) j]
        congr 1
        funext i
        unfold upd
        by_cases h1 : i = k
        · subst h1; rw [if_pos (by omega), if_pos rfl, if_pos rfl]
        · rw [if_neg h1, if_neg h1]
          by_cases h2 : i < k
          · rw [if_pos (by omega)]; simp only [if_pos h2]
          · rw [if_neg (by omega)]; simp only [if_neg h2])
      clear hs2 hlz hbz hgz hc0 hc1 hc2 HG
      obtain ⟨zz, hzz⟩ : ∃ zz, zz = z := ⟨_, rfl⟩
      have HZZ := Lib.hid hzz
      clear hzz
      have HEQ := HZZ.out
      obtain ⟨z_k, z_l, z_sA, z_sn, z_sc, z_sx⟩ := z
      have HZ3 := Lib.hid HEQ
      clear HEQ
      simp only [EffectR.cells, EffectR.val] at HE ⊢
      have hd0 := HG2.out.cell (j := k * 3 + 0) (by omega)
      have hf0 := HG2.out.free (k * 3 + 0)
      have hd1 := HG2.out.cell (j := k * 3 + 1) (by omega)
      have hf1 := HG2.out.free (k * 3 + 1)
      have hd2 := HG2.out.cell (j := k * 3 + 2) (by omega)
      have hf2 := HG2.out.free (k * 3 + 2)
      simp only [Nat.add_zero] at hd0 hf0 hd1 hf1 hd2 hf2
      generalize ceL EffectR.cells 3 (fun i => if i < k then e i else EffectR.zero) (k * 3) = u0q at hd0
      generalize ceL EffectR.cells 3 (fun i => if i < k then e i else EffectR.zero) (k * 3 + 1) = u1q at hd1
      generalize ceL EffectR.cells 3 (fun i => if i < k then e i else EffectR.zero) (k * 3 + 2) = u2q at hd2
      go_wp2
      go_roundw
      case rel =>
        refine ⟨k + 1, fun i => if i = k then zz else e i, by omega, by go_num, fun j hj => ?_, ?_, fun j hj => ?_, fun i j hi hj hij => ?_, ((HS2.out.setCell (Nat.le_refl _) _).setCell (Nat.le_refl _) _).setCell (Nat.le_refl _) _⟩
        · show (if j = k then zz else e j).like (x j)
          by_cases h : j = k
          · subst h; rw [if_pos rfl, HZ3.out]; exact HLZ.out
          · rw [if_neg h]; exact HL.out j (by omega)
        · rw [HZ3.out]
          refine (((HG2.out.set (k * 3) _).set (k * 3 + 1) _).set (k * 3 + 2) _).congr (fun j hj => ?_)
          rw [HE.out j hj]
          by_cases h : k * 3 ≤ j ∧ j < k * 3 + 3
          · rw [if_pos h]
            obtain rfl | rfl | rfl : j = k * 3 + 0 ∨ j = k * 3 + 1 ∨ j = k * 3 + 2 := by omega
            all_goals simp
          · rw [if_neg h, if_neg (by omega), if_neg (by omega), if_neg (by omega)]
        · show Ge (v.heap.size + 1) _ (if j = k then zz else e j).inn
          by_cases h : j = k
          · subst h; rw [if_pos rfl, HZ3.out]
            refine (HGZ.out.less hzw).keep (fun g hg => ?_) (by simp only [Go.Deep.nblk_setCell]; exact Nat.le_refl _)
            have hne : g ≠ v.heap.size := by have := (HGZ.out.2.2 g hg).1; omega
            rw [Go.Deep.blk_setCell_other _ _ _ _ hne]; rw [Go.Deep.blk_setCell_other _ _ _ _ hne]; rw [Go.Deep.blk_setCell_other _ _ _ _ hne]
          · rw [if_neg h]
            refine ((HIN.out j (by omega)).since HT2.out).keep (fun g hg => ?_) (by simp only [Go.Deep.nblk_setCell]; exact Nat.le_refl _)
            have hne : g ≠ v.heap.size := by have := ((HIN.out j (by omega)).2.2 g hg).1; omega
            rw [Go.Deep.blk_setCell_other _ _ _ _ hne]; rw [Go.Deep.blk_setCell_other _ _ _ _ hne]; rw [Go.Deep.blk_setCell_other _ _ _ _ hne]
        · show De (if i = k then zz else e i).inn (if j = k then zz else e j).inn
          by_cases h1 : i = k
          · rw [if_pos h1]
            have h2 : j ≠ k := fun h => hij (h1.trans h.symm)
            rw [if_neg h2, HZ3.out]
            intro g ha hb
            have h3 := (HGZ.out.2.2 g ha).1
            have h4 := ((HIN.out j (by omega)).2.2 g hb).2
            omega
          · rw [if_neg h1]
            by_cases h2 : j = k
            · rw [if_pos h2, HZ3.out]
              intro g ha hb
              have h3 := (HGZ.out.2.2 g hb).1
              have h4 := ((HIN.out i (by omega)).2.2 g ha).2
              omega
            · rw [if_neg h2]; exact HDE.out i j (by omega) (by omega) hij
      case measure => simp [intOf]; omega
    · obtain rfl : k = n := by omega
      go_wp2
      go_ret
      refine ⟨rfl, e, HL.out, ne_ge (GF.entry (HG.out.congr fun j hj => ?_) (Nat.le_refl _)) (fun j hj => (HIN.out j hj).less (by omega)) ⟨fun j hj g ha hb => ?_, HDE.out⟩, HS.out⟩
      · unfold ceL
        dsimp only
        rw [if_pos (Nat.div_lt_of_lt_mul (by rw [Nat.mul_comm]; exact hj))]
      · obtain ⟨_, o2, e2⟩ := ha
        injection e2 with e2; injection e2 with e2 _ _
        have := ((HIN.out j hj).2.2 g hb).1
        omega
def EffectR.tot (x : Nat → EffectR) : Nat → Nat
  | 0 => 0
  | k + 1 => EffectR.tot x k + (x k).sn
theorem EffectR.tot_le (x : Nat → EffectR) {k n : Nat} (h : k ≤ n) : EffectR.tot x k ≤ EffectR.tot x n := by
  induction n with
  | zero => rw [Nat.le_zero.1 h]; exact Nat.le_refl _
  | succ n ih =>
    by_cases e : k = n + 1
    · rw [e]; exact Nat.le_refl _
    · have := ih (by omega)
      show _ ≤ EffectR.tot x n + (x n).sn
      omega
theorem szEffect_row (x : EffectR) (L : Int) (w : World) (h0 : 0 ≤ L) (h1 : L ≤ 1048576) (hn : x.sn ≤ 9223372036854775807) : Calls Try.prog 15 #[x.val, .int .i64 L] w fun r w' => r = .returned (.int .i64 (if (x.sn : Int) ≤ L then L - x.sn else -1)) ∧ w.Since w.heap.size w' := by
  obtain ⟨y_k, y_l, y_sA, y_sn, y_sc, y_sx⟩ := x
  simp only at hn
  unfold EffectR.val
  have HFL : Hid (∀ w : World, Calls Try.prog 65 #[.slice y_sA y_sn y_sc, .int .i64 L] w fun r w' => r = .returned (.int .i64 (if (y_sn : Int) ≤ L then L - y_sn else -1)) ∧ w = w') := Lib.hid (by
    intro w
    by_cases h : (y_sn : Int) ≤ L
    · rw [if_pos h]
      go_enter Try.func65, Try.ntmps65
      go_wp2
      go_ret
      exact ⟨rfl, rfl⟩
    · rw [if_neg h]
      go_enter Try.func65, Try.ntmps65
      go_wp2
      go_ret
      exact ⟨rfl, rfl⟩)
  by_cases h : (y_sn : Int) ≤ L
  · simp only [if_pos h] at HFL ⊢
    go_enter Try.func15, Try.ntmps15
    go_wp2_with (go_at_call 65; refine (HFL.out _).mono ?_; rintro e w1 ⟨rfl, rfl⟩)
    go_ret
    exact ⟨rfl, by (repeat (first | (with_reducible refine Fl.sinDrew ?_) | (with_reducible refine World.Since.drew ?_) | (with_reducible refine Fl.sinSet ?_ ?_; rotate_left) | (with_reducible refine Fl.sinAlloc ?_ ?_; rotate_left) | with_reducible exact World.Since.refl _ _ | with_reducible assumption | (with_reducible refine Fl.sinStep (by with_reducible assumption) ?_))); all_goals (first | omega | (simp; done) | (simp; omega) | (simp [go_sem]; done) | (simp [go_sem]; omega))⟩
  · simp only [if_neg h] at HFL ⊢
    go_enter Try.func15, Try.ntmps15
    go_wp2_with (go_at_call 65; refine (HFL.out _).mono ?_; rintro e w1 ⟨rfl, rfl⟩)
    go_ret
    exact ⟨rfl, by (repeat (first | (with_reducible refine Fl.sinDrew ?_) | (with_reducible refine World.Since.drew ?_) | (with_reducible refine Fl.sinSet ?_ ?_; rotate_left) | (with_reducible refine Fl.sinAlloc ?_ ?_; rotate_left) | with_reducible exact World.Since.refl _ _ | with_reducible assumption | (with_reducible refine Fl.sinStep (by with_reducible assumption) ?_))); all_goals (first | omega | (simp; done) | (simp; omega) | (simp [go_sem]; done) | (simp [go_sem]; omega))⟩
set_option maxHeartbeats 4000000 in
set_option maxRecDepth 100000 in
theorem szEffectS_any (A : Option Addr) (n c : Nat) (x : Nat → EffectR) (L : Int) (w : World) (h : Rs EffectR.cells 3 w w.heap.size A n x) (hx : ∀ k, k < n → (x k).sn ≤ 9223372036854775807) (hL : L ≤ 1048576) (hn : (n : Int) ≤ L) (z : Int) (hz : z = if (n : Int) + EffectR.tot x n ≤ L then L - n - EffectR.tot x n else -1) :
    Calls Try.prog 20 #[.slice A n c, .int .i64 L] w fun r w' => r = .returned (.int .i64 z) ∧ w.Since w.heap.size w' := by
  have H := Lib.hid h; have HX := Lib.hid hx; have HZ := Lib.hid hz
  clear h hx hz
  have hb : 0 ≤ L - n := by omega
  have hb2 : L - n ≤ 1048576 := by omega
  go_enter Try.func20, Try.ntmps20
  go_wp2
  go_loopw [1, 5] (fun lv i wr => ∃ (k : Nat) (l : Int), k ≤ n ∧ i = .int .i64 (k : Nat) ∧ lv = .int .i64 l ∧ Hid (l = L - n - EffectR.tot x k) ∧ 0 ≤ l ∧ l ≤ 1048576 ∧ w.Since w.heap.size wr) (fun _ i _ => n - (intOf i).toNat)
  case atStart => exact ⟨0, L - n, Nat.zero_le _, rfl, rfl, Lib.hid (by simp [EffectR.tot]), hb, hb2, World.Since.refl _ _⟩
  case round =>
    obtain ⟨k, l, hk, rfl, rfl, HL, hl0, hl1, hs⟩ := hrel
    have HS := Lib.hid hs
    clear hs
    by_cases hlt : k < n
    · obtain ⟨g, off, rfl, hgl, hc⟩ := H.out.at_ hlt
      have HSZ := Lib.hid (fun W => szEffect_row (x k) l W hl0 hl1 (HX.out k hlt))
      have hc0 := (HS.out.cell (a := ⟨g, off + k * 3 + 0, none⟩) hgl).trans (hc 0 (by decide))
      have hc1 := (HS.out.cell (a := ⟨g, off + k * 3 + 1, none⟩) hgl).trans (hc 1 (by decide))
      have hc2 := (HS.out.cell (a := ⟨g, off + k * 3 + 2, none⟩) hgl).trans (hc 2 (by decide))
      obtain ⟨y, hy⟩ : ∃ y, y = x k := ⟨_, rfl⟩
      have HY := Lib.hid hy
      rw [← hy] at hc0 hc1 hc2 HSZ
      have HYN : Hid (y.sn = (x k).sn) := Lib.hid (by rw [hy])
      clear hy hc HY
      obtain ⟨y_k, y_l, y_sA, y_sn, y_sc, y_sx⟩ := y
      simp only at HYN
      simp only [EffectR.cells, EffectR.val, List.getD_cons_zero, List.getD_cons_succ, Nat.add_zero] at hc0 hc1 hc2 HSZ
      by_cases hle : (y_sn : Int) ≤ l
      · simp only [if_pos hle] at HSZ
        have hnn : ¬ l - (y_sn : Int) < 0 := by omega
        go_wp2_with fail
        refine (HSZ.out _).mono ?_
        rintro e w2 ⟨rfl, hs2⟩
        have HS2 := Lib.hid (since_step HS.out hs2); clear hs2
        have HLE := Lib.hid hle
        go_wp2
        go_roundw
        case rel => exact ⟨k + 1, l - y_sn, by omega, by go_num, rfl, Lib.hid (by have h1 := HL.out; have h2 := HYN.out; show _ = L - n - ((EffectR.tot x k + (x k).sn : Nat) : Int); omega), by have := HLE.out; omega, by omega, HS2.out⟩
        case measure => simp [intOf]; omega
      · simp only [if_neg hle] at HSZ
        have hres : Hid (¬ (n : Int) + EffectR.tot x n ≤ L) := Lib.hid (by
          have h1 := HL.out; have h2 := HYN.out
          have h3 : EffectR.tot x k + (x k).sn ≤ EffectR.tot x n := EffectR.tot_le x (k := k + 1) hlt
          omega)
        go_wp2_with fail
        refine (HSZ.out _).mono ?_
        rintro e w2 ⟨rfl, hs2⟩
        have HS2 := Lib.hid (since_step HS.out hs2); clear hs2
        go_wp2
        go_ret
        have e : z = -1 := by rw [HZ.out, if_neg (by have := hres.out; omega)]
        exact ⟨by rw [e]; rfl, HS2.out⟩
    · obtain rfl : k = n := by omega
      have hres : Hid ((k : Int) + EffectR.tot x k ≤ L) := Lib.hid (by have h1 := HL.out; omega)
      go_wp2
      go_ret
      have e : z = l := by rw [HZ.out, if_pos hres.out, HL.out]
      exact ⟨by rw [e]; rfl, HS.out⟩
theorem szEffectS_big (A : Option Addr) (n c : Nat) (L : Int) (w : World) (hL : L ≤ 1048576) (h0 : 0 ≤ L) (hn : L < n) (hn2 : n ≤ 9223372036854775807) : Calls Try.prog 20 #[.slice A n c, .int .i64 L] w fun r w' => r = .returned (.int .i64 (-1)) ∧ w.Since w.heap.size w' := by
  have h1 : L - n < 0 := by omega
  go_enter Try.func20, Try.ntmps20
  go_wp2
  go_ret
  exact ⟨rfl, World.Since.refl _ _⟩
set_option maxRecDepth 100000 in
set_option maxHeartbeats 4000000 in
theorem eqEffect_row (x y : EffectR) (w : World) (hx : Fs w w.heap.size x.sA x.sn x.sx) (hy : Fs w w.heap.size y.sA y.sn y.sx) (hox : x.ok) (hn : x.sn ≤ 1048576) (h : x.like y) : Calls Try.prog 19 #[x.val, y.val] w fun e w' => e = .returned (.bool true) ∧ w.Since w.heap.size w' := by
  obtain ⟨x_k, x_l, x_sA, x_sn, x_sc, x_sx⟩ := x
  obtain ⟨y_k, y_l, y_sA, y_sn, y_sc, y_sx⟩ := y
  simp only [EffectR.like, EffectR.ok] at *
  obtain ⟨rfl, rfl, rfl, rfl⟩ := h
  unfold EffectR.val
  
  have HX := Lib.hid hx; have HY := Lib.hid hy
  clear hx hy hox
  go_enter Try.func19, Try.ntmps19
  go_wp2_with fail
  generalize hW : World.alloc _ _ = V
  have HS : Hid (w.Since w.heap.size V) := Lib.hid (by rw [← hW]; exact ((World.Since.refl _ _).alloc (Nat.le_refl _) _).alloc (by simp) _)
  have hz : w.heap.size + 1 < V.heap.size := by rw [← hW]; simp
  have G1 := Lib.hid (gflEffect (w := V) (T := 27) (l := [.int .i64 x_k, .int .i64 x_l, .slice x_sA x_sn x_sc]) (g := w.heap.size) (by rw [← hW]; exact (((World.Since.refl (w.heap.size + 1) _).alloc (by simp) _).block w.heap.size (by omega)).trans (Go.Deep.blk_alloc_new w _)))
  have G2 := Lib.hid (gflEffect (w := V) (T := 27) (l := [.int .i64 x_k, .int .i64 x_l, .slice y_sA x_sn y_sc]) (g := w.heap.size + 1) (by rw [← hW]; have := Go.Deep.blk_alloc_new (w.alloc (.cells #[.int .i64 x_k, .int .i64 x_l, .slice x_sA x_sn x_sc] 27)) (.cells #[.int .i64 x_k, .int .i64 x_l, .slice y_sA x_sn y_sc] 27); simpa using this))
  clear hW
  have a0 := G1.out.cell (j := 0) (by simp)
  have b0 := G2.out.cell (j := 0) (by simp)
  have a1 := G1.out.cell (j := 1) (by simp)
  have b1 := G2.out.cell (j := 1) (by simp)
  have a2 := G1.out.cell (j := 2) (by simp)
  have b2 := G2.out.cell (j := 2) (by simp)
  simp only [List.getD_cons_zero, List.getD_cons_succ] at a0 b0 a1 b1 a2 b2
  go_wp2_with (first | (with_reducible_and_instances refine Lo.wpList_wi _ rfl _ _ _ rfl _ _ rfl (by kernel_rfl) (by kernel_rfl) (by assumption) ?_; intro rr nn hrr) | (go_at_call 89; refine (sameFloat_any _ _ _ _ (by assumption : Hid _) (by assumption : Hid _)).mono ?_; rintro e w' ⟨rfl, n1, rfl⟩))
  go_at_call 51
  refine (eqL_any ⟨x_sA, x_sn, x_sx⟩ ⟨y_sA, x_sn, x_sx⟩ _ _ _ (fun k => ab .f32 (wd x_sx k)) (HX.out.now HS.out) (HY.out.now HS.out) hn rfl (fun _ _ => rfl) (fun _ _ => rfl)).mono ?_
  rintro e w2 ⟨rfl, hs⟩
  clear a0 b0 a1 b1 a2 b2
  have HS2 : Hid (w.Since w.heap.size w2) := Lib.hid (since_step HS.out hs)
  have K1 := Lib.hid (G1.out.of (hs.block _ (by omega)))
  have K2 := Lib.hid (G2.out.of (hs.block _ (by omega)))
  clear hs G1 G2
  have a0 := K1.out.cell (j := 0) (by simp)
  have b0 := K2.out.cell (j := 0) (by simp)
  have a1 := K1.out.cell (j := 1) (by simp)
  have b1 := K2.out.cell (j := 1) (by simp)
  have a2 := K1.out.cell (j := 2) (by simp)
  have b2 := K2.out.cell (j := 2) (by simp)
  simp only [List.getD_cons_zero, List.getD_cons_succ] at a0 b0 a1 b1 a2 b2
  go_wp2_with (first | (with_reducible_and_instances refine Lo.wpList_wi _ rfl _ _ _ rfl _ _ rfl (by kernel_rfl) (by kernel_rfl) (by assumption) ?_; intro rr nn hrr) | (go_at_call 89; refine (sameFloat_any _ _ _ _ (by assumption : Hid _) (by assumption : Hid _)).mono ?_; rintro e w' ⟨rfl, n1, rfl⟩))
  go_ret
  exact ⟨rfl, by have hs0 := HS2.out; have hz0 := hs0.size; (repeat (first | (with_reducible refine Fl.sinDrew ?_) | (with_reducible refine World.Since.drew ?_) | (with_reducible refine Fl.sinSet ?_ ?_; rotate_left) | (with_reducible refine Fl.sinAlloc ?_ ?_; rotate_left) | with_reducible exact World.Since.refl _ _ | with_reducible assumption | (with_reducible refine Fl.sinStep (by with_reducible assumption) ?_))); all_goals (first | omega | (simp; done) | (simp; omega) | (simp [go_sem]; done) | (simp [go_sem]; omega))⟩
set_option maxHeartbeats 4000000 in
set_option maxRecDepth 100000 in
theorem eqEffectS_any (A C : Option Addr) (n c d : Nat) (e f : Nat → EffectR) (w : World) (ha : EffectR.Ts w w.heap.size A n e) (hc : EffectR.Ts w w.heap.size C n f) (hn : n ≤ 1048576) (hns : ∀ k, k < n → (e k).sn ≤ 1048576) (he : ∀ k, k < n → (e k).ok ∧ (e k).like (f k)) :
    Calls Try.prog 24 #[.slice A n c, .slice C n d] w fun r w' => r = .returned (.bool true) ∧ w.Since w.heap.size w' := by
  have HA := Lib.hid ha; have HC := Lib.hid hc; have HE := Lib.hid he; have HNS := Lib.hid hns
  clear ha hc he hns
  go_enter Try.func24, Try.ntmps24
  go_wp2
  go_loopw [5] (fun i wr => ∃ k : Nat, k ≤ n ∧ i = .int .i64 (k : Nat) ∧ w.Since w.heap.size wr) (fun i _ => n - (intOf i).toNat)
  case atStart => exact ⟨0, Nat.zero_le _, rfl, World.Since.refl _ _⟩
  case round =>
    obtain ⟨k, hk, rfl, hs⟩ := hrel
    have HS := Lib.hid hs
    clear hs
    by_cases hlt : k < n
    · obtain ⟨g, off, rfl, hgl, hc1⟩ := HA.out.1.range hlt (by rfl)
      obtain ⟨g2, off2, rfl, hgl2, hc2⟩ := HC.out.1.range hlt (by rfl)
      have HEQ : Hid (∀ W, (∃ hs d, W = Lo.mkW wr hs d) → Calls Try.prog 19 #[(e k).val, (f k).val] W fun r w' => r = .returned (.bool true) ∧ W.Since W.heap.size w') := Lib.hid (fun W hW => by
        obtain ⟨hs, d, rfl⟩ := hW
        have hT := since_step HS.out (Lo.mkW_since wr hs d)
        exact eqEffect_row (e k) (f k) _ ((HA.out.2 k hlt).now hT) ((HC.out.2 k hlt).now hT) (HE.out k hlt).1 (HNS.out k hlt) (HE.out k hlt).2)
      have R1 := Lib.hid (Lo.range_since hc1 HS.out (by omega))
      have R2 := Lib.hid (Lo.range_since hc2 HS.out (by omega))
      have hz := HS.out.size
      generalize e k = x at *
      generalize f k = y at *
      obtain ⟨x_k, x_l, x_sA, x_sn, x_sc, x_sx⟩ := x
      obtain ⟨y_k, y_l, y_sA, y_sn, y_sc, y_sx⟩ := y
      simp only [EffectR.cells, EffectR.val] at R1 R2 HEQ
      clear hc1 hc2
      go_wp2_with fail
      refine Lo.wp_looseG_all [] (by kernel_rfl) (by kernel_rfl) ?_
      repeat (first
        | (refine Lo.wpL_loadRow rfl 27 _ rfl (by decide) g (off + k * 3) rfl [.int .i64 x_k, .int .i64 x_l, .slice x_sA x_sn x_sc] _ Try.underlying27 rfl (by kernel_rfl) (fun v ⟨hs, dd, hv⟩ => hv ▸ Lo.range_since R1.out (Lo.mkW_since _ hs dd) (by omega)) ?_; simp only [Act.put, List.setIfInBounds_toArray, List.set_cons_succ, List.set_cons_zero])
        | (refine Lo.wpL_loadRow rfl 27 _ rfl (by decide) g2 (off2 + k * 3) rfl [.int .i64 y_k, .int .i64 y_l, .slice y_sA y_sn y_sc] _ Try.underlying27 rfl (by kernel_rfl) (fun v ⟨hs, dd, hv⟩ => hv ▸ Lo.range_since R2.out (Lo.mkW_since _ hs dd) (by omega)) ?_; simp only [Act.put, List.setIfInBounds_toArray, List.set_cons_succ, List.set_cons_zero])
        | (refine Lo.wpG_callQ rfl 19 [.tmp _, .tmp _] [.agg #[.int .i64 x_k, .int .i64 x_l, .slice x_sA x_sn x_sc], .agg #[.int .i64 y_k, .int .i64 y_l, .slice y_sA y_sn y_sc]] _ rfl (by decide) (callsEnter 19 Try.f19 _ (by kernel_rfl) (by kernel_rfl) rfl) rfl (.bool true) (fun v hv => (HEQ.out v hv).mono fun e v2 ⟨h1, h2⟩ => ⟨h1, Lo.mkW_mkW hv h2⟩) ?_; simp only [Act.put, List.setIfInBounds_toArray, List.set_cons_succ, List.set_cons_zero])
        | (refine Lo.wpL_move rfl _ (.inl rfl) (by decide) ?_; simp only [Act.put, List.setIfInBounds_toArray, List.set_cons_succ, List.set_cons_zero])
        | (refine Lo.wpL_move rfl _ (.inr rfl) (by decide) ?_; simp only [Act.put, List.setIfInBounds_toArray, List.set_cons_succ, List.set_cons_zero])
        | (refine Lo.wpG_fop (fun _ m h => Lo.drewG m h) rfl _ _ _ _ rfl rfl (by decide) _ _ _ _ _ rfl rfl (by assumption) (by assumption) ?_; intro rr hrr; simp only [Act.put, List.setIfInBounds_toArray, List.set_cons_succ, List.set_cons_zero])
        | (refine Lo.wpL_quiet rfl (by decide) (fun K hK => ?_); go_big_quiet_op; first | (refine hK _ ?_; clear hK K) | (refine ⟨_, fun _ _ _ _ => rfl, hK _ ?_⟩; clear hK K)))
      refine Lo.wpL_nil ?_; intro hsG dG
      refine Lo.after_nil ?_; intro nq
      generalize hwG : Lo.mkW _ hsG dG = wG
      replace hwG := Lo.sinceG hwG
      clear hsG dG
      go_wp2
      go_roundw
      case rel => exact ⟨k + 1, by omega, by go_num, since_step HS.out hwG⟩
      case measure => simp [intOf]; omega
    · go_wp2
      go_ret
      exact ⟨rfl, HS.out⟩
theorem Fl.He.otherEffect {B : Nat} {v v' : World} {p : En} {r : List En} (h : He B v (p :: r)) (ho : ∀ g, g < v.heap.size → ¬ p.S g → v'.heap[g]? = v.heap[g]?) (hz : v.heap.size ≤ v'.heap.size) : He B v' r := by
  have hd := h.1.2
  have ht := h.2
  clear h
  induction r with
  | nil => trivial
  | cons q r ih =>
    refine ⟨⟨?_, ht.1.2⟩, ih (fun q' hq' => hd q' (.tail _ hq')) ht.2⟩
    exact ht.1.1.keep (fun b hb => ho b (ht.1.1.2.2 b hb).2 fun hp => hd q (.head _) b hp hb) hz
set_option maxHeartbeats 8000000 in
set_option maxRecDepth 100000 in
theorem markEffectS_any (g n : Nat) (e : Nat → EffectR) (c k0 : Nat) (K : Int) (v : World) (B : Nat) (r : List En) (h : He B v (EffectR.ent (some ⟨g, 0, none⟩) n e :: r)) (hB : B ≤ v.heap.size) (hn : n ≤ 1048576) (hns : ∀ k, k < n → (e k).sn ≤ 1048576) (ht : EffectR.tot e n ≤ 1048576) (hk0 : k0 ≤ 536870912) (hK : K = (k0 : Nat)) :
    Calls Try.prog 28 #[.slice (some ⟨g, 0, none⟩) n c, .int .i64 K] v fun r1 v' => r1 = .returned (.int .i64 ((k0 + EffectR.tot e n + n * 2 : Nat) : Int)) ∧ He B v' r ∧ v.Since B v' := by
  subst hK
  have HH := Lib.hid h
  have HNS := Lib.hid hns
  by_cases hpos : 0 < n
  · obtain ⟨g1, off1, cs1, e1, hg, hgl, hb, hc⟩ := h.1.1.outer.ce (Nat.mul_pos hpos (by decide))
    injection e1 with e1; injection e1 with e1 e2 _; subst e1; subst e2
    have HG0 : Hid (GF v g 27 (n * 3) (ceL EffectR.cells 3 e)) := Lib.hid ⟨cs1, hb, fun j hj => by have := hc j hj; rwa [Nat.zero_add] at this⟩
    have HAL := Lib.hid h.1.1.alone
    have HIN0 : Hid (∀ j, j < n → Ge B v (e j).inn) := Lib.hid (fun j hj => h.1.1.each EffectR.inn_fr j hj)
    have HSG : Hid ((se EffectR.cells 3 27 (some ⟨g, 0, none⟩) n e).S g) := Lib.hid ⟨Nat.mul_pos hpos (by decide), 0, rfl⟩
    clear hb hc h hns
    go_enter Try.func28, Try.ntmps28
    go_wp2
    go_loopw [1, 5] (fun kv i wr => ∃ (k : Nat) (f : Nat → Value), k ≤ n ∧ i = .int .i64 (k : Nat) ∧ kv = .int .i64 ((k0 + EffectR.tot e k + k * 2 : Nat) : Int) ∧ GF wr g 27 (n * 3) f ∧ (∀ j, k * 3 ≤ j → j < n * 3 → f j = ceL EffectR.cells 3 e j) ∧ (∀ j, k ≤ j → j < n → Ge B wr (e j).inn) ∧ (∀ b, b < v.heap.size → ¬ (EffectR.ent (some ⟨g, 0, none⟩) n e).S b → wr.heap[b]? = v.heap[b]?) ∧ v.heap.size ≤ wr.heap.size ∧ v.Since B wr) (fun _ i _ => n - (intOf i).toNat)
    case atStart => exact ⟨0, _, Nat.zero_le _, rfl, by simp [EffectR.tot], HG0.out, fun j _ _ => rfl, fun j _ hj => HIN0.out j hj, fun _ _ _ => rfl, Nat.le_refl _, World.Since.refl _ _⟩
    case round =>
      obtain ⟨k, f, hk, rfl, rfl, hgf, hff, hin, hoth, hsz, hs⟩ := hrel
      have HG := Lib.hid hgf; have HFF := Lib.hid hff; have HIN := Lib.hid hin; have HO := Lib.hid hoth; have HZ := Lib.hid hsz; have HS := Lib.hid hs
      clear hgf hff hin hoth hsz hs HG0 HIN0
      by_cases hlt : k < n
      · have hkk : k * 3 + 3 ≤ n * 3 := by omega
        have hts : EffectR.tot e k + (e k).sn ≤ EffectR.tot e n := EffectR.tot_le e (k := k + 1) hlt
        have HTK : Hid (EffectR.tot e (k + 1) = EffectR.tot e k + (e k).sn) := Lib.hid rfl
        have hn3 := HNS.out k hlt
        have hcell : wr.cell? ⟨g, k * 3 + 2, none⟩ = some (.slice (e k).sA (e k).sn (e k).sc) := by
          rw [HG.out.cell (j := k * 3 + 2) (by omega), HFF.out _ (by omega) (by omega), ceL_at e (by decide)]; rfl
        have hBw : B ≤ wr.heap.size := Nat.le_trans hB HZ.out
        have HM : Hid (∀ W K, Ge B W (e k).inn → B ≤ W.heap.size → K = ((k0 + EffectR.tot e k + k * 2 + 2 : Nat) : Int) → Calls Try.prog 53 #[.slice (e k).sA (e k).sn (e k).sc, .int .i64 K] W fun r1 v' => r1 = .returned (.int .i64 ((k0 + EffectR.tot e k + k * 2 + 2 + (e k).sn : Nat) : Int)) ∧ Ge B v' (fe (e k).sA (e k).sn (mk (k0 + EffectR.tot e k + k * 2 + 2) (e k).sn)) ∧ (∀ b, b < W.heap.size → ¬ (e k).inn.S b → v'.heap[b]? = W.heap[b]?) ∧ W.Since B v') := Lib.hid (fun W K hW hBW hK => mark_only (e k).sA (e k).sn (e k).sx (e k).sc _ K W B hW hBW hn3 (by omega) hK)
        have hgin : Hid (¬ (e k).inn.S g) := Lib.hid (fun h7 => HAL.out.1 k hlt g HSG.out h7)
        (try simp only [Nat.add_zero] at hcell)
        have hgw : g < wr.heap.size := HG.out.lt
        have pd0 := HG.out.cell (j := k * 3 + 0) (by omega)
        have pf0 := HG.out.free (k * 3 + 0)
        have pd1 := HG.out.cell (j := k * 3 + 1) (by omega)
        have pf1 := HG.out.free (k * 3 + 1)
        simp only [Nat.add_zero] at pd0 pf0 pd1 pf1
        go_wp2_with fail
        generalize hW1 : World.setCell _ _ _ = W1
        have Z1 : Hid (W1.heap.size = wr.heap.size) := Lib.hid (by rw [← hW1]; simp only [Go.Deep.nblk_setCell])
        have O1 : Hid (∀ b, b ≠ g → W1.heap[b]? = wr.heap[b]?) := Lib.hid (fun b hb => by rw [← hW1]; rw [Go.Deep.blk_setCell_other _ _ _ _ hb]; rw [Go.Deep.blk_setCell_other _ _ _ _ hb])
        have G1 : Hid (∃ f1, GF W1 g 27 (n * 3) f1 ∧ ∀ j, (k + 1) * 3 ≤ j → f1 j = f j) := Lib.hid (by
          rw [← hW1]
          exact ⟨_, (HG.out.set (k * 3) _).set (k * 3 + 1) _, fun j hj => by simp only [show ¬ j = k * 3 by omega, show ¬ j = k * 3 + 1 by omega, if_false, ite_false]⟩)
        have S1 : Hid (wr.Since B W1) := Lib.hid (by rw [← hW1]; exact (((World.Since.refl _ _).setCell hg _).setCell hg _))
        clear hW1
        refine (HM.out W1 _ ((HIN.out k (Nat.le_refl _) hlt).keep (fun b hb => O1.out b fun h8 => hgin.out (h8 ▸ hb)) (by rw [Z1.out]; exact Nat.le_refl _)) (by rw [Z1.out]; exact hBw) (by push_cast; omega)).mono ?_
        rintro e1 w2 ⟨rfl, hg2, ho2, hs2⟩
        obtain ⟨f1, hg1, hf1⟩ := G1.out
        have HF1 := Lib.hid hf1
        have HG2 : Hid (GF w2 g 27 (n * 3) f1) := Lib.hid (hg1.of (ho2 g (by rw [Z1.out]; exact hgw) hgin.out))
        have HO2 := Lib.hid ho2; have HS2 := Lib.hid hs2
        clear hg2 ho2 hs2 hcell hg1 hf1 G1
        go_wp2
        go_roundw
        case rel =>
          refine ⟨k + 1, f1, by omega, by go_num, ?_, HG2.out, fun j hj hj2 => ?_, fun j hj hj2 => ?_, fun b hb hnb => ?_, ?_, ?_⟩
          · rw [HTK.out]; go_num
          · rw [HF1.out j (by omega)]; exact HFF.out j (by omega) hj2
          · have hne : ∀ b, (e j).inn.S b → b ≠ g := fun b hb h8 => HAL.out.1 j hj2 g HSG.out (h8 ▸ hb)
            have hap : ∀ b, (e j).inn.S b → ¬ (e k).inn.S b := fun b hb h8 => HAL.out.2 j k hj2 hlt (by omega) b hb h8
            have h9 := HIN.out j (by omega) hj2
            refine h9.keep (fun b hb => ?_) (by have h5 := HS2.out.size; rw [Z1.out] at h5; exact h5)
            exact (HO2.out b (by rw [Z1.out]; exact (h9.2.2 b hb).2) (hap b hb)).trans (O1.out b (hne b hb))
          · have hne : b ≠ g := fun h8 => hnb (.inl (h8 ▸ HSG.out))
            have hap : ¬ (e k).inn.S b := fun h8 => hnb (.inr ⟨k, hlt, h8⟩)
            exact (HO2.out b (by rw [Z1.out]; exact Nat.lt_of_lt_of_le hb HZ.out) hap).trans ((O1.out b hne).trans (HO.out b hb hnb))
          · have h5 := HS2.out.size; rw [Z1.out] at h5; exact Nat.le_trans HZ.out h5
          · exact (HS.out.trans S1.out).trans HS2.out
        case measure => simp [intOf]; omega
      · obtain rfl : k = n := by omega
        go_wp2
        go_ret
        exact ⟨rfl, HH.out.otherEffect HO.out HZ.out, HS.out⟩
  · obtain rfl : n = 0 := by omega
    clear h
    go_enter Try.func28, Try.ntmps28
    go_wp2
    go_loopw [1, 5] (fun kv i wr => i = .int .i64 0 ∧ kv = .int .i64 k0 ∧ wr = v) (fun _ _ _ => 0)
    case atStart => exact ⟨rfl, rfl, rfl⟩
    case round =>
      obtain ⟨rfl, rfl, rfl⟩ := hrel
      go_wp2
      go_ret
      exact ⟨by simp [EffectR.tot], HH.out.2, World.Since.refl _ _⟩
theorem EffectR.like_ok {x y : EffectR} (h : x.like y) (hy : y.ok) : x.ok := trivial
theorem EffectR.like_tr {x y z : EffectR} (h : x.like z) (k : y.like z) : x.like y := by
  obtain ⟨x_k, x_l, x_sA, x_sn, x_sc, x_sx⟩ := x
  obtain ⟨y_k, y_l, y_sA, y_sn, y_sc, y_sx⟩ := y
  obtain ⟨w_k, w_l, w_sA, w_sn, w_sc, w_sx⟩ := z
  simp only [EffectR.like] at *
  obtain ⟨rfl, rfl, rfl, rfl⟩ := h
  obtain ⟨rfl, rfl, rfl, rfl⟩ := k
  exact ⟨rfl, rfl, rfl, rfl⟩
theorem EffectR.tot_like {e x : Nat → EffectR} {n : Nat} (h : ∀ k, k < n → (e k).like (x k)) : EffectR.tot e n = EffectR.tot x n := by
  induction n with
  | zero => rfl
  | succ n ih =>
    show EffectR.tot e n + (e n).sn = EffectR.tot x n + (x n).sn
    rw [ih fun k hk => h k (by omega), (h n (by omega)).1]
def EffectR.wf (W : World) (x : EffectR) : Prop := x.ok ∧ Fs W W.heap.size x.sA x.sn x.sx ∧ x.sn ≤ 9223372036854775807 ∧ (Lit.int .i64 x.k).wf = true ∧ (Lit.int .i64 x.l).wf = true
section
open Go.ChangeShapes Go.WideShapes Go.Deep
variable {H : Type} {enc : TypeId × Value → H} {P : Program} {w : World} {base : Nat}
theorem openEffect_row {t te : TypeId} {f0 f1 f2 : Field} (hs : P.underlying t = some (.struct #[f0, f1, f2])) (hone : oneCellFields P #[f0, f1, f2] = true) (hC : P.cellsOf t = 3) (hte : P.underlying te = some (.float .f32)) (hce : P.cellsOf te = 1) (h0 : P.underlying f0.type = some (.int .i64)) (h1 : P.underlying f1.type = some (.int .i64)) (h2 : P.underlying f2.type = some (.slice te))
    (fuel : Nat) (cs : List Value) (x : DataW H × List MemPlace) (h : DataW.trod enc P w base (fun _ => true) true fuel t cs = some x) : ∃ y : EffectR, y.wf w ∧ y.cells = cs := by
  obtain ⟨hl, hc⟩ := row_cells hs hone hC h
  obtain ⟨c0, y0, n0, e0, t0⟩ := hc 0 f0 rfl
  obtain ⟨x0, hx0, w0⟩ := trod_int h0 t0
  injection hx0 with hx0 _; subst hx0
  obtain ⟨c1, y1, n1, e1, t1⟩ := hc 1 f1 rfl
  obtain ⟨x1, hx1, w1⟩ := trod_int h1 t1
  injection hx1 with hx1 _; subst hx1
  obtain ⟨c2, y2, n2, e2, t2⟩ := hc 2 f2 rfl
  obtain ⟨xA, xn, xc, xx, hx2, w2, wn2⟩ := trod_fs h2 hte hce t2
  subst hx2
  refine ⟨⟨x0, x1, xA, xn, xc, xx⟩, ⟨trivial, w2, wn2, w0, w1⟩, ?_⟩
  unfold EffectR.cells
  match cs, hl with
  | [d0, d1, d2], _ =>
    have g0 : d0 = _ := Option.some.inj e0
    have g1 : d1 = _ := Option.some.inj e1
    have g2 : d2 = _ := Option.some.inj e2
    rw [g0, g1, g2]
end
end Go.Proofs.Ytbgjmmncjmcjfaa

/- Valid effects and chains, of the model. -/
set_option linter.unusedVariables false
set_option linter.unusedSimpArgs false
namespace Go.Proofs.Ytbgjmmncjmcjfaa
open Fl Go.RowKit
/-- a finite number greater than 0 -/
def limB (x : Nat) : Bool := finB x && (FloatKind.f32.format.order x 0 == some .gt)
abbrev geLim (x : Nat) : Bool := FloatKind.f32.format.order x 1 == some .gt || FloatKind.f32.format.order x 1 == some .eq
abbrev leLim (x : Nat) : Bool := FloatKind.f32.format.order x 2139095039 == some .lt || FloatKind.f32.format.order x 2139095039 == some .eq
theorem limB_lim (x : Nat) (hx : x < 4294967296) : (geLim x && leLim x) = limB x := by
  unfold limB geLim leLim finB
  by_cases hn : 2139095040 < x % 2147483648
  · have h0 : ab .f32 x = none := by rw [ab32, if_pos hn]
    have h1 : ∀ c, FloatKind.f32.format.order x c = none := fun c => by rw [order_ab, h0]; rfl
    rw [h1, h1, h1, decide_eq_false (by omega)]; rfl
  · have hb : ab .f32 x = some x := by rw [ab32, if_neg hn]
    have h1 : ab .f32 1 = some 1 := by rw [ab32]; rfl
    have h2 : ab .f32 2139095039 = some 2139095039 := by rw [ab32]; rfl
    have k1 : key .f32 1 = 1 := by rw [key32 1 (by omega)]; rfl
    have k2 : key .f32 2139095039 = 2139095039 := by rw [key32 2139095039 (by omega)]; rfl
    have kb := key32 x hx
    rw [ord_zero32 hx hb, order_key .f32 hb h1, order_key .f32 hb h2, cmp_def, cmp_def, k1, k2]
    by_cases hs : x < 2147483648
    · rw [if_pos hs] at kb
      rw [kb]
      by_cases h0 : x % 2147483648 = 0
      · have hx0 : x = 0 := by omega
        subst hx0; decide
      · rw [if_neg h0, if_pos hs]
        by_cases hf : x % 2147483648 < 2139095040
        · rw [decide_eq_true hf, if_neg (show ¬ (x : Int) < 1 by omega)]
          by_cases h3 : (x : Int) = 1
          · rw [if_pos h3, if_pos (show (x : Int) < 2139095039 by omega)]; rfl
          · rw [if_neg h3]
            by_cases h4 : (x : Int) < 2139095039
            · rw [if_pos h4]; rfl
            · rw [if_neg h4, if_pos (show (x : Int) = 2139095039 by omega)]; rfl
        · rw [decide_eq_false hf, if_neg (show ¬ (x : Int) < 2139095039 by omega), if_neg (show ¬ (x : Int) = 2139095039 by omega)]
          simp
    · rw [if_neg hs] at kb
      rw [kb, if_pos (show -((x : Int) - 2147483648) < 1 by omega)]
      by_cases h0 : x % 2147483648 = 0
      · rw [if_pos h0]; simp
      · rw [if_neg h0, if_neg hs]; simp
theorem specFinE_any (x : Nat) (b : Bool) (w : World) (hx : x < 4294967296) (h : finB x = b) :
    Calls Try.prog 114 #[.float .f32 x] w fun e w' => e = .returned (.bool b) ∧ w.Since w.heap.size w' := by
  subst h
  go_enter Try.func114, Try.ntmps114
  go_wp2_with (first | (with_reducible_and_instances refine wpList_fop _ rfl _ _ _ _ _ rfl _ _ _ rfl rfl rfl ?_; intro r n hr))
  go_ret
  refine ⟨ret_bool ?_, since_drewN (World.Since.refl _ _) _⟩
  rw [order_ab, hr.2, sub_self_any, rung32, ir32]
  unfold finB
  by_cases h : x % 2147483648 < 2139095040
  · rw [if_pos h, decide_eq_true h]; rfl
  · rw [if_neg h, decide_eq_false h]; rfl
theorem specLimit_b (x : Nat) (b : Bool) (w : World) (hx : x < 4294967296) (h : limB x = b) :
    Calls Try.prog 87 #[.float .f32 x] w fun e w' => e = .returned (.bool b) ∧ w.Since w.heap.size w' := by
  subst h
  unfold limB
  cases h1 : finB x
  · go_enter Try.func87, Try.ntmps87
    go_wp2_with (first | (go_at_call 114; refine (specFinE_any x false _ hx h1).mono ?_; rintro e w' ⟨rfl, hs⟩; have HS := Lib.hid hs; clear hs))
    go_ret
    exact ⟨rfl, HS.out⟩
  · cases h2 : FloatKind.f32.format.order x 0 == some .gt
    all_goals
      go_enter Try.func87, Try.ntmps87
      go_wp2_with (first | (go_at_call 114; refine (specFinE_any x true _ hx h1).mono ?_; rintro e w' ⟨rfl, hs⟩; have HS := Lib.hid hs; clear hs))
      go_ret
      exact ⟨rfl, HS.out⟩
theorem implLimit_b (x : Nat) (b : Bool) (w : World) (hx : x < 4294967296) (h : limB x = b) :
    Calls Try.prog 69 #[.float .f32 x] w fun e w' => e = .returned (.bool b) ∧ w.Since w.heap.size w' := by
  subst h
  rw [← limB_lim x hx]
  have H : ∀ W, Calls Try.prog 112 #[.agg #[.float .f32 1, .float .f32 2139095039], .float .f32 x] W fun e w' => e = .returned (.bool (geLim x && leLim x)) ∧ W.Since W.heap.size w' := fun W => by
    cases h1 : geLim x <;> cases h2 : leLim x
    all_goals
      go_enter Try.func112, Try.ntmps112
      go_wp2
      go_ret
      exact ⟨rfl, by (repeat (first | (with_reducible refine Fl.sinDrew ?_) | (with_reducible refine World.Since.drew ?_) | (with_reducible refine Fl.sinSet ?_ ?_; rotate_left) | (with_reducible refine Fl.sinAlloc ?_ ?_; rotate_left) | with_reducible exact World.Since.refl _ _ | with_reducible assumption | (with_reducible refine Fl.sinStep (by with_reducible assumption) ?_))); all_goals (first | omega | (simp; done) | (simp; omega) | (simp [go_sem]; done) | (simp [go_sem]; omega))⟩
  have HH := Lib.hid H
  clear H
  generalize (geLim x && leLim x) = b at HH ⊢
  go_enter Try.func69, Try.ntmps69
  go_wp2_with (first | (go_at_call 112; refine (HH.out _).mono ?_; rintro e w' ⟨rfl, hs⟩; have HS := Lib.hid hs; clear hs))
  go_ret
  exact ⟨rfl, HS.out⟩
/-- how many numbers, how many kept, and which lengths an effect has -/
def cntE (k : Int) : Int := if k = 0 then 1 else if k = 1 then 5 else if k = 2 then 2 else if k = 3 then 4 else if k = 4 then 1 else if k = 5 then 0 else if k = 6 then 2 else -1
def keepE (k l : Int) : Int := if k = 0 then 0 else if k = 1 then 2 else if k = 2 then l else if k = 3 then 1 else if k = 4 then 0 else if k = 5 then 0 else if k = 6 then 1 + l else -1
def lowE (k : Int) : Int := if k = 2 then 1 else 0
def highE (k : Int) : Int := if k = 2 then 32 else if k = 6 then 32 else 0
def effB (x : EffectR) : Bool := inB x.l (lowE x.k) (highE x.k) && decide ((x.sn : Int) = cntE x.k) && (!decide (x.k = 6) || limB (wd x.sx 0))
theorem kinds (k : Int) : (k = 0 ∨ k = 1 ∨ k = 2 ∨ k = 3 ∨ k = 4 ∨ k = 5 ∨ k = 6) ∨ (¬ k = 0 ∧ ¬ k = 1 ∧ ¬ k = 2 ∧ ¬ k = 3 ∧ ¬ k = 4 ∧ ¬ k = 5 ∧ ¬ k = 6) := by omega
theorem effB_facts {x : EffectR} (h : effB x = true) : 0 ≤ x.l ∧ x.l ≤ 32 ∧ (x.k = 0 ∨ x.k = 1 ∨ x.k = 2 ∨ x.k = 3 ∨ x.k = 4 ∨ x.k = 5 ∨ x.k = 6) ∧ (x.sn : Int) = cntE x.k := by
  unfold effB inB at h
  simp only [Bool.and_eq_true, decide_eq_true_eq] at h
  obtain ⟨⟨⟨h1, h2⟩, h3⟩, _⟩ := h
  have h4 : 0 ≤ lowE x.k := by unfold lowE; split <;> decide
  have h5 : highE x.k ≤ 32 := by unfold highE; split <;> (try split) <;> decide
  refine ⟨by omega, by omega, ?_, h3⟩
  rcases kinds x.k with h | ⟨k0, k1, k2, k3, k4, k5, k6⟩
  · exact h
  · unfold cntE at h3
    rw [if_neg k0, if_neg k1, if_neg k2, if_neg k3, if_neg k4, if_neg k5, if_neg k6] at h3
    omega
theorem specCounts_any (k l : Int) (w : World) (h0 : 0 ≤ l) (h1 : l ≤ 32) :
    Calls Try.prog 111 #[.int .i64 k, .int .i64 l] w fun e w' => e = .returned (.tuple #[.int .i64 (cntE k), .int .i64 (keepE k l)]) ∧ w' = w := by
  rcases kinds k with (rfl | rfl | rfl | rfl | rfl | rfl | rfl) | ⟨k0, k1, k2, k3, k4, k5, k6⟩
  · go_enter Try.func111, Try.ntmps111
    go_wp2
    go_ret2
    exact ⟨rfl, rfl⟩
  · go_enter Try.func111, Try.ntmps111
    go_wp2
    go_ret2
    exact ⟨rfl, rfl⟩
  · go_enter Try.func111, Try.ntmps111
    go_wp2
    go_ret2
    exact ⟨rfl, rfl⟩
  · go_enter Try.func111, Try.ntmps111
    go_wp2
    go_ret2
    exact ⟨rfl, rfl⟩
  · go_enter Try.func111, Try.ntmps111
    go_wp2
    go_ret2
    exact ⟨rfl, rfl⟩
  · go_enter Try.func111, Try.ntmps111
    go_wp2
    go_ret2
    exact ⟨rfl, rfl⟩
  · go_enter Try.func111, Try.ntmps111
    go_wp2
    go_ret2
    exact ⟨rfl, rfl⟩
  · have e1 : cntE k = -1 := by unfold cntE; rw [if_neg k0, if_neg k1, if_neg k2, if_neg k3, if_neg k4, if_neg k5, if_neg k6]
    have e2 : keepE k l = -1 := by unfold keepE; rw [if_neg k0, if_neg k1, if_neg k2, if_neg k3, if_neg k4, if_neg k5, if_neg k6]
    rw [e1, e2]
    clear e1 e2
    go_enter Try.func111, Try.ntmps111
    go_wp2
    go_ret2
    exact ⟨rfl, rfl⟩
set_option maxHeartbeats 8000000 in
set_option maxRecDepth 100000 in
theorem specEffect_b (g o : Nat) (x : EffectR) (b : Bool) (w : World) (B : Nat) (hB : B ≤ w.heap.size) (c0 : w.cell? ⟨g, o, none⟩ = some (.int .i64 x.k)) (c1 : w.cell? ⟨g, o + 1, none⟩ = some (.int .i64 x.l)) (c2 : w.cell? ⟨g, o + 2, none⟩ = some (.slice x.sA x.sn x.sc))
    (hF : Fs w B x.sA x.sn x.sx) (hg : g < w.heap.size) (hb : effB x = b) :
    Calls Try.prog 66 #[.pointer (some ⟨g, o, none⟩)] w fun e w' => e = .returned (.bool b) ∧ w.Since w.heap.size w' := by
  obtain ⟨k, l, sA, sn, sc, sx⟩ := x
  simp only at c0 c1 c2 hF
  have HF := Lib.hid hF
  subst hb
  unfold effB
  simp only
  clear hF
  have HIN : Hid (∀ lo hi r, inB l lo hi = r → ∀ W, Calls Try.prog 78 #[.int .i64 l, .int .i64 lo, .int .i64 hi] W fun e w' => e = .returned (.bool r) ∧ W = w') := Lib.hid (fun lo hi r h W => specHold_b l lo hi r W h)
  rcases kinds k with h | ⟨k0, k1, k2, k3, k4, k5, k6⟩
  · have e6 : Hid (k = 6 → 0 < sn → ∃ gs os, sA = some ⟨gs, os, none⟩ ∧ wd sx 0 < 4294967296 ∧ ∀ w1 : World, w.Since w.heap.size w1 → w1.cell? ⟨gs, os, none⟩ = some (.float .f32 (wd sx 0))) := Lib.hid (fun _ h0 => by
      obtain ⟨gs, os, es, hgs, hcs⟩ := HF.out.2.2 h0
      refine ⟨gs, os, es, HF.out.2.1.at_ 0, fun w1 hs => ?_⟩
      rw [hs.cell (a := ⟨gs, os, none⟩) (by show gs < _; omega)]
      have := hcs 0 h0
      rw [Nat.add_zero] at this
      exact this)
    cases h1 : inB l (lowE k) (highE k)
    · have HI := Lib.hid (HIN.out _ _ _ h1)
      clear HIN h1 e6
      rcases h with rfl | rfl | rfl | rfl | rfl | rfl | rfl
      all_goals
        simp only [lowE, highE, if_true, if_false, ite_true, ite_false, Int.reduceEq, reduceIte] at HI
        go_enter Try.func66, Try.ntmps66
        go_wp2_with (first | (go_at_call 78; refine (HI.out _).mono ?_; rintro e w' ⟨rfl, rfl⟩))
        go_ret
        exact ⟨rfl, by (repeat (first | (with_reducible refine Fl.sinDrew ?_) | (with_reducible refine World.Since.drew ?_) | (with_reducible refine Fl.sinSet ?_ ?_; rotate_left) | (with_reducible refine Fl.sinAlloc ?_ ?_; rotate_left) | with_reducible exact World.Since.refl _ _ | with_reducible assumption | (with_reducible refine Fl.sinStep (by with_reducible assumption) ?_))); all_goals (first | omega | (simp; done) | (simp; omega) | (simp [go_sem]; done) | (simp [go_sem]; omega))⟩
    · have HI := Lib.hid (HIN.out _ _ _ h1)
      have hl : 0 ≤ l ∧ l ≤ 32 := by
        have h4 : 0 ≤ lowE k := by unfold lowE; split <;> decide
        have h5 : highE k ≤ 32 := by unfold highE; split <;> (try split) <;> decide
        unfold inB at h1
        simp only [Bool.and_eq_true, decide_eq_true_eq] at h1
        omega
      have HC := Lib.hid (fun W => specCounts_any k l W hl.1 hl.2)
      clear HIN h1 hl
      by_cases h2 : (sn : Int) = cntE k
      · rw [decide_eq_true h2]
        by_cases h6 : k = 6
        · subst h6
          have h3 : (sn : Int) = 2 := h2
          obtain rfl : sn = 2 := by omega
          obtain ⟨gs, os, rfl, hwd, hcs⟩ := e6.out rfl (by decide)
          have HCS := Lib.hid hcs
          have cs := hcs w (World.Since.refl _ _)
          have HL := Lib.hid (fun b (hb : limB (wd sx 0) = b) W => specLimit_b (wd sx 0) b W hwd hb)
          clear h h2 h3 e6 hcs
          simp only [lowE, highE, if_true, if_false, ite_true, ite_false, Int.reduceEq, reduceIte] at HI
          simp only [cntE, keepE, if_true, if_false, ite_true, ite_false, Int.reduceEq, reduceIte] at HC
          cases h7 : limB (wd sx 0)
          all_goals
            go_enter Try.func66, Try.ntmps66
            go_wp2_with (first | (go_at_call 78; refine (HI.out _).mono ?_; rintro e w' ⟨rfl, rfl⟩))
            go_quiet (first | (go_at_call 111; refine Calls.quiet_of_same (HC.out _)))
            go_wp2_with (first  | (go_at_call 87; refine (HL.out _ h7 _).mono ?_; rintro e w' ⟨rfl, hs⟩; have HS := Lib.hid hs; clear hs))
            go_ret
            exact ⟨rfl, by have hs0 := HS.out; exact since_step (since_drewN (World.Since.refl _ _) _) hs0⟩
        · rw [decide_eq_false h6]
          clear e6
          rcases h with rfl | rfl | rfl | rfl | rfl | rfl | rfl
          all_goals first | (exact absurd rfl h6) | skip
          all_goals
            simp only [lowE, highE, if_true, if_false, ite_true, ite_false, Int.reduceEq, reduceIte] at HI
            simp only [cntE, keepE, if_true, if_false, ite_true, ite_false, Int.reduceEq, reduceIte] at HC h2
            go_enter Try.func66, Try.ntmps66
            go_wp2_with (first | (go_at_call 78; refine (HI.out _).mono ?_; rintro e w' ⟨rfl, rfl⟩))
            go_quiet (first | (go_at_call 111; refine Calls.quiet_of_same (HC.out _)))
            go_wp2
            go_ret
            exact ⟨rfl, by (repeat (first | (with_reducible refine Fl.sinDrew ?_) | (with_reducible refine World.Since.drew ?_) | (with_reducible refine Fl.sinSet ?_ ?_; rotate_left) | (with_reducible refine Fl.sinAlloc ?_ ?_; rotate_left) | with_reducible exact World.Since.refl _ _ | with_reducible assumption | (with_reducible refine Fl.sinStep (by with_reducible assumption) ?_))); all_goals (first | omega | (simp; done) | (simp; omega) | (simp [go_sem]; done) | (simp [go_sem]; omega))⟩
      · rw [decide_eq_false h2]
        clear e6
        rcases h with rfl | rfl | rfl | rfl | rfl | rfl | rfl
        all_goals
          simp only [lowE, highE, if_true, if_false, ite_true, ite_false, Int.reduceEq, reduceIte] at HI
          simp only [cntE, keepE, if_true, if_false, ite_true, ite_false, Int.reduceEq, reduceIte] at HC h2
          go_enter Try.func66, Try.ntmps66
          go_wp2_with (first | (go_at_call 78; refine (HI.out _).mono ?_; rintro e w' ⟨rfl, rfl⟩))
          go_quiet (first | (go_at_call 111; refine Calls.quiet_of_same (HC.out _)))
          go_wp2
          go_ret
          exact ⟨rfl, by (repeat (first | (with_reducible refine Fl.sinDrew ?_) | (with_reducible refine World.Since.drew ?_) | (with_reducible refine Fl.sinSet ?_ ?_; rotate_left) | (with_reducible refine Fl.sinAlloc ?_ ?_; rotate_left) | with_reducible exact World.Since.refl _ _ | with_reducible assumption | (with_reducible refine Fl.sinStep (by with_reducible assumption) ?_))); all_goals (first | omega | (simp; done) | (simp; omega) | (simp [go_sem]; done) | (simp [go_sem]; omega))⟩
  · have e1 : cntE k = -1 := by unfold cntE; rw [if_neg k0, if_neg k1, if_neg k2, if_neg k3, if_neg k4, if_neg k5, if_neg k6]
    have h2 : ¬ (sn : Int) = cntE k := by omega
    rw [decide_eq_false h2]
    have e3 : lowE k = 0 := by unfold lowE; rw [if_neg k2]
    have e4 : highE k = 0 := by unfold highE; rw [if_neg k2, if_neg k6]
    have h3 : ¬ (sn : Int) = -1 := by omega
    rw [e3, e4]
    cases h1 : inB l 0 0
    · have HI := Lib.hid (HIN.out _ _ _ h1)
      clear HIN h1 e1 e3 e4 h2
      go_enter Try.func66, Try.ntmps66
      go_wp2_with (first | (go_at_call 78; refine (HI.out _).mono ?_; rintro e w' ⟨rfl, rfl⟩))
      go_ret
      exact ⟨rfl, by (repeat (first | (with_reducible refine Fl.sinDrew ?_) | (with_reducible refine World.Since.drew ?_) | (with_reducible refine Fl.sinSet ?_ ?_; rotate_left) | (with_reducible refine Fl.sinAlloc ?_ ?_; rotate_left) | with_reducible exact World.Since.refl _ _ | with_reducible assumption | (with_reducible refine Fl.sinStep (by with_reducible assumption) ?_))); all_goals (first | omega | (simp; done) | (simp; omega) | (simp [go_sem]; done) | (simp [go_sem]; omega))⟩
    · have HI := Lib.hid (HIN.out _ _ _ h1)
      have hl : 0 ≤ l ∧ l ≤ 32 := by
        unfold inB at h1
        simp only [Bool.and_eq_true, decide_eq_true_eq] at h1
        omega
      have HC := Lib.hid (fun W => specCounts_any k l W hl.1 hl.2)
      simp only [e1] at HC
      clear HIN h1 e1 e3 e4 h2 hl
      go_enter Try.func66, Try.ntmps66
      go_wp2_with (first | (go_at_call 78; refine (HI.out _).mono ?_; rintro e w' ⟨rfl, rfl⟩))
      go_quiet (first | (go_at_call 111; refine Calls.quiet_of_same (HC.out _)))
      go_wp2
      go_ret
      exact ⟨rfl, by (repeat (first | (with_reducible refine Fl.sinDrew ?_) | (with_reducible refine World.Since.drew ?_) | (with_reducible refine Fl.sinSet ?_ ?_; rotate_left) | (with_reducible refine Fl.sinAlloc ?_ ?_; rotate_left) | with_reducible exact World.Since.refl _ _ | with_reducible assumption | (with_reducible refine Fl.sinStep (by with_reducible assumption) ?_))); all_goals (first | omega | (simp; done) | (simp; omega) | (simp [go_sem]; done) | (simp [go_sem]; omega))⟩
end Go.Proofs.Ytbgjmmncjmcjfaa

/- Valid effects and chains, of the program; chains, of both; lateness. -/
set_option linter.unusedVariables false
set_option linter.unusedSimpArgs false
namespace Go.Proofs.Ytbgjmmncjmcjfaa
open Fl Go.RowKit
def restE (k : Int) : Int := if k = 1 then 2 else if k = 3 then 1 else if k = 6 then 1 else 0
theorem shapeOf_ok (k : Int) (w : World) (h : k = 0 ∨ k = 1 ∨ k = 2 ∨ k = 3 ∨ k = 4 ∨ k = 5 ∨ k = 6) :
    Calls Try.prog 67 #[.int .i64 k] w fun e w' => e = .returned (.tuple #[.agg #[.int .i64 (cntE k), .int .i64 (lowE k), .int .i64 (highE k), .int .i64 (restE k)], .bool true]) ∧ w.Since w.heap.size w' := by
  rcases h with rfl | rfl | rfl | rfl | rfl | rfl | rfl
  · go_enter Try.func67, Try.ntmps67
    go_wp2
    exact bodyPost_ret (v := .tuple #[.agg #[.int .i64 1, .int .i64 0, .int .i64 0, .int .i64 0], .bool true]) (by simp [results, Try.results67, go_sem]) rfl ⟨rfl, by (repeat (first | (with_reducible refine Fl.sinDrew ?_) | (with_reducible refine World.Since.drew ?_) | (with_reducible refine Fl.sinSet ?_ ?_; rotate_left) | (with_reducible refine Fl.sinAlloc ?_ ?_; rotate_left) | with_reducible exact World.Since.refl _ _ | with_reducible assumption | (with_reducible refine Fl.sinStep (by with_reducible assumption) ?_))); all_goals (first | omega | (simp; done) | (simp; omega) | (simp [go_sem]; done) | (simp [go_sem]; omega))⟩
  · go_enter Try.func67, Try.ntmps67
    go_wp2
    exact bodyPost_ret (v := .tuple #[.agg #[.int .i64 5, .int .i64 0, .int .i64 0, .int .i64 2], .bool true]) (by simp [results, Try.results67, go_sem]) rfl ⟨rfl, by (repeat (first | (with_reducible refine Fl.sinDrew ?_) | (with_reducible refine World.Since.drew ?_) | (with_reducible refine Fl.sinSet ?_ ?_; rotate_left) | (with_reducible refine Fl.sinAlloc ?_ ?_; rotate_left) | with_reducible exact World.Since.refl _ _ | with_reducible assumption | (with_reducible refine Fl.sinStep (by with_reducible assumption) ?_))); all_goals (first | omega | (simp; done) | (simp; omega) | (simp [go_sem]; done) | (simp [go_sem]; omega))⟩
  · go_enter Try.func67, Try.ntmps67
    go_wp2
    exact bodyPost_ret (v := .tuple #[.agg #[.int .i64 2, .int .i64 1, .int .i64 32, .int .i64 0], .bool true]) (by simp [results, Try.results67, go_sem]) rfl ⟨rfl, by (repeat (first | (with_reducible refine Fl.sinDrew ?_) | (with_reducible refine World.Since.drew ?_) | (with_reducible refine Fl.sinSet ?_ ?_; rotate_left) | (with_reducible refine Fl.sinAlloc ?_ ?_; rotate_left) | with_reducible exact World.Since.refl _ _ | with_reducible assumption | (with_reducible refine Fl.sinStep (by with_reducible assumption) ?_))); all_goals (first | omega | (simp; done) | (simp; omega) | (simp [go_sem]; done) | (simp [go_sem]; omega))⟩
  · go_enter Try.func67, Try.ntmps67
    go_wp2
    exact bodyPost_ret (v := .tuple #[.agg #[.int .i64 4, .int .i64 0, .int .i64 0, .int .i64 1], .bool true]) (by simp [results, Try.results67, go_sem]) rfl ⟨rfl, by (repeat (first | (with_reducible refine Fl.sinDrew ?_) | (with_reducible refine World.Since.drew ?_) | (with_reducible refine Fl.sinSet ?_ ?_; rotate_left) | (with_reducible refine Fl.sinAlloc ?_ ?_; rotate_left) | with_reducible exact World.Since.refl _ _ | with_reducible assumption | (with_reducible refine Fl.sinStep (by with_reducible assumption) ?_))); all_goals (first | omega | (simp; done) | (simp; omega) | (simp [go_sem]; done) | (simp [go_sem]; omega))⟩
  · go_enter Try.func67, Try.ntmps67
    go_wp2
    exact bodyPost_ret (v := .tuple #[.agg #[.int .i64 1, .int .i64 0, .int .i64 0, .int .i64 0], .bool true]) (by simp [results, Try.results67, go_sem]) rfl ⟨rfl, by (repeat (first | (with_reducible refine Fl.sinDrew ?_) | (with_reducible refine World.Since.drew ?_) | (with_reducible refine Fl.sinSet ?_ ?_; rotate_left) | (with_reducible refine Fl.sinAlloc ?_ ?_; rotate_left) | with_reducible exact World.Since.refl _ _ | with_reducible assumption | (with_reducible refine Fl.sinStep (by with_reducible assumption) ?_))); all_goals (first | omega | (simp; done) | (simp; omega) | (simp [go_sem]; done) | (simp [go_sem]; omega))⟩
  · go_enter Try.func67, Try.ntmps67
    go_wp2
    exact bodyPost_ret (v := .tuple #[.agg #[.int .i64 0, .int .i64 0, .int .i64 0, .int .i64 0], .bool true]) (by simp [results, Try.results67, go_sem]) rfl ⟨rfl, by (repeat (first | (with_reducible refine Fl.sinDrew ?_) | (with_reducible refine World.Since.drew ?_) | (with_reducible refine Fl.sinSet ?_ ?_; rotate_left) | (with_reducible refine Fl.sinAlloc ?_ ?_; rotate_left) | with_reducible exact World.Since.refl _ _ | with_reducible assumption | (with_reducible refine Fl.sinStep (by with_reducible assumption) ?_))); all_goals (first | omega | (simp; done) | (simp; omega) | (simp [go_sem]; done) | (simp [go_sem]; omega))⟩
  · go_enter Try.func67, Try.ntmps67
    go_wp2
    exact bodyPost_ret (v := .tuple #[.agg #[.int .i64 2, .int .i64 0, .int .i64 32, .int .i64 1], .bool true]) (by simp [results, Try.results67, go_sem]) rfl ⟨rfl, by (repeat (first | (with_reducible refine Fl.sinDrew ?_) | (with_reducible refine World.Since.drew ?_) | (with_reducible refine Fl.sinSet ?_ ?_; rotate_left) | (with_reducible refine Fl.sinAlloc ?_ ?_; rotate_left) | with_reducible exact World.Since.refl _ _ | with_reducible assumption | (with_reducible refine Fl.sinStep (by with_reducible assumption) ?_))); all_goals (first | omega | (simp; done) | (simp; omega) | (simp [go_sem]; done) | (simp [go_sem]; omega))⟩
theorem shapeOf_no (k : Int) (w : World) (h : ¬ k = 0 ∧ ¬ k = 1 ∧ ¬ k = 2 ∧ ¬ k = 3 ∧ ¬ k = 4 ∧ ¬ k = 5 ∧ ¬ k = 6) :
    Calls Try.prog 67 #[.int .i64 k] w fun e w' => e = .returned (.tuple #[.agg #[.int .i64 0, .int .i64 0, .int .i64 0, .int .i64 0], .bool false]) ∧ w.Since w.heap.size w' := by
  obtain ⟨k0, k1, k2, k3, k4, k5, k6⟩ := h
  go_enter Try.func67, Try.ntmps67
  go_wp2
  exact bodyPost_ret (v := .tuple #[.agg #[.int .i64 0, .int .i64 0, .int .i64 0, .int .i64 0], .bool false]) (by simp [results, Try.results67, go_sem]) rfl ⟨rfl, by (repeat (first | (with_reducible refine Fl.sinDrew ?_) | (with_reducible refine World.Since.drew ?_) | (with_reducible refine Fl.sinSet ?_ ?_; rotate_left) | (with_reducible refine Fl.sinAlloc ?_ ?_; rotate_left) | with_reducible exact World.Since.refl _ _ | with_reducible assumption | (with_reducible refine Fl.sinStep (by with_reducible assumption) ?_))); all_goals (first | omega | (simp; done) | (simp; omega) | (simp [go_sem]; done) | (simp [go_sem]; omega))⟩
set_option maxHeartbeats 4000000 in
set_option maxRecDepth 100000 in
theorem implEffect_b (x : EffectR) (b : Bool) (w : World) (hF : Fs w w.heap.size x.sA x.sn x.sx) (hb : effB x = b) :
    Calls Try.prog 18 #[x.val] w fun e w' => e = .returned (.bool b) ∧ w.Since w.heap.size w' := by
  obtain ⟨k, l, sA, sn, sc, sx⟩ := x
  simp only at hF
  have HF := Lib.hid hF
  have HB := Lib.hid hb
  unfold effB at HB
  unfold EffectR.val
  simp only at HB
  clear hF hb
  obtain ⟨W1, hW1⟩ : ∃ W1, W1 = w.alloc (.cells #[.int .i64 k, .int .i64 l, .slice sA sn sc] 27) := ⟨_, rfl⟩
  have z1 : Hid (W1.heap.size = w.heap.size + 1) := Lib.hid (by rw [hW1]; simp)
  have S1 : Hid (w.Since w.heap.size W1) := Lib.hid (by rw [hW1]; exact (World.Since.refl _ _).alloc (Nat.le_refl _) _)
  have C0 : Hid (W1.cell? ⟨w.heap.size, 0, none⟩ = some (.int .i64 k)) := Lib.hid (by rw [hW1]; simp [go_sem])
  have C1 : Hid (W1.cell? ⟨w.heap.size, 1, none⟩ = some (.int .i64 l)) := Lib.hid (by rw [hW1]; simp [go_sem])
  have C2 : Hid (W1.cell? ⟨w.heap.size, 2, none⟩ = some (.slice sA sn sc)) := Lib.hid (by rw [hW1]; simp [go_sem])
  have HW1 := Lib.hid hW1
  clear hW1
  rcases kinds k with h | h
  · have HSH := Lib.hid (fun W => shapeOf_ok k W h)
    have HAL := Lib.hid (fun b (hb : inB l (lowE k) (highE k) = b) W => allowX_any (lowE k) (highE k) l W)
    generalize hlo : lowE k = lo at HSH HAL HB
    generalize hhi : highE k = hi at HSH HAL HB
    generalize hrs : restE k = rs at HSH
    have HCN : Hid (k = 6 → cntE k = 2) := Lib.hid (fun h => by rw [h]; rfl)
    generalize hcn : cntE k = cn at HSH HCN HB
    clear hlo hhi hrs hcn h
    go_enter Try.func18, Try.ntmps18
    go_wp2_with fail
    rw [← HW1.out]
    have c0 := C0.out
    go_wp2_with fail
    go_at_call 67
    refine (HSH.out _).mono ?_
    rintro e w2 ⟨rfl, hs⟩
    have S2 := Lib.hid hs; clear hs c0
    have z2 := S2.out.size
    have hz1 := z1.out
    have c0 := (S2.out.cell (a := ⟨w.heap.size, 0, none⟩) (by show w.heap.size < _; omega)).trans C0.out
    have c1 := (S2.out.cell (a := ⟨w.heap.size, 1, none⟩) (by show w.heap.size < _; omega)).trans C1.out
    have c2 := (S2.out.cell (a := ⟨w.heap.size, 2, none⟩) (by show w.heap.size < _; omega)).trans C2.out
    have hlt : w.heap.size < w2.heap.size := by omega
    have SS := Lib.hid (since_step S1.out S2.out)
    by_cases h2 : (sn : Int) = cn
    · rw [decide_eq_true h2] at HB
      cases h1 : inB l lo hi
      · have HA := Lib.hid (fun W => by have := HAL.out _ h1 W; rw [h1] at this; exact this)
        rw [h1] at HB
        obtain rfl : false = b := HB.out
        have h1' := Lib.hid h1; clear h1 HAL
        go_wp2_with (first | (go_at_call 68; refine (HA.out _).mono ?_; rintro e w1 ⟨rfl, rfl⟩))
        go_ret
        exact ⟨rfl, by have hs0 := SS.out; have hz0 := hs0.size; (repeat (first | (with_reducible refine Fl.sinDrew ?_) | (with_reducible refine World.Since.drew ?_) | (with_reducible refine Fl.sinSet ?_ ?_; rotate_left) | (with_reducible refine Fl.sinAlloc ?_ ?_; rotate_left) | with_reducible exact World.Since.refl _ _ | with_reducible assumption | (with_reducible refine Fl.sinStep (by with_reducible assumption) ?_))); all_goals (first | omega | (simp; done) | (simp; omega) | (simp [go_sem]; done) | (simp [go_sem]; omega))⟩
      · have HA := Lib.hid (fun W => by have := HAL.out _ h1 W; rw [h1] at this; exact this)
        rw [h1] at HB
        have h1' := Lib.hid h1; clear h1 HAL
        by_cases h6 : k = 6
        · have hn2 : (sn : Int) = 2 := by rw [h2]; exact HCN.out h6
          obtain ⟨gs, os, rfl, hgs, hcs⟩ := HF.out.2.2 (by omega)
          have hwd : wd sx 0 < 4294967296 := HF.out.2.1.at_ 0
          have cs := (SS.out.cell (a := ⟨gs, os + 0, none⟩) hgs).trans (hcs 0 (by omega))
          rw [Nat.add_zero] at cs
          unfold fv at cs
          have HL := Lib.hid (fun b (hb : limB (wd sx 0) = b) W => implLimit_b (wd sx 0) b W hwd hb)
          have hgs2 : gs < w2.heap.size := by omega
          clear hcs
          subst h6
          cases h7 : limB (wd sx 0)
          all_goals
            rw [h7] at HB
            obtain rfl : _ = b := HB.out
            have h7' := Lib.hid h7; clear h7
            go_wp2_with (first | (go_at_call 68; refine (HA.out _).mono ?_; rintro e w1 ⟨rfl, rfl⟩) | (go_at_call 69; refine (HL.out _ h7'.out _).mono ?_; rintro e w' ⟨rfl, hs⟩; have HS := Lib.hid hs; clear hs))
            go_ret
            refine ⟨rfl, ?_⟩
            have hs := HS.out
            exact since_step ((SS.out.alloc (by omega) _).alloc (by simp; omega) _) hs
        · rw [decide_eq_false h6] at HB
          obtain rfl : true = b := HB.out
          go_wp2_with (first | (go_at_call 68; refine (HA.out _).mono ?_; rintro e w1 ⟨rfl, rfl⟩))
          go_ret
          exact ⟨rfl, by have hs0 := SS.out; have hz0 := hs0.size; (repeat (first | (with_reducible refine Fl.sinDrew ?_) | (with_reducible refine World.Since.drew ?_) | (with_reducible refine Fl.sinSet ?_ ?_; rotate_left) | (with_reducible refine Fl.sinAlloc ?_ ?_; rotate_left) | with_reducible exact World.Since.refl _ _ | with_reducible assumption | (with_reducible refine Fl.sinStep (by with_reducible assumption) ?_))); all_goals (first | omega | (simp; done) | (simp; omega) | (simp [go_sem]; done) | (simp [go_sem]; omega))⟩
    · rw [decide_eq_false h2, Bool.and_false, Bool.false_and] at HB
      obtain rfl : false = b := HB.out
      go_wp2_with (first | (go_at_call 68; refine (HAL.out _ rfl _).mono ?_; rintro e w1 ⟨rfl, rfl⟩))
      go_ret
      exact ⟨rfl, by have hs0 := SS.out; have hz0 := hs0.size; (repeat (first | (with_reducible refine Fl.sinDrew ?_) | (with_reducible refine World.Since.drew ?_) | (with_reducible refine Fl.sinSet ?_ ?_; rotate_left) | (with_reducible refine Fl.sinAlloc ?_ ?_; rotate_left) | with_reducible exact World.Since.refl _ _ | with_reducible assumption | (with_reducible refine Fl.sinStep (by with_reducible assumption) ?_))); all_goals (first | omega | (simp; done) | (simp; omega) | (simp [go_sem]; done) | (simp [go_sem]; omega))⟩
  · have HSH := Lib.hid (fun W => shapeOf_no k W h)
    have e1 : cntE k = -1 := by obtain ⟨k0, k1, k2, k3, k4, k5, k6⟩ := h; unfold cntE; rw [if_neg k0, if_neg k1, if_neg k2, if_neg k3, if_neg k4, if_neg k5, if_neg k6]
    have h2 : ¬ (sn : Int) = cntE k := by omega
    rw [decide_eq_false h2, Bool.and_false, Bool.false_and] at HB
    obtain rfl : false = b := HB.out
    clear h e1 h2
    go_enter Try.func18, Try.ntmps18
    go_wp2_with fail
    rw [← HW1.out]
    have c0 := C0.out
    go_wp2_with (first | (go_at_call 67; refine (HSH.out _).mono ?_; rintro e w2 ⟨rfl, hs⟩))
    go_ret
    have SS := Lib.hid (since_step S1.out hs)
    exact ⟨rfl, by have hs0 := SS.out; have hz0 := hs0.size; (repeat (first | (with_reducible refine Fl.sinDrew ?_) | (with_reducible refine World.Since.drew ?_) | (with_reducible refine Fl.sinSet ?_ ?_; rotate_left) | (with_reducible refine Fl.sinAlloc ?_ ?_; rotate_left) | with_reducible exact World.Since.refl _ _ | with_reducible assumption | (with_reducible refine Fl.sinStep (by with_reducible assumption) ?_))); all_goals (first | omega | (simp; done) | (simp; omega) | (simp [go_sem]; done) | (simp [go_sem]; omega))⟩
def effsIn (x : Nat → EffectR) (k : Nat) : Prop := ∀ j, j < k → effB (x j) = true
def chainOk (x : Nat → EffectR) (n : Nat) : Prop := effsIn x n ∧ n ≤ 8
theorem effsIn_succ {x : Nat → EffectR} {k : Nat} (h : effsIn x k) (hk : effB (x k) = true) : effsIn x (k + 1) := fun j hj => by
  by_cases e : j = k
  · subst e; exact hk
  · exact h j (by omega)
set_option maxHeartbeats 4000000 in
set_option maxRecDepth 100000 in
theorem specIs_b (A : Option Addr) (n c : Nat) (x : Nat → EffectR) (r : Bool) (w : World) (B : Nat) (h : EffectR.Ts w B A n x) (hB : B ≤ w.heap.size) (hn : n ≤ 1048576) (hr : r = true ↔ chainOk x n) :
    Calls Try.prog 70 #[.slice A n c] w fun e w' => e = .returned (.bool r) ∧ w.Since w.heap.size w' := by
  have HA := Lib.hid h; have HR := Lib.hid hr
  clear h hr
  by_cases h8 : n ≤ 8
  · have h8i : decide ((n : Int) ≤ 8) = true := decide_eq_true (by omega)
    go_enter Try.func70, Try.ntmps70
    go_wp2
    go_loopw [3] (fun i wr => ∃ k : Nat, k ≤ n ∧ i = .int .i64 k ∧ effsIn x k ∧ w.Since w.heap.size wr) (fun i _ => n - (intOf i).toNat)
    case atStart => exact ⟨0, Nat.zero_le _, rfl, (fun j hj => by omega), World.Since.refl _ _⟩
    case round =>
      obtain ⟨k, hk, rfl, hz, hs⟩ := hrel
      have HZ := Lib.hid hz; have HS := Lib.hid hs
      clear hz hs
      by_cases hlt : k < n
      · obtain ⟨g, off, rfl, hg, hc⟩ := HA.out.1.at_ hlt
        have hgw : g < w.heap.size := by omega
        have HE := Lib.hid (fun b (hb : effB (x k) = b) => specEffect_b g (off + k * 3) (x k) b wr w.heap.size HS.out.size ((HS.out.cell (a := ⟨g, off + k * 3 + 0, none⟩) hgw).trans (hc 0 (by decide))) ((HS.out.cell (a := ⟨g, off + k * 3 + 1, none⟩) hgw).trans (hc 1 (by decide))) ((HS.out.cell (a := ⟨g, off + k * 3 + 2, none⟩) hgw).trans (hc 2 (by decide))) (((HA.out.2 k hlt).more hB).since HS.out) (Nat.lt_of_lt_of_le hgw HS.out.size) hb)
        clear hc
        cases ho : effB (x k)
        · have h6 : r = false := by
            cases h6 : r
            · rfl
            · have h7 := (HR.out.1 h6).1 k hlt
              rw [ho] at h7; cases h7
          subst h6
          have HO := Lib.hid ho; clear ho
          go_wp2_with (go_at_call 66; refine (HE.out false HO.out).mono ?_; rintro e w2 ⟨rfl, hs2⟩; have HS2 := Lib.hid (since_step HS.out hs2); clear hs2)
          go_ret
          exact ⟨rfl, HS2.out⟩
        · have HO := Lib.hid ho; clear ho
          go_wp2_with (go_at_call 66; refine (HE.out true HO.out).mono ?_; rintro e w2 ⟨rfl, hs2⟩; have HS2 := Lib.hid (since_step HS.out hs2); clear hs2)
          go_roundw
          case rel => exact ⟨k + 1, by omega, by go_num, effsIn_succ HZ.out HO.out, HS2.out⟩
          case measure => simp [intOf]; omega
      · obtain rfl : k = n := by omega
        have h5 := HR.out.2 ⟨HZ.out, h8⟩
        subst h5
        clear HR
        go_wp2
        go_ret
        exact ⟨rfl, HS.out⟩
  · have h6 : r = false := by
      cases h6 : r
      · rfl
      · exact absurd (HR.out.1 h6).2 h8
    subst h6
    clear HR HA
    have h8i : decide ((n : Int) ≤ 8) = false := decide_eq_false (by omega)
    have h0i : decide ((0 : Int) < n) = true := decide_eq_true (by omega)
    go_enter Try.func70, Try.ntmps70
    go_wp2
    go_loopw [3] (fun i wr => i = .int .i64 0 ∧ w.Since w.heap.size wr) (fun i _ => 0)
    case atStart => exact ⟨rfl, World.Since.refl _ _⟩
    case round =>
      obtain ⟨rfl, hs⟩ := hrel
      go_wp2
      go_ret
      exact ⟨rfl, hs⟩
theorem specValidChain_b (A : Option Addr) (n c : Nat) (x : Nat → EffectR) (r : Bool) (w : World) (h : EffectR.Ts w w.heap.size A n x) (hn : n ≤ 1048576) (hr : r = true ↔ chainOk x n) :
    Calls Try.prog 21 #[.slice A n c] w (PB r w) := by
  unfold PB
  have HA := Lib.hid h; have HR := Lib.hid hr
  clear h hr
  go_enter Try.func21, Try.ntmps21
  go_wp2_with (go_at_call 70; refine (specIs_b A n c x r _ _ HA.out (Nat.le_refl _) hn HR.out).mono ?_; rintro e w2 ⟨rfl, hs⟩)
  go_ret
  exact ⟨rfl, hs⟩
set_option maxHeartbeats 4000000 in
set_option maxRecDepth 100000 in
theorem allEffects_any (A : Option Addr) (n c : Nat) (x : Nat → EffectR) (r : Bool) (w : World) (h : EffectR.Ts w w.heap.size A n x) (hn : n ≤ 1048576) (hr : r = true ↔ effsIn x n) :
    Calls Try.prog 71 #[.slice A n c, .func (.func 18) #[] #[]] w fun e w' => e = .returned (.bool r) ∧ w.Since w.heap.size w' := by
  have HA := Lib.hid h; have HR := Lib.hid hr
  clear h hr
  go_enter Try.func71, Try.ntmps71
  go_wp2
  go_loopw [9] (fun i wr => ∃ k : Nat, k ≤ n ∧ i = .int .i64 k ∧ effsIn x k ∧ w.Since w.heap.size wr) (fun i _ => n - (intOf i).toNat)
  case atStart => exact ⟨0, Nat.zero_le _, rfl, (fun j hj => by omega), World.Since.refl _ _⟩
  case round =>
    obtain ⟨k, hk, rfl, hz, hs⟩ := hrel
    have HZ := Lib.hid hz; have HS := Lib.hid hs
    clear hz hs
    by_cases hlt : k < n
    · obtain ⟨g, off, rfl, hg, hc⟩ := HA.out.1.at_ hlt
      have hc0 := (HS.out.cell (a := ⟨g, off + k * 3 + 0, none⟩) (by show g < _; omega)).trans (hc 0 (by decide))
      have hc1 := (HS.out.cell (a := ⟨g, off + k * 3 + 1, none⟩) (by show g < _; omega)).trans (hc 1 (by decide))
      have hc2 := (HS.out.cell (a := ⟨g, off + k * 3 + 2, none⟩) (by show g < _; omega)).trans (hc 2 (by decide))
      simp only [EffectR.cells, List.getD_cons_zero, List.getD_cons_succ, Nat.add_zero] at hc0 hc1 hc2
      clear hc
      have HE := Lib.hid (fun b (hb : effB (x k) = b) W (hW : wr.Since wr.heap.size W) => implEffect_b (x k) b W ((HA.out.2 k hlt).now (since_step HS.out hW)) hb)
      unfold EffectR.val at HE
      cases ho : effB (x k)
      · have h6 : r = false := by
          cases h6 : r
          · rfl
          · have h7 := HR.out.1 h6 k hlt
            rw [ho] at h7; cases h7
        subst h6
        have HO := Lib.hid ho; clear ho
        go_wp2_with fail
        refine (HE.out false HO.out _ (by (repeat (first | (with_reducible refine Fl.sinDrew ?_) | (with_reducible refine World.Since.drew ?_) | (with_reducible refine Fl.sinSet ?_ ?_; rotate_left) | (with_reducible refine Fl.sinAlloc ?_ ?_; rotate_left) | with_reducible exact World.Since.refl _ _ | with_reducible assumption | (with_reducible refine Fl.sinStep (by with_reducible assumption) ?_))); all_goals (first | omega | (simp; done) | (simp; omega) | (simp [go_sem]; done) | (simp [go_sem]; omega)))).mono ?_; rintro e w2 ⟨rfl, hs2⟩
        have HS2 := Lib.hid (since_step (HS.out.alloc HS.out.size _) hs2); clear hs2
        go_wp2
        go_ret
        exact ⟨rfl, HS2.out⟩
      · have HO := Lib.hid ho; clear ho
        go_wp2_with fail
        refine (HE.out true HO.out _ (by (repeat (first | (with_reducible refine Fl.sinDrew ?_) | (with_reducible refine World.Since.drew ?_) | (with_reducible refine Fl.sinSet ?_ ?_; rotate_left) | (with_reducible refine Fl.sinAlloc ?_ ?_; rotate_left) | with_reducible exact World.Since.refl _ _ | with_reducible assumption | (with_reducible refine Fl.sinStep (by with_reducible assumption) ?_))); all_goals (first | omega | (simp; done) | (simp; omega) | (simp [go_sem]; done) | (simp [go_sem]; omega)))).mono ?_; rintro e w2 ⟨rfl, hs2⟩
        have HS2 := Lib.hid (since_step (HS.out.alloc HS.out.size _) hs2); clear hs2
        go_wp2
        go_roundw
        case rel => exact ⟨k + 1, by omega, by go_num, effsIn_succ HZ.out HO.out, HS2.out⟩
        case measure => simp [intOf]; omega
    · obtain rfl : k = n := by omega
      have h5 := HR.out.2 HZ.out
      subst h5
      clear HR
      go_wp2
      go_ret
      exact ⟨rfl, HS.out⟩
theorem implValidChain_b (A : Option Addr) (n c : Nat) (x : Nat → EffectR) (r : Bool) (w : World) (h : EffectR.Ts w w.heap.size A n x) (hn : n ≤ 1048576) (hr : r = true ↔ chainOk x n) :
    Calls Try.prog 23 #[.slice A n c] w (PB r w) := by
  unfold PB
  have HA := Lib.hid h
  by_cases h8 : n ≤ 8
  · have HR : Hid (r = true ↔ effsIn x n) := Lib.hid (hr.trans ⟨fun h => h.1, fun h => ⟨h, h8⟩⟩)
    clear h hr
    have h8i : decide ((n : Int) ≤ 8) = true := decide_eq_true (by omega)
    go_enter Try.func23, Try.ntmps23
    go_wp2_with (go_at_call 71; refine (allEffects_any A n c x r _ HA.out hn HR.out).mono ?_; rintro e w2 ⟨rfl, hs⟩)
    go_ret
    exact ⟨rfl, hs⟩
  · have h6 : r = false := by
      cases h6 : r
      · rfl
      · exact absurd (hr.1 h6).2 h8
    subst h6
    clear h hr
    have h8i : decide ((n : Int) ≤ 8) = false := decide_eq_false (by omega)
    go_enter Try.func23, Try.ntmps23
    go_wp2
    go_ret
    exact ⟨rfl, World.Since.refl _ _⟩
/-- the sum of lengths of limiters -/
def lateE (x : Nat → EffectR) : Nat → Int
  | 0 => 0
  | k + 1 => lateE x k + if (x k).k = 6 then (x k).l else 0
theorem lateE_le {x : Nat → EffectR} {n : Nat} (h : effsIn x n) : ∀ k, k ≤ n → 0 ≤ lateE x k ∧ lateE x k ≤ 32 * k
  | 0, _ => by simp [lateE]
  | k + 1, hk => by
    have h1 := lateE_le h k (by omega)
    have h2 := effB_facts (h k hk)
    unfold lateE
    split <;> omega
set_option maxHeartbeats 4000000 in
set_option maxRecDepth 100000 in
theorem specLateness_b (A : Option Addr) (n c : Nat) (x : Nat → EffectR) (r : Bool) (w : World) (h : EffectR.Ts w w.heap.size A n x) (hn : n ≤ 1048576) (hr : r = true ↔ chainOk x n) :
    Calls Try.prog 35 #[.slice A n c] w (PIB (if r then lateE x n else 0) r w) := by
  unfold PIB
  have HA := Lib.hid h; have HR := Lib.hid hr
  cases hrr : r
  · rw [hrr] at HR
    clear h hr hrr
    go_enter Try.func35, Try.ntmps35
    go_wp2_with (go_at_call 70; refine (specIs_b A n c x false _ _ HA.out (Nat.le_refl _) hn HR.out).mono ?_; rintro e w2 ⟨rfl, hs⟩)
    go_ret2
    exact ⟨rfl, hs⟩
  · rw [hrr] at HR
    have HC := Lib.hid (HR.out.1 rfl)
    have h8 : n ≤ 8 := HC.out.2
    clear h hr hrr
    rw [if_pos rfl]
    go_enter Try.func35, Try.ntmps35
    go_wp2_with (go_at_call 70; refine (specIs_b A n c x true _ _ HA.out (Nat.le_refl _) hn HR.out).mono ?_; rintro e w2 ⟨rfl, hs⟩)
    have HS0 := Lib.hid hs; clear hs
    go_loopw [4, 5] (fun sv i wr => ∃ (k : Nat) (s : Int), k ≤ n ∧ i = .int .i64 k ∧ sv = .int .i64 s ∧ Hid (s = lateE x k) ∧ 0 ≤ s ∧ s ≤ 32 * k ∧ w.Since w.heap.size wr) (fun _ i _ => n - (intOf i).toNat)
    case atStart => exact ⟨0, 0, Nat.zero_le _, rfl, rfl, Lib.hid rfl, by omega, by omega, HS0.out⟩
    case round =>
      obtain ⟨k, s, hk, rfl, rfl, HE, h0, h1, hs⟩ := hrel
      have HS := Lib.hid hs
      clear hs
      by_cases hlt : k < n
      · obtain ⟨g, off, rfl, hg, hc⟩ := HA.out.1.at_ hlt
        have hc0 := (HS.out.cell (a := ⟨g, off + k * 3 + 0, none⟩) (by show g < _; omega)).trans (hc 0 (by decide))
        have hc1 := (HS.out.cell (a := ⟨g, off + k * 3 + 1, none⟩) (by show g < _; omega)).trans (hc 1 (by decide))
        simp only [EffectR.cells, List.getD_cons_zero, List.getD_cons_succ, Nat.add_zero] at hc0 hc1
        have hE := effB_facts (HC.out.1 k hlt)
        have hl0 := hE.1; have hl1 := hE.2.1
        have HT : Hid (lateE x (k + 1) = lateE x k + if (x k).k = 6 then (x k).l else 0) := Lib.hid rfl
        clear hc hE
        by_cases h6 : (x k).k = 6
        · rw [if_pos h6] at HT
          rw [h6] at hc0
          clear h6
          go_wp2
          go_roundw
          case rel => exact ⟨k + 1, s + (x k).l, by omega, by go_num, by go_num, Lib.hid (by rw [HT.out, HE.out]), by omega, by omega, HS.out⟩
          case measure => simp [intOf]; omega
        · rw [if_neg h6] at HT
          go_wp2
          go_roundw
          case rel => exact ⟨k + 1, s, by omega, by go_num, rfl, Lib.hid (by rw [HT.out, HE.out, Int.add_zero]), by omega, by omega, HS.out⟩
          case measure => simp [intOf]; omega
      · obtain rfl : k = n := by omega
        go_wp2
        go_ret2
        exact ⟨by have h := HE.out; subst h; rfl, HS.out⟩
set_option maxHeartbeats 4000000 in
set_option maxRecDepth 100000 in
theorem implLateness_b (A : Option Addr) (n c : Nat) (x : Nat → EffectR) (r : Bool) (w : World) (h : EffectR.Ts w w.heap.size A n x) (hn : n ≤ 1048576) (hr : r = true ↔ chainOk x n) :
    Calls Try.prog 36 #[.slice A n c] w (PIB (if r then lateE x n else 0) r w) := by
  unfold PIB
  have HA := Lib.hid h; have HR := Lib.hid hr
  cases hrr : r
  · rw [hrr] at HR
    clear h hr hrr
    go_enter Try.func36, Try.ntmps36
    go_wp2_with (go_at_call 23; refine (implValidChain_b A n c x false _ HA.out hn HR.out).mono ?_; rintro e w2 ⟨rfl, hs⟩)
    go_ret2
    exact ⟨rfl, hs⟩
  · rw [hrr] at HR
    have HC := Lib.hid (HR.out.1 rfl)
    have h8 : n ≤ 8 := HC.out.2
    clear h hr hrr
    rw [if_pos rfl]
    go_enter Try.func36, Try.ntmps36
    go_wp2_with (go_at_call 23; refine (implValidChain_b A n c x true _ HA.out hn HR.out).mono ?_; rintro e w2 ⟨rfl, hs⟩)
    have HS0 := Lib.hid hs; clear hs
    go_loopw [4, 12] (fun sv i wr => ∃ (k : Nat) (s : Int), k ≤ n ∧ i = .int .i64 k ∧ sv = .int .i64 s ∧ Hid (s = lateE x k) ∧ 0 ≤ s ∧ s ≤ 32 * k ∧ w.Since w.heap.size wr) (fun _ i _ => n - (intOf i).toNat)
    case atStart => exact ⟨0, 0, Nat.zero_le _, rfl, rfl, Lib.hid rfl, by omega, by omega, HS0.out⟩
    case round =>
      obtain ⟨k, s, hk, rfl, rfl, HE, h0, h1, hs⟩ := hrel
      have HS := Lib.hid hs
      clear hs
      by_cases hlt : k < n
      · obtain ⟨g, off, rfl, hg, hc⟩ := HA.out.1.at_ hlt
        have hc0 := (HS.out.cell (a := ⟨g, off + k * 3 + 0, none⟩) (by show g < _; omega)).trans (hc 0 (by decide))
        have hc1 := (HS.out.cell (a := ⟨g, off + k * 3 + 1, none⟩) (by show g < _; omega)).trans (hc 1 (by decide))
        have hc2 := (HS.out.cell (a := ⟨g, off + k * 3 + 2, none⟩) (by show g < _; omega)).trans (hc 2 (by decide))
        simp only [EffectR.cells, List.getD_cons_zero, List.getD_cons_succ, Nat.add_zero] at hc0 hc1 hc2
        have hE := effB_facts (HC.out.1 k hlt)
        have hl0 := hE.1; have hl1 := hE.2.1
        have HT : Hid (lateE x (k + 1) = lateE x k + if (x k).k = 6 then (x k).l else 0) := Lib.hid rfl
        clear hc hE
        by_cases h6 : (x k).k = 6
        · rw [if_pos h6] at HT
          rw [h6] at hc0
          clear h6
          go_wp2
          go_roundw
          case rel => exact ⟨k + 1, s + (x k).l, by omega, by go_num, by go_num, Lib.hid (by rw [HT.out, HE.out]), by omega, by omega, HS.out.alloc HS.out.size _⟩
          case measure => simp [intOf]; omega
        · rw [if_neg h6] at HT
          go_wp2
          go_roundw
          case rel => exact ⟨k + 1, s, by omega, by go_num, rfl, Lib.hid (by rw [HT.out, HE.out, Int.add_zero]), by omega, by omega, HS.out.alloc HS.out.size _⟩
          case measure => simp [intOf]; omega
      · obtain rfl : k = n := by omega
        go_wp2
        go_ret2
        exact ⟨by have h := HE.out; subst h; rfl, HS.out⟩
end Go.Proofs.Ytbgjmmncjmcjfaa

/- Walks of laws whose arguments or results are lists. -/
set_option linter.unusedVariables false
set_option linter.unusedSimpArgs false
namespace Go.Proofs.Ytbgjmmncjmcjfaa
open Fl Go.RowKit
set_option maxHeartbeats 16000000 in
set_option maxRecDepth 100000 in
theorem lawValidChain_gen (A0 : Option Addr) (n0 c0 : Nat) (x0 : Nat → EffectR) (rb0 : Bool) (w : World)
    (h0 : EffectR.Ts w w.heap.size A0 n0 x0) (hn0 : n0 ≤ 1048576) 
    (hk0 : ∀ k, k < n0 → (x0 k).ok)
    (hs0 : ∀ k, k < n0 → (x0 k).sn ≤ 1048576) (ht0 : EffectR.tot x0 n0 ≤ 1048576) (hf0 : (n0 : Int) + EffectR.tot x0 n0 ≤ 1048576)
    (hsp : ∀ (v : World) (b0 : Nat) (e0 : Nat → EffectR), EffectR.Ts v v.heap.size (some ⟨b0, 0, none⟩) n0 e0 → (∀ k, k < n0 → (e0 k).like (x0 k)) → Calls Try.prog 21 #[.slice (some ⟨b0, 0, none⟩) n0 n0] v (PB rb0 v))
    (him : ∀ (v : World) (b0 : Nat) (e0 : Nat → EffectR), EffectR.Ts v v.heap.size (some ⟨b0, 0, none⟩) n0 e0 → (∀ k, k < n0 → (e0 k).like (x0 k)) → Calls Try.prog 23 #[.slice (some ⟨b0, 0, none⟩) n0 n0] v (PB rb0 v)) :
    Calls Try.prog 4 #[.slice A0 n0 c0] w fun e w' => e = .returned (.bool true) ∧ w.Since w.heap.size w' := by
  have S0 : Hid (w.Since w.heap.size w) := Lib.hid (World.Since.refl _ _)
  have F0 : Hid (EffectR.Ts w w.heap.size A0 n0 x0) := Lib.hid (h0.now S0.out); clear h0
  have hd0 : decide ((1048576 : Int) < n0) = false := decide_eq_false (by omega)
  have HSP := Lib.hid hsp; have HIM := Lib.hid him; clear hsp him
  have hz0 : decide ((1048576 : Int) - n0 - (EffectR.tot x0 n0 : Nat) < 0) = false := decide_eq_false (by omega)
  have HK0 := Lib.hid hk0; clear hk0
  go_enter Try.func4, Try.ntmps4
  go_wp2_with fail
  have S : Hid (w.Since w.heap.size w) := Lib.hid (World.Since.refl _ _)
  have LV : Hid (He w.heap.size w []) := Lib.hid trivial
  go_at_call 20
  refine (szEffectS_any A0 n0 c0 x0 _ _ (F0.out.1.now S.out) (fun k hk => Nat.le_trans (hs0 k hk) (by decide)) (by omega) (by omega) _ (if_pos hf0).symm).mono ?_; rintro e wz0 ⟨rfl, hs⟩
  have S' := Lib.hid (since_step S.out hs); clear S; have S := S'; clear S'
  have LV' := Lib.hid (LV.out.since hs); clear LV; have LV := LV'; clear LV'; clear hs
  go_wp2_with fail
  go_at_call 22
  refine (toEffectS_any A0 n0 c0 x0 w _ F0.out S.out hn0 hs0).mono ?_
  rintro e v1 ⟨rfl, e_s0, hl, hg, hs⟩
  have HL_s0 := Lib.hid hl; clear hl
  have LV' := Lib.hid (LV.out.new hs hg S.out.size); clear LV; have LV := LV'; clear LV'
  have S' := Lib.hid (since_step S.out hs); clear S; have S := S'; clear S'
  clear hs hg
  go_wp2_with fail
  go_at_call 21
  refine (HSP.out _ _ e_s0 (EffectR.read (LV.out.1.1)) HL_s0.out).mono ?_
  rintro e v2 ⟨rfl, hs⟩
  have LV' := Lib.hid ((LV.out.2).since hs); clear LV; have LV := LV'; clear LV'
  have S' := Lib.hid (since_step S.out hs); clear S; have S := S'; clear S'
  clear hs
  go_wp2_with fail
  go_at_call 22
  refine (toEffectS_any A0 n0 c0 x0 w _ F0.out S.out hn0 hs0).mono ?_
  rintro e v3 ⟨rfl, e_y0, hl, hg, hs⟩
  have HL_y0 := Lib.hid hl; clear hl
  have LV' := Lib.hid (LV.out.new hs hg S.out.size); clear LV; have LV := LV'; clear LV'
  have S' := Lib.hid (since_step S.out hs); clear S; have S := S'; clear S'
  clear hs hg
  go_wp2_with fail
  go_at_call 23
  refine (HIM.out _ _ e_y0 (EffectR.read (LV.out.1.1)) HL_y0.out).mono ?_
  rintro e v4 ⟨rfl, hs⟩
  have LV' := Lib.hid ((LV.out).since hs); clear LV; have LV := LV'; clear LV'
  have S' := Lib.hid (since_step S.out hs); clear S; have S := S'; clear S'
  clear hs
  go_wp2_with fail
  go_at_call 22
  refine (toEffectS_any A0 n0 c0 x0 w _ F0.out S.out hn0 hs0).mono ?_
  rintro e v5 ⟨rfl, e_z0, hl, hg, hs⟩
  have HL_z0 := Lib.hid hl; clear hl
  have LV' := Lib.hid (LV.out.new hs hg S.out.size); clear LV; have LV := LV'; clear LV'
  have S' := Lib.hid (since_step S.out hs); clear S; have S := S'; clear S'
  clear hs hg
  go_wp2_with fail
  go_at_call 24
  refine (eqEffectS_any _ _ n0 _ _ e_y0 e_z0 _ (EffectR.read (LV.out.2.1.1)) (EffectR.read (LV.out.1.1)) hn0 (fun k hk => by rw [(HL_y0.out k hk).1]; exact hs0 k hk) (fun k hk => ⟨EffectR.like_ok (HL_y0.out k hk) (HK0.out k hk), EffectR.like_tr (HL_y0.out k hk) (HL_z0.out k hk)⟩)).mono ?_
  rintro e v6 ⟨rfl, hs⟩
  have S' := Lib.hid (since_step S.out hs); clear S; have S := S'; clear S'
  have LV' := Lib.hid (LV.out.since hs); clear LV; have LV := LV'; clear LV'
  clear hs
  have LV' := Lib.hid LV.out.2; clear LV; have LV := LV'; clear LV'
  go_wp2_with fail
  go_ret
  exact ⟨rfl, S.out⟩
set_option maxHeartbeats 2000000 in
set_option maxRecDepth 100000 in
theorem lawValidChain_big (A0 : Option Addr) (n0 c0 : Nat) (x0 : Nat → EffectR) (w : World) (hr0 : Rs EffectR.cells 3 w w.heap.size A0 n0 x0) (hx0 : ∀ k, k < n0 → (x0 k).sn ≤ 9223372036854775807) (hb0 : n0 ≤ 9223372036854775807) (hf0 : ¬ (n0 : Int) + EffectR.tot x0 n0 ≤ 1048576)
    : Calls Try.prog 4 #[.slice A0 n0 c0] w fun e w' => e = .returned (.bool true) ∧ w.Since w.heap.size w' := by
  have HR0 := Lib.hid hr0; clear hr0
  by_cases h : (1048576 : Int) < n0
  · go_enter Try.func4, Try.ntmps4
    go_wp2_with (go_at_call 20; refine (szEffectS_big A0 n0 c0 _ _ (by omega) (by omega) (by omega) hb0).mono ?_; rintro e wz ⟨rfl, hs0⟩)
    go_ret
    exact ⟨rfl, hs0⟩
  · go_enter Try.func4, Try.ntmps4
    go_wp2_with (go_at_call 20; refine (szEffectS_any A0 n0 c0 x0 _ _ HR0.out (fun k hk => hx0 k hk) (by omega) (by omega) _ (if_neg hf0).symm).mono ?_; rintro e wz ⟨rfl, hs0⟩)
    go_ret
    exact ⟨rfl, hs0⟩
set_option maxHeartbeats 16000000 in
set_option maxRecDepth 100000 in
theorem lawLatenessOf_gen (A0 : Option Addr) (n0 c0 : Nat) (x0 : Nat → EffectR) (ri0 : Int) (rb1 : Bool) (w : World)
    (h0 : EffectR.Ts w w.heap.size A0 n0 x0) (hn0 : n0 ≤ 1048576) 
    (hk0 : ∀ k, k < n0 → (x0 k).ok)
    (hs0 : ∀ k, k < n0 → (x0 k).sn ≤ 1048576) (ht0 : EffectR.tot x0 n0 ≤ 1048576) (hf0 : (n0 : Int) + EffectR.tot x0 n0 ≤ 1048576)
    (hsp : ∀ (v : World) (b0 : Nat) (e0 : Nat → EffectR), EffectR.Ts v v.heap.size (some ⟨b0, 0, none⟩) n0 e0 → (∀ k, k < n0 → (e0 k).like (x0 k)) → Calls Try.prog 35 #[.slice (some ⟨b0, 0, none⟩) n0 n0] v (PIB ri0 rb1 v))
    (him : ∀ (v : World) (b0 : Nat) (e0 : Nat → EffectR), EffectR.Ts v v.heap.size (some ⟨b0, 0, none⟩) n0 e0 → (∀ k, k < n0 → (e0 k).like (x0 k)) → Calls Try.prog 36 #[.slice (some ⟨b0, 0, none⟩) n0 n0] v (PIB ri0 rb1 v)) :
    Calls Try.prog 7 #[.slice A0 n0 c0] w fun e w' => e = .returned (.bool true) ∧ w.Since w.heap.size w' := by
  have S0 : Hid (w.Since w.heap.size w) := Lib.hid (World.Since.refl _ _)
  have F0 : Hid (EffectR.Ts w w.heap.size A0 n0 x0) := Lib.hid (h0.now S0.out); clear h0
  have hd0 : decide ((1048576 : Int) < n0) = false := decide_eq_false (by omega)
  have HSP := Lib.hid hsp; have HIM := Lib.hid him; clear hsp him
  have hz0 : decide ((1048576 : Int) - n0 - (EffectR.tot x0 n0 : Nat) < 0) = false := decide_eq_false (by omega)
  have HK0 := Lib.hid hk0; clear hk0
  go_enter Try.func7, Try.ntmps7
  go_wp2_with fail
  have S : Hid (w.Since w.heap.size w) := Lib.hid (World.Since.refl _ _)
  have LV : Hid (He w.heap.size w []) := Lib.hid trivial
  go_at_call 20
  refine (szEffectS_any A0 n0 c0 x0 _ _ (F0.out.1.now S.out) (fun k hk => Nat.le_trans (hs0 k hk) (by decide)) (by omega) (by omega) _ (if_pos hf0).symm).mono ?_; rintro e wz0 ⟨rfl, hs⟩
  have S' := Lib.hid (since_step S.out hs); clear S; have S := S'; clear S'
  have LV' := Lib.hid (LV.out.since hs); clear LV; have LV := LV'; clear LV'; clear hs
  go_wp2_with fail
  go_at_call 22
  refine (toEffectS_any A0 n0 c0 x0 w _ F0.out S.out hn0 hs0).mono ?_
  rintro e v1 ⟨rfl, e_s0, hl, hg, hs⟩
  have HL_s0 := Lib.hid hl; clear hl
  have LV' := Lib.hid (LV.out.new hs hg S.out.size); clear LV; have LV := LV'; clear LV'
  have S' := Lib.hid (since_step S.out hs); clear S; have S := S'; clear S'
  clear hs hg
  go_wp2_with fail
  go_at_call 35
  refine (HSP.out _ _ e_s0 (EffectR.read (LV.out.1.1)) HL_s0.out).mono ?_
  rintro e v2 ⟨rfl, hs⟩
  have LV' := Lib.hid ((LV.out.2).since hs); clear LV; have LV := LV'; clear LV'
  have S' := Lib.hid (since_step S.out hs); clear S; have S := S'; clear S'
  clear hs
  go_wp2_with fail
  go_at_call 22
  refine (toEffectS_any A0 n0 c0 x0 w _ F0.out S.out hn0 hs0).mono ?_
  rintro e v3 ⟨rfl, e_y0, hl, hg, hs⟩
  have HL_y0 := Lib.hid hl; clear hl
  have LV' := Lib.hid (LV.out.new hs hg S.out.size); clear LV; have LV := LV'; clear LV'
  have S' := Lib.hid (since_step S.out hs); clear S; have S := S'; clear S'
  clear hs hg
  go_wp2_with fail
  go_at_call 36
  refine (HIM.out _ _ e_y0 (EffectR.read (LV.out.1.1)) HL_y0.out).mono ?_
  rintro e v4 ⟨rfl, hs⟩
  have LV' := Lib.hid ((LV.out).since hs); clear LV; have LV := LV'; clear LV'
  have S' := Lib.hid (since_step S.out hs); clear S; have S := S'; clear S'
  clear hs
  go_wp2_with fail
  go_at_call 22
  refine (toEffectS_any A0 n0 c0 x0 w _ F0.out S.out hn0 hs0).mono ?_
  rintro e v5 ⟨rfl, e_z0, hl, hg, hs⟩
  have HL_z0 := Lib.hid hl; clear hl
  have LV' := Lib.hid (LV.out.new hs hg S.out.size); clear LV; have LV := LV'; clear LV'
  have S' := Lib.hid (since_step S.out hs); clear S; have S := S'; clear S'
  clear hs hg
  go_wp2_with fail
  go_at_call 24
  refine (eqEffectS_any _ _ n0 _ _ e_y0 e_z0 _ (EffectR.read (LV.out.2.1.1)) (EffectR.read (LV.out.1.1)) hn0 (fun k hk => by rw [(HL_y0.out k hk).1]; exact hs0 k hk) (fun k hk => ⟨EffectR.like_ok (HL_y0.out k hk) (HK0.out k hk), EffectR.like_tr (HL_y0.out k hk) (HL_z0.out k hk)⟩)).mono ?_
  rintro e v6 ⟨rfl, hs⟩
  have S' := Lib.hid (since_step S.out hs); clear S; have S := S'; clear S'
  have LV' := Lib.hid (LV.out.since hs); clear LV; have LV := LV'; clear LV'
  clear hs
  have LV' := Lib.hid LV.out.2; clear LV; have LV := LV'; clear LV'
  go_wp2_with fail
  go_ret
  exact ⟨rfl, S.out⟩
set_option maxHeartbeats 2000000 in
set_option maxRecDepth 100000 in
theorem lawLatenessOf_big (A0 : Option Addr) (n0 c0 : Nat) (x0 : Nat → EffectR) (w : World) (hr0 : Rs EffectR.cells 3 w w.heap.size A0 n0 x0) (hx0 : ∀ k, k < n0 → (x0 k).sn ≤ 9223372036854775807) (hb0 : n0 ≤ 9223372036854775807) (hf0 : ¬ (n0 : Int) + EffectR.tot x0 n0 ≤ 1048576)
    : Calls Try.prog 7 #[.slice A0 n0 c0] w fun e w' => e = .returned (.bool true) ∧ w.Since w.heap.size w' := by
  have HR0 := Lib.hid hr0; clear hr0
  by_cases h : (1048576 : Int) < n0
  · go_enter Try.func7, Try.ntmps7
    go_wp2_with (go_at_call 20; refine (szEffectS_big A0 n0 c0 _ _ (by omega) (by omega) (by omega) hb0).mono ?_; rintro e wz ⟨rfl, hs0⟩)
    go_ret
    exact ⟨rfl, hs0⟩
  · go_enter Try.func7, Try.ntmps7
    go_wp2_with (go_at_call 20; refine (szEffectS_any A0 n0 c0 x0 _ _ HR0.out (fun k hk => hx0 k hk) (by omega) (by omega) _ (if_neg hf0).symm).mono ?_; rintro e wz ⟨rfl, hs0⟩)
    go_ret
    exact ⟨rfl, hs0⟩
end Go.Proofs.Ytbgjmmncjmcjfaa

/- The laws of ValidEffect, ValidChain and LatenessOf. -/
set_option linter.unusedVariables false
set_option linter.unusedSimpArgs false
namespace Go.Proofs.Ytbgjmmncjmcjfaa
open Fl Go.RowKit
theorem effB_like {x y : EffectR} (h : x.like y) : effB x = effB y := by
  obtain ⟨h1, h2, h3, h4⟩ := h
  unfold effB
  rw [h1, h2, h3, h4]
theorem effsIn_like {e x : Nat → EffectR} {n : Nat} (h : ∀ k, k < n → (e k).like (x k)) : effsIn e n ↔ effsIn x n := by
  unfold effsIn
  constructor
  · exact fun h1 j hj => (effB_like (h j hj)) ▸ h1 j hj
  · exact fun h1 j hj => (effB_like (h j hj)).symm ▸ h1 j hj
theorem chainOk_like {e x : Nat → EffectR} {n : Nat} (h : ∀ k, k < n → (e k).like (x k)) : chainOk e n ↔ chainOk x n := by
  unfold chainOk
  rw [effsIn_like h]
theorem lateE_like {e x : Nat → EffectR} : ∀ {n : Nat}, (∀ k, k < n → (e k).like (x k)) → lateE e n = lateE x n
  | 0, _ => rfl
  | n + 1, h => by
    obtain ⟨_, _, h3, h4⟩ := h n (by omega)
    unfold lateE
    rw [lateE_like fun k hk => h k (by omega), h3, h4]
theorem effects_fit (x : Nat → EffectR) (n : Nat) (h : (n : Int) + EffectR.tot x n ≤ 1048576) : (∀ k, k < n → (x k).sn ≤ 1048576) ∧ EffectR.tot x n ≤ 1048576 ∧ n ≤ 1048576 :=
  ⟨fun k hk => by
    have h1 : EffectR.tot x k + (x k).sn ≤ EffectR.tot x n := EffectR.tot_le x (k := k + 1) hk
    omega, by omega, by omega⟩
open Classical in
theorem lawValidChain_any (A0 : Option Addr) (n0 c0 : Nat) (x0 : Nat → EffectR) (w : World)
    (h0 : Rs EffectR.cells 3 w w.heap.size A0 n0 x0) (hk0 : ∀ k, k < n0 → (x0 k).wf w) (hb0 : n0 ≤ 9223372036854775807) :
    Calls Try.prog 4 #[.slice A0 n0 c0] w fun e w' => e = .returned (.bool true) ∧ w.Since w.heap.size w' := by
  by_cases h : (n0 : Int) + EffectR.tot x0 n0 ≤ 1048576
  · obtain ⟨h1, h2, h3⟩ := effects_fit x0 n0 h
    have hr : (decide (chainOk x0 n0)) = true ↔ chainOk x0 n0 := decide_eq_true_iff
    exact lawValidChain_gen A0 n0 c0 x0 _ w ⟨h0, fun k hk => (hk0 k hk).2.1⟩ h3 (fun k hk => (hk0 k hk).1) h1 h2 h
      (fun v b e ht hl => specValidChain_b _ _ _ e _ _ ht h3 (hr.trans (chainOk_like hl).symm))
      (fun v b e ht hl => implValidChain_b _ _ _ e _ _ ht h3 (hr.trans (chainOk_like hl).symm))
  · exact lawValidChain_big A0 n0 c0 x0 w h0 (fun k hk => (hk0 k hk).2.2.1) hb0 h
open Classical in
theorem lawLatenessOf_any (A0 : Option Addr) (n0 c0 : Nat) (x0 : Nat → EffectR) (w : World)
    (h0 : Rs EffectR.cells 3 w w.heap.size A0 n0 x0) (hk0 : ∀ k, k < n0 → (x0 k).wf w) (hb0 : n0 ≤ 9223372036854775807) :
    Calls Try.prog 7 #[.slice A0 n0 c0] w fun e w' => e = .returned (.bool true) ∧ w.Since w.heap.size w' := by
  by_cases h : (n0 : Int) + EffectR.tot x0 n0 ≤ 1048576
  · obtain ⟨h1, h2, h3⟩ := effects_fit x0 n0 h
    have hr : (decide (chainOk x0 n0)) = true ↔ chainOk x0 n0 := decide_eq_true_iff
    exact lawLatenessOf_gen A0 n0 c0 x0 _ _ w ⟨h0, fun k hk => (hk0 k hk).2.1⟩ h3 (fun k hk => (hk0 k hk).1) h1 h2 h
      (fun v b e ht hl => by have := specLateness_b (some ⟨b, 0, none⟩) n0 n0 e _ v ht h3 (hr.trans (chainOk_like hl).symm); rw [lateE_like hl] at this; exact this)
      (fun v b e ht hl => by have := implLateness_b (some ⟨b, 0, none⟩) n0 n0 e _ v ht h3 (hr.trans (chainOk_like hl).symm); rw [lateE_like hl] at this; exact this)
  · exact lawLatenessOf_big A0 n0 c0 x0 w h0 (fun k hk => (hk0 k hk).2.2.1) hb0 h
theorem specValidEffect_b (x : EffectR) (b : Bool) (w : World) (hF : Fs w w.heap.size x.sA x.sn x.sx) (hb : effB x = b) :
    Calls Try.prog 16 #[x.val] w fun e w' => e = .returned (.bool b) ∧ w.Since w.heap.size w' := by
  obtain ⟨k, l, sA, sn, sc, sx⟩ := x
  unfold EffectR.val
  have HS : Hid (w.Since w.heap.size (w.alloc (.cells #[.int .i64 k, .int .i64 l, .slice sA sn sc] 27))) := Lib.hid ((World.Since.refl _ _).alloc (Nat.le_refl _) _)
  have HE := Lib.hid (specEffect_b w.heap.size 0 ⟨k, l, sA, sn, sc, sx⟩ b (w.alloc (.cells #[.int .i64 k, .int .i64 l, .slice sA sn sc] 27)) w.heap.size HS.out.size (by simp [go_sem]) (by simp [go_sem]) (by simp [go_sem]) (hF.since HS.out) (by simp) hb)
  clear hF hb
  go_enter Try.func16, Try.ntmps16
  go_wp2_with (go_at_call 66; refine HE.out.mono ?_; rintro e w2 ⟨rfl, hs⟩)
  go_ret
  exact ⟨rfl, since_step HS.out hs⟩
set_option maxHeartbeats 4000000 in
set_option maxRecDepth 100000 in
theorem lawValidEffect_any (x : EffectR) (w : World) (hx : x.wf w) :
    Calls Try.prog 3 #[x.val] w fun e w' => e = .returned (.bool true) ∧ w.Since w.heap.size w' := by
  obtain ⟨X, hX⟩ : ∃ X, X = x := ⟨_, rfl⟩
  obtain ⟨k, l, sA, sn, sc, sx⟩ := x
  have HXV : Hid (X.val = .agg #[.int .i64 k, .int .i64 l, .slice sA sn sc]) := Lib.hid (by rw [hX]; rfl)
  rw [← hX] at hx
  unfold EffectR.val
  simp only
  have HSN : X.sn = sn := by rw [hX]
  clear hX
  obtain ⟨W, hW⟩ : ∃ W, W = w.alloc (.cells #[.int .i64 k, .int .i64 l, .slice sA sn sc] 24) := ⟨_, rfl⟩
  have SW : Hid (w.Since w.heap.size W) := Lib.hid (by rw [hW]; exact (World.Since.refl _ _).alloc (Nat.le_refl _) _)
  have hlt : w.heap.size < W.heap.size := by rw [hW]; simp
  have B0 : Hid (W.cell? ⟨w.heap.size, 0, none⟩ = some (.int .i64 k)) := Lib.hid (by rw [hW]; simp [go_sem])
  have B1 : Hid (W.cell? ⟨w.heap.size, 1, none⟩ = some (.int .i64 l)) := Lib.hid (by rw [hW]; simp [go_sem])
  have B2 : Hid (W.cell? ⟨w.heap.size, 2, none⟩ = some (.slice sA sn sc)) := Lib.hid (by rw [hW]; simp [go_sem])
  have HW := Lib.hid hW
  clear hW
  have HF := Lib.hid (hx.2.1.now SW.out)
  have hn := hx.2.2.1
  have HOK := Lib.hid hx.1
  clear hx
  have HSZ := Lib.hid (fun W => szEffect_row X 1048576 W (by omega) (by omega) hn)
  rw [HXV.out] at HSZ
  by_cases h : (X.sn : Int) ≤ 1048576
  · simp only [if_pos h] at HSZ
    have HTO := Lib.hid (fun V (s : W.Since W.heap.size V) => toEffect_row X W V HF.out s (by omega))
    rw [HXV.out] at HTO
    have hd : ¬ (1048576 : Int) - (X.sn : Int) < 0 := by omega
    have HN2 : Hid (X.sn ≤ 1048576) := Lib.hid (by omega)
    clear hn h HSN
    go_enter Try.func3, Try.ntmps3
    go_wp2_with fail
    rw [← HW.out]
    refine (HSZ.out _).mono ?_
    rintro e w1 ⟨rfl, hs⟩
    have S := Lib.hid hs; clear hs
    have b0 := (S.out.cell (a := ⟨w.heap.size, 0, none⟩) hlt).trans B0.out
    have b1 := (S.out.cell (a := ⟨w.heap.size, 1, none⟩) hlt).trans B1.out
    have b2 := (S.out.cell (a := ⟨w.heap.size, 2, none⟩) hlt).trans B2.out
    go_wp2_with fail
    refine (HTO.out _ S.out).mono ?_
    rintro e w2 ⟨y, rfl, hl, _, hg, hs⟩
    have HL := Lib.hid hl
    have HSP := Lib.hid (specValidEffect_b y _ w2 hg.readF (effB_like HL.out))
    have S' := Lib.hid (since_step S.out hs); clear S; have S := S'; clear S'
    clear hl hg hs b0 b1 b2
    go_wp2_with fail
    refine HSP.out.mono ?_
    rintro e w3 ⟨rfl, hs⟩
    have S' := Lib.hid (since_step S.out hs); clear S; have S := S'; clear S'
    clear hs HSP
    have b0 := (S.out.cell (a := ⟨w.heap.size, 0, none⟩) hlt).trans B0.out
    have b1 := (S.out.cell (a := ⟨w.heap.size, 1, none⟩) hlt).trans B1.out
    have b2 := (S.out.cell (a := ⟨w.heap.size, 2, none⟩) hlt).trans B2.out
    go_wp2_with fail
    refine (HTO.out _ S.out).mono ?_
    rintro e w4 ⟨z, rfl, hl, _, hg, hs⟩
    have HLZ := Lib.hid hl; have HGZ := Lib.hid hg.readF
    have HIM := Lib.hid (implEffect_b z _ w4 hg.readF (effB_like HLZ.out))
    have S' := Lib.hid (since_step S.out hs); clear S; have S := S'; clear S'
    clear hl hg hs b0 b1 b2
    have hz4 := S.out.size
    obtain ⟨z_k, z_l, z_sA, z_sn, z_sc, z_sx⟩ := z
    unfold EffectR.val at HIM ⊢
    simp only at HGZ HLZ HIM ⊢
    obtain ⟨V, hV⟩ : ∃ V, V = w4.alloc (.cells #[.int .i64 z_k, .int .i64 z_l, .slice z_sA z_sn z_sc] 27) := ⟨_, rfl⟩
    have HV := Lib.hid hV
    have SV : Hid (w4.Since w4.heap.size V) := Lib.hid (by rw [hV]; exact (World.Since.refl _ _).alloc (Nat.le_refl _) _)
    have Y0 : Hid (V.cell? ⟨w4.heap.size, 0, none⟩ = some (.int .i64 z_k)) := Lib.hid (by rw [hV]; simp [go_sem])
    have Y1 : Hid (V.cell? ⟨w4.heap.size, 1, none⟩ = some (.int .i64 z_l)) := Lib.hid (by rw [hV]; simp [go_sem])
    have Y2 : Hid (V.cell? ⟨w4.heap.size, 2, none⟩ = some (.slice z_sA z_sn z_sc)) := Lib.hid (by rw [hV]; simp [go_sem])
    have hltV : w4.heap.size < V.heap.size := by rw [hV]; simp
    have HIM2 := Lib.hid (implEffect_b ⟨z_k, z_l, z_sA, z_sn, z_sc, z_sx⟩ _ V (HGZ.out.now SV.out) (effB_like HLZ.out))
    clear hV HIM
    go_wp2_with fail
    rw [← HV.out]
    refine HIM2.out.mono ?_
    rintro e w5 ⟨rfl, hs⟩
    have hz5 := hs.size
    have hx5 : w4.heap.size < w5.heap.size := by omega
    have HGZ5 := Lib.hid ((HGZ.out.now SV.out).now hs)
    have y0 := (hs.cell (a := ⟨w4.heap.size, 0, none⟩) hltV).trans Y0.out
    have y1 := (hs.cell (a := ⟨w4.heap.size, 1, none⟩) hltV).trans Y1.out
    have y2 := (hs.cell (a := ⟨w4.heap.size, 2, none⟩) hltV).trans Y2.out
    have S' := Lib.hid (since_step (since_step S.out SV.out) hs); clear S; have S := S'; clear S'
    clear hs HIM2
    have b0 := (S.out.cell (a := ⟨w.heap.size, 0, none⟩) hlt).trans B0.out
    have b1 := (S.out.cell (a := ⟨w.heap.size, 1, none⟩) hlt).trans B1.out
    have b2 := (S.out.cell (a := ⟨w.heap.size, 2, none⟩) hlt).trans B2.out
    have HE : Hid (∀ (u : EffectR) (V6 : World), w5.Since w5.heap.size V6 → Fs V6 V6.heap.size u.sA u.sn u.sx → u.like X → Calls Try.prog 19 #[.agg #[.int .i64 z_k, .int .i64 z_l, .slice z_sA z_sn z_sc], u.val] V6 fun e w' => e = .returned (.bool true) ∧ V6.Since V6.heap.size w') := Lib.hid (fun u V6 h1 h2 h3 => eqEffect_row ⟨z_k, z_l, z_sA, z_sn, z_sc, z_sx⟩ u V6 (HGZ5.out.now h1) h2 (EffectR.like_ok HLZ.out HOK.out) (by rw [HLZ.out.1]; exact HN2.out) (EffectR.like_tr HLZ.out h3))
    go_wp2_with fail
    go_region_with (first | (go_at_call 17; refine (HTO.out _ (by have hs0 := S.out; (repeat (first | (with_reducible refine Fl.sinDrew ?_) | (with_reducible refine World.Since.drew ?_) | (with_reducible refine Fl.sinSet ?_ ?_; rotate_left) | (with_reducible refine Fl.sinAlloc ?_ ?_; rotate_left) | with_reducible exact World.Since.refl _ _ | with_reducible assumption | (with_reducible refine Fl.sinStep (by with_reducible assumption) ?_))); all_goals (first | omega | (simp; done) | (simp; omega) | (simp [go_sem]; done) | (simp [go_sem]; omega)))).mono ?_; rintro e w6 ⟨u, rfl, hl, _, hg, hs⟩; have HLU := Lib.hid hl; have HGU := Lib.hid hg; have HS6 := Lib.hid hs; have y0' := (hs.cell (a := ⟨w4.heap.size, 0, none⟩) hx5).trans y0; have y1' := (hs.cell (a := ⟨w4.heap.size, 1, none⟩) hx5).trans y1; have y2' := (hs.cell (a := ⟨w4.heap.size, 2, none⟩) hx5).trans y2; clear hl hg hs) | (go_at_call 19; refine (HE.out u _ (by have h6 := HS6.out; (repeat (first | (with_reducible refine Fl.sinDrew ?_) | (with_reducible refine World.Since.drew ?_) | (with_reducible refine Fl.sinSet ?_ ?_; rotate_left) | (with_reducible refine Fl.sinAlloc ?_ ?_; rotate_left) | with_reducible exact World.Since.refl _ _ | with_reducible assumption | (with_reducible refine Fl.sinStep (by with_reducible assumption) ?_))); all_goals (first | omega | (simp; done) | (simp; omega) | (simp [go_sem]; done) | (simp [go_sem]; omega))) (HGU.out.readF.now (by (repeat (first | (with_reducible refine Fl.sinDrew ?_) | (with_reducible refine World.Since.drew ?_) | (with_reducible refine Fl.sinSet ?_ ?_; rotate_left) | (with_reducible refine Fl.sinAlloc ?_ ?_; rotate_left) | with_reducible exact World.Since.refl _ _ | with_reducible assumption | (with_reducible refine Fl.sinStep (by with_reducible assumption) ?_))); all_goals (first | omega | (simp; done) | (simp; omega) | (simp [go_sem]; done) | (simp [go_sem]; omega)))) HLU.out).mono ?_; rintro e w7 ⟨rfl, hs7⟩; have HS7 := Lib.hid hs7; clear hs7))
    all_goals
      go_wp2
      go_ret
      refine ⟨rfl, ?_⟩
      have h0 := SW.out
      have h1 := S.out
      have h6 := HS6.out
      have h7 := HS7.out
      (repeat (first | (with_reducible refine Fl.sinDrew ?_) | (with_reducible refine World.Since.drew ?_) | (with_reducible refine Fl.sinSet ?_ ?_; rotate_left) | (with_reducible refine Fl.sinAlloc ?_ ?_; rotate_left) | with_reducible exact World.Since.refl _ _ | with_reducible assumption | (with_reducible refine Fl.sinStep (by with_reducible assumption) ?_))); all_goals (first | omega | (simp; done) | (simp; omega) | (simp [go_sem]; done) | (simp [go_sem]; omega))
  · simp only [if_neg h] at HSZ
    clear hn h HSN
    go_enter Try.func3, Try.ntmps3
    go_wp2_with fail
    refine (HSZ.out _).mono ?_
    rintro e w1 ⟨rfl, hs⟩
    go_wp2
    go_ret
    exact ⟨rfl, by rw [← HW.out] at hs; exact SW.out.trans (since_mono hs (by omega))⟩
section
open Go.ChangeShapes Go.WideShapes Go.Deep
variable {H : Type} {enc : TypeId × Value → H} {P : Program} {w : World} {base : Nat}
theorem Fl.open_eff {r : Reach} {b0 : Nat} {t te : TypeId} {f0 f1 f2 : Field} {v : Value} {d : DataW H} {p : List MemPlace} (hs : P.underlying t = some (.struct #[f0, f1, f2])) (hone : oneCellFields P #[f0, f1, f2] = true) (hC : P.cellsOf t = 3)
    (hte : P.underlying te = some (.float .f32)) (hce : P.cellsOf te = 1) (h0 : P.underlying f0.type = some (.int .i64)) (h1 : P.underlying f1.type = some (.int .i64)) (h2 : P.underlying f2.type = some (.slice te))
    (hv : Value.okWide P w r b0 t v) (h : DataW.Trod enc P w base (fun _ => true) true t v d p) :
    ∃ m : EffectR, v = m.val ∧ m.wf w := by
  obtain ⟨cs, rfl, hsz, hc⟩ := open_row hs hone hC hv h
  obtain ⟨c0, y0, n0, e0, t0⟩ := hc 0 f0 rfl
  obtain ⟨c1, y1, n1, e1, t1⟩ := hc 1 f1 rfl
  obtain ⟨c2, y2, n2, e2, t2⟩ := hc 2 f2 rfl
  obtain ⟨x0, hx0, w0⟩ := trod_int h0 t0
  obtain ⟨x1, hx1, w1⟩ := trod_int h1 t1
  obtain ⟨xA, xn, xc, xx, hx2, w2, wn2⟩ := trod_fs h2 hte hce t2
  subst hx2
  injection hx0 with hx0 _; subst hx0
  injection hx1 with hx1 _; subst hx1
  refine ⟨⟨x0, x1, xA, xn, xc, xx⟩, ?_, trivial, w2, wn2, w0, w1⟩
  unfold EffectR.val
  congr 1
  apply Array.ext_getElem?
  intro i
  match i with
  | 0 => exact e0
  | 1 => exact e1
  | 2 => exact e2
  | i + 3 => rw [Array.getElem?_eq_none (by rw [hsz]; simp), Array.getElem?_eq_none (by simp)]
end
end Go.Proofs.Ytbgjmmncjmcjfaa

/- Lists of lists of floats as a law holds them. -/
set_option linter.unusedVariables false
set_option linter.unusedSimpArgs false
namespace Go.Proofs.Ytbgjmmncjmcjfaa
open Fl Go.RowKit
structure FlsR where
  sA : Option Addr
  sn : Nat
  sc : Nat
  sx : List Nat
def FlsR.cells (x : FlsR) : List Value := [.slice x.sA x.sn x.sc]
def FlsR.val (x : FlsR) : Value := .slice x.sA x.sn x.sc
def FlsR.zero : FlsR := ⟨none, 0, 0, []⟩
def FlsR.ok (_ : FlsR) : Prop := True
/-- the same but for where its list lies -/
def FlsR.like (x y : FlsR) : Prop := x.sn = y.sn ∧ x.sx = y.sx
theorem FlsR.like_refl (x : FlsR) : x.like x := ⟨rfl, rfl⟩
/-- its list, as an entry -/
def FlsR.inn (x : FlsR) : En := fe x.sA x.sn x.sx
theorem FlsR.inn_fr (x : FlsR) : Fr_ x.inn := ce_frame
theorem FlsR.ceL1 (e : Nat → FlsR) (j : Nat) : ceL FlsR.cells 1 e j = (e j).val := by
  unfold ceL FlsR.cells
  rw [Nat.div_one, Nat.mod_one]; rfl
/-- such a list that can be read -/
def FlsR.Ts (w : World) (B : Nat) (A : Option Addr) (n : Nat) (e : Nat → FlsR) : Prop := Rs FlsR.cells 1 w B A n e ∧ ∀ k, k < n → Fs w B (e k).sA (e k).sn (e k).sx
theorem FlsR.Ts.now {w w1 : World} {A : Option Addr} {n : Nat} {e : Nat → FlsR} (h : FlsR.Ts w w.heap.size A n e) (k : w.Since w.heap.size w1) : FlsR.Ts w1 w1.heap.size A n e := ⟨h.1.now k, fun i hi => (h.2 i hi).now k⟩
theorem FlsR.Ts.since {w w1 : World} {B : Nat} {A : Option Addr} {n : Nat} {e : Nat → FlsR} (h : FlsR.Ts w B A n e) (k : w.Since B w1) : FlsR.Ts w1 B A n e := ⟨h.1.since k, fun i hi => (h.2 i hi).since k⟩
theorem FlsR.Ts.more {w : World} {B B' : Nat} {A : Option Addr} {n : Nat} {e : Nat → FlsR} (h : FlsR.Ts w B A n e) (k : B ≤ B') : FlsR.Ts w B' A n e := ⟨h.1.more k, fun i hi => (h.2 i hi).more k⟩
abbrev FlsR.ent (A : Option Addr) (n : Nat) (e : Nat → FlsR) : En := ne FlsR.cells 1 22 FlsR.inn A n e
theorem FlsR.read {w : World} {lo n : Nat} {A : Option Addr} {e : Nat → FlsR} (h : Ge lo w (FlsR.ent A n e)) : FlsR.Ts w w.heap.size A n e := ⟨h.outer.readS (by decide), fun k hk => (h.each FlsR.inn_fr k hk).readF⟩
/-- row k -/
theorem FlsR.Ts.row {w : World} {B : Nat} {A : Option Addr} {n : Nat} {e : Nat → FlsR} (h : Rs FlsR.cells 1 w B A n e) {k : Nat} (hk : k < n) : ∃ g off, A = some ⟨g, off, none⟩ ∧ g < B ∧ w.cell? ⟨g, off + k, none⟩ = some (.slice (e k).sA (e k).sn (e k).sc) := by
  obtain ⟨g, off, ea, hg, hc⟩ := h.at_ hk
  refine ⟨g, off, ea, hg, ?_⟩
  have := hc 0 (by decide)
  rw [Nat.mul_one, Nat.add_zero] at this
  exact this
theorem FlsR.entry {w : World} {g n lo : Nat} {e : Nat → FlsR} (h : GF w g 22 n (fun j => (e j).val)) (hl : lo ≤ g) : Ge lo w (se FlsR.cells 1 22 (some ⟨g, 0, none⟩) n e) := by
  refine GF.entry ?_ hl
  rw [Nat.mul_one]
  exact h.congr fun j _ => (FlsR.ceL1 e j).symm
theorem Try.infoFls : (Try.prog.info? 22).map (fun i => (i.zero, i.size, i.bytes)) = some (some (.slice none 0 0), 1, 24) := by kernel_rfl
theorem made_fls (w : World) (n : Nat) : GF (w.alloc (.cells (madeCells #[Value.slice none 0 0] n) 22)) w.heap.size 22 n (fun _ => FlsR.zero.val) := by
  obtain ⟨cs, hb, _, hc⟩ := World.rowIs_made w (.slice none 0 0) n 22
  exact ⟨cs, hb, fun j hj => hc j hj⟩
set_option maxHeartbeats 8000000 in
set_option maxRecDepth 100000 in
theorem toFloat32SS_any (A : Option Addr) (n c : Nat) (x : Nat → FlsR) (W v : World) (h : FlsR.Ts W W.heap.size A n x) (s : W.Since W.heap.size v) (hn : n ≤ 1048576) (hns : ∀ k, k < n → (x k).sn ≤ 1048576) :
    Calls Try.prog 33 #[.slice A n c] v fun r v' => r = .returned (.slice (some ⟨v.heap.size, 0, none⟩) n n) ∧ ∃ e : Nat → FlsR, (∀ k, k < n → (e k).like (x k)) ∧ Ge v.heap.size v' (FlsR.ent (some ⟨v.heap.size, 0, none⟩) n e) ∧ v.Since v.heap.size v' := by
  have H := Lib.hid (h.now s)
  have HNS := Lib.hid hns
  clear h s hns
  have hmk := fun W => run_make_row' (P := Try.prog) 38 22 (.slice none 0 0) 24 Try.underlying38 Try.infoFls rfl .i64 .i64 n (by omega) (by omega) W
  have hmd := Lib.hid (made_fls v n)
  go_enter Try.func33, Try.ntmps33
  go_wp2
  go_loopw [4] (fun i wr => ∃ (k : Nat) (e : Nat → FlsR), k ≤ n ∧ i = .int .i64 (k : Nat) ∧ (∀ j, j < k → (e j).like (x j)) ∧ GF wr v.heap.size 22 n (fun i => if i < k then (e i).val else FlsR.zero.val) ∧ (∀ j, j < k → Ge (v.heap.size + 1) wr (e j).inn) ∧ (∀ i j, i < k → j < k → i ≠ j → De (e i).inn (e j).inn) ∧ v.Since v.heap.size wr) (fun i _ => n - (intOf i).toNat)
  case atStart => exact ⟨0, fun _ => FlsR.zero, Nat.zero_le _, rfl, (fun j hj => by omega), hmd.out, (fun j hj => by omega), (fun i j hi => by omega), (World.Since.refl _ _).alloc (Nat.le_refl _) _⟩
  case round =>
    obtain ⟨k, e, hk, rfl, hlk, hg, hin, hde, hs⟩ := hrel
    have HL := Lib.hid hlk; have HG := Lib.hid hg; have HIN := Lib.hid hin; have HDE := Lib.hid hde; have HS := Lib.hid hs
    have hzw : v.heap.size + 1 ≤ wr.heap.size := hg.lt
    clear hlk hg hin hde hs hmd
    by_cases hlt : k < n
    · obtain ⟨g, off, rfl, hgl, hc⟩ := FlsR.Ts.row H.out.1 hlt
      have HTO := Lib.hid (toFE_any (x k).sA (x k).sn (x k).sc (x k).sx v wr (H.out.2 k hlt) HS.out (HNS.out k hlt))
      have hc0 := (HS.out.cell (a := ⟨g, off + k, none⟩) hgl).trans hc
      clear hc
      go_wp2_with fail
      refine HTO.out.mono ?_
      rintro r w2 ⟨rfl, hgz, hs2⟩
      obtain ⟨z, hz⟩ : ∃ z : FlsR, z = ⟨some ⟨wr.heap.size, 0, none⟩, (x k).sn, (x k).sn, (x k).sx⟩ := ⟨_, rfl⟩
      have HZ := Lib.hid hz
      have HGZ : Hid (Ge wr.heap.size w2 z.inn) := Lib.hid (by rw [hz]; exact hgz)
      have HLZ : Hid (z.like (x k)) := Lib.hid (by rw [hz]; exact ⟨rfl, rfl⟩)
      have HG2 := Lib.hid (HG.out.of (hs2.block _ HG.out.lt))
      have HS2 := Lib.hid (since_step HS.out hs2)
      have HT2 := Lib.hid hs2
      clear hs2 hgz HG hc0 hz
      have hd0 := HG2.out.cell hlt
      have hf0 := HG2.out.free k
      generalize (if k < k then (e k).val else FlsR.zero.val) = u0 at hd0
      go_wp2
      go_roundw
      case rel =>
        refine ⟨k + 1, fun i => if i = k then z else e i, by omega, by go_num, fun j hj => ?_, ?_, fun j hj => ?_, fun i j hi hj hij => ?_, HS2.out.setCell (Nat.le_refl _) _⟩
        · show (if j = k then z else e j).like (x j)
          by_cases h : j = k
          · subst h; rw [if_pos rfl]; exact HLZ.out
          · rw [if_neg h]; exact HL.out j (by omega)
        · refine (HG2.out.set k _).congr (fun j hj => ?_)
          by_cases h : j = k
          · subst h
            rw [if_pos rfl, if_pos (by omega)]; show _ = (if j = j then z else e j).val; rw [if_pos rfl, HZ.out]; rfl
          · rw [if_neg h]
            by_cases h2 : j < k
            · simp only [if_pos h2, if_pos (show j < k + 1 by omega), if_neg h]
            · simp only [if_neg h2, if_neg (show ¬ j < k + 1 by omega)]
        · show Ge (v.heap.size + 1) _ (if j = k then z else e j).inn
          by_cases h : j = k
          · subst h; rw [if_pos rfl]
            refine (HGZ.out.less hzw).keep (fun g hg => ?_) (by simp only [Go.Deep.nblk_setCell]; exact Nat.le_refl _)
            have hne : g ≠ v.heap.size := by have := (HGZ.out.2.2 g hg).1; omega
            rw [Go.Deep.blk_setCell_other _ _ _ _ hne]
          · rw [if_neg h]
            refine ((HIN.out j (by omega)).since HT2.out).keep (fun g hg => ?_) (by simp only [Go.Deep.nblk_setCell]; exact Nat.le_refl _)
            have hne : g ≠ v.heap.size := by have := ((HIN.out j (by omega)).2.2 g hg).1; omega
            rw [Go.Deep.blk_setCell_other _ _ _ _ hne]
        · show De (if i = k then z else e i).inn (if j = k then z else e j).inn
          by_cases h1 : i = k
          · rw [if_pos h1]
            have h2 : j ≠ k := fun h => hij (h1.trans h.symm)
            rw [if_neg h2]
            intro g ha hb
            have h3 := (HGZ.out.2.2 g ha).1
            have h4 := ((HIN.out j (by omega)).2.2 g hb).2
            omega
          · rw [if_neg h1]
            by_cases h2 : j = k
            · rw [if_pos h2]
              intro g ha hb
              have h3 := (HGZ.out.2.2 g hb).1
              have h4 := ((HIN.out i (by omega)).2.2 g ha).2
              omega
            · rw [if_neg h2]; exact HDE.out i j (by omega) (by omega) hij
      case measure => simp [intOf]; omega
    · obtain rfl : k = n := by omega
      go_wp2
      go_ret
      refine ⟨rfl, e, HL.out, ne_ge (FlsR.entry (HG.out.congr fun j hj => if_pos hj) (Nat.le_refl _)) (fun j hj => (HIN.out j hj).less (by omega)) ⟨fun j hj g ha hb => ?_, HDE.out⟩, HS.out⟩
      obtain ⟨_, o2, e2⟩ := ha
      injection e2 with e2; injection e2 with e2 _ _
      have := ((HIN.out j hj).2.2 g hb).1
      omega
def FlsR.tot (x : Nat → FlsR) : Nat → Nat
  | 0 => 0
  | k + 1 => FlsR.tot x k + (x k).sn
theorem FlsR.tot_le (x : Nat → FlsR) {k n : Nat} (h : k ≤ n) : FlsR.tot x k ≤ FlsR.tot x n := by
  induction n with
  | zero => rw [Nat.le_zero.1 h]; exact Nat.le_refl _
  | succ n ih =>
    by_cases e : k = n + 1
    · rw [e]; exact Nat.le_refl _
    · have := ih (by omega)
      show _ ≤ FlsR.tot x n + (x n).sn
      omega
theorem FlsR.like_tr {x y z : FlsR} (h : x.like z) (k : y.like z) : x.like y := ⟨h.1.trans k.1.symm, h.2.trans k.2.symm⟩
theorem FlsR.like_ok {x y : FlsR} (h : x.like y) (hy : y.ok) : x.ok := trivial
theorem FlsR.tot_like {e x : Nat → FlsR} {n : Nat} (h : ∀ k, k < n → (e k).like (x k)) : FlsR.tot e n = FlsR.tot x n := by
  induction n with
  | zero => rfl
  | succ n ih =>
    show FlsR.tot e n + (e n).sn = FlsR.tot x n + (x n).sn
    rw [ih fun k hk => h k (by omega), (h n (by omega)).1]
theorem szFS_any (A : Option Addr) (n c : Nat) (L : Int) (w : World) (h0 : 0 ≤ L) (h1 : L ≤ 1048576) (hn : n ≤ 9223372036854775807) : Calls Try.prog 65 #[.slice A n c, .int .i64 L] w fun r w' => r = .returned (.int .i64 (if (n : Int) ≤ L then L - n else -1)) ∧ w = w' := by
  by_cases h : (n : Int) ≤ L
  · rw [if_pos h]
    go_enter Try.func65, Try.ntmps65
    go_wp2
    go_ret
    exact ⟨rfl, rfl⟩
  · rw [if_neg h]
    go_enter Try.func65, Try.ntmps65
    go_wp2
    go_ret
    exact ⟨rfl, rfl⟩
set_option maxHeartbeats 4000000 in
set_option maxRecDepth 100000 in
theorem szFloat32SS_any (A : Option Addr) (n c : Nat) (x : Nat → FlsR) (L : Int) (w : World) (h : Rs FlsR.cells 1 w w.heap.size A n x) (hx : ∀ k, k < n → (x k).sn ≤ 9223372036854775807) (hL : L ≤ 1048576) (hn : (n : Int) ≤ L) (z : Int) (hz : z = if (n : Int) + FlsR.tot x n ≤ L then L - n - FlsR.tot x n else -1) :
    Calls Try.prog 31 #[.slice A n c, .int .i64 L] w fun r w' => r = .returned (.int .i64 z) ∧ w.Since w.heap.size w' := by
  have H := Lib.hid h; have HX := Lib.hid hx; have HZ := Lib.hid hz
  clear h hx hz
  have hb : 0 ≤ L - n := by omega
  have hb2 : L - n ≤ 1048576 := by omega
  go_enter Try.func31, Try.ntmps31
  go_wp2
  go_loopw [1, 5] (fun lv i wr => ∃ (k : Nat) (l : Int), k ≤ n ∧ i = .int .i64 (k : Nat) ∧ lv = .int .i64 l ∧ Hid (l = L - n - FlsR.tot x k) ∧ 0 ≤ l ∧ l ≤ 1048576 ∧ w.Since w.heap.size wr) (fun _ i _ => n - (intOf i).toNat)
  case atStart => exact ⟨0, L - n, Nat.zero_le _, rfl, rfl, Lib.hid (by simp [FlsR.tot]), hb, hb2, World.Since.refl _ _⟩
  case round =>
    obtain ⟨k, l, hk, rfl, rfl, HL, hl0, hl1, hs⟩ := hrel
    have HS := Lib.hid hs
    clear hs
    by_cases hlt : k < n
    · obtain ⟨g, off, rfl, hgl, hc⟩ := FlsR.Ts.row H.out hlt
      have HSZ := Lib.hid (fun W => szFS_any (x k).sA (x k).sn (x k).sc l W hl0 hl1 (HX.out k hlt))
      have hc0 := (HS.out.cell (a := ⟨g, off + k, none⟩) hgl).trans hc
      clear hc
      by_cases hle : ((x k).sn : Int) ≤ l
      · simp only [if_pos hle] at HSZ
        have hnn : ¬ l - ((x k).sn : Int) < 0 := by omega
        go_wp2_with fail
        refine (HSZ.out _).mono ?_
        rintro e w2 ⟨rfl, rfl⟩
        have HLE := Lib.hid hle
        go_wp2
        go_roundw
        case rel => exact ⟨k + 1, l - (x k).sn, by omega, by go_num, rfl, Lib.hid (by have h1 := HL.out; show _ = L - n - ((FlsR.tot x k + (x k).sn : Nat) : Int); omega), by have := HLE.out; omega, by omega, HS.out⟩
        case measure => simp [intOf]; omega
      · simp only [if_neg hle] at HSZ
        have hres : Hid (¬ (n : Int) + FlsR.tot x n ≤ L) := Lib.hid (by
          have h1 := HL.out
          have h3 : FlsR.tot x k + (x k).sn ≤ FlsR.tot x n := FlsR.tot_le x (k := k + 1) hlt
          omega)
        go_wp2_with fail
        refine (HSZ.out _).mono ?_
        rintro e w2 ⟨rfl, rfl⟩
        go_wp2
        go_ret
        have e : z = -1 := by rw [HZ.out, if_neg (by have := hres.out; omega)]
        exact ⟨by rw [e]; rfl, HS.out⟩
    · obtain rfl : k = n := by omega
      have hres : Hid ((k : Int) + FlsR.tot x k ≤ L) := Lib.hid (by have h1 := HL.out; omega)
      go_wp2
      go_ret
      have e : z = l := by rw [HZ.out, if_pos hres.out, HL.out]
      exact ⟨by rw [e]; rfl, HS.out⟩
theorem szFloat32SS_big (A : Option Addr) (n c : Nat) (L : Int) (w : World) (hL : L ≤ 1048576) (h0 : 0 ≤ L) (hn : L < n) (hn2 : n ≤ 9223372036854775807) : Calls Try.prog 31 #[.slice A n c, .int .i64 L] w fun r w' => r = .returned (.int .i64 (-1)) ∧ w.Since w.heap.size w' := by
  have h1 : L - n < 0 := by omega
  go_enter Try.func31, Try.ntmps31
  go_wp2
  go_ret
  exact ⟨rfl, World.Since.refl _ _⟩
/-- the same floats in the same rows -/
def FlsR.ares (n : Nat) (x : Nat → FlsR) (ln : Nat → Nat) (f : Nat → Nat → O) : Prop := ∀ k, k < n → (x k).sn = ln k ∧ ∀ i, i < ln k → ab .f32 (wd (x k).sx i) = f k i
theorem FlsR.ares_like {n : Nat} {x y : Nat → FlsR} (h : ∀ k, k < n → (x k).like (y k)) : FlsR.ares n x (fun k => (y k).sn) (fun k i => ab .f32 (wd (y k).sx i)) := fun k hk => ⟨(h k hk).1, fun i _ => by rw [(h k hk).2]⟩
set_option maxHeartbeats 4000000 in
set_option maxRecDepth 100000 in
theorem eqFls_any (A C : Option Addr) (n c d : Nat) (e f : Nat → FlsR) (ln : Nat → Nat) (fo : Nat → Nat → O) (w : World) (ha : FlsR.Ts w w.heap.size A n e) (hc : FlsR.Ts w w.heap.size C n f) (hn : n ≤ 1048576) (hns : ∀ k, k < n → ln k ≤ 1048576) (he : FlsR.ares n e ln fo) (hf : FlsR.ares n f ln fo) :
    Calls Try.prog 27 #[.slice A n c, .slice C n d] w fun r w' => r = .returned (.bool true) ∧ w.Since w.heap.size w' := by
  have HA := Lib.hid ha; have HC := Lib.hid hc; have HE := Lib.hid he; have HF := Lib.hid hf; have HNS := Lib.hid hns
  clear ha hc he hf hns
  go_enter Try.func27, Try.ntmps27
  go_wp2
  go_loopw [5] (fun i wr => ∃ k : Nat, k ≤ n ∧ i = .int .i64 (k : Nat) ∧ w.Since w.heap.size wr) (fun i _ => n - (intOf i).toNat)
  case atStart => exact ⟨0, Nat.zero_le _, rfl, World.Since.refl _ _⟩
  case round =>
    obtain ⟨k, hk, rfl, hs⟩ := hrel
    have HS := Lib.hid hs
    clear hs
    by_cases hlt : k < n
    · obtain ⟨g, off, rfl, hgl, hc1⟩ := FlsR.Ts.row HA.out.1 hlt
      obtain ⟨g2, off2, rfl, hgl2, hc2⟩ := FlsR.Ts.row HC.out.1 hlt
      have c1 := (HS.out.cell (a := ⟨g, off + k, none⟩) hgl).trans hc1
      have c2 := (HS.out.cell (a := ⟨g2, off2 + k, none⟩) hgl2).trans hc2
      have e1 := (HE.out k hlt).1
      have e2 := (HF.out k hlt).1
      have HEQ := Lib.hid (fun N => eqF_any (e k).sA (f k).sA (ln k) (e k).sc (f k).sc (e k).sx (f k).sx (wr.drewN N) wr.heap.size (by have := (HA.out.2 k hlt).now HS.out; rw [e1] at this; exact this) (by have := (HC.out.2 k hlt).now HS.out; rw [e2] at this; exact this) (HNS.out k hlt) (fun i hi => ((HE.out k hlt).2 i hi).trans ((HF.out k hlt).2 i hi).symm))
      rw [e1] at c1; rw [e2] at c2
      clear hc1 hc2 e1 e2
      go_wp2_with fail
      go_quiet (first | (go_at_call 51; refine Calls.quiet_of (HEQ.out _)))
      go_wp2
      go_roundw
      case rel => exact ⟨k + 1, by omega, by go_num, by have hs0 := HS.out; (repeat (first | (with_reducible refine Fl.sinDrew ?_) | (with_reducible refine World.Since.drew ?_) | (with_reducible refine Fl.sinSet ?_ ?_; rotate_left) | (with_reducible refine Fl.sinAlloc ?_ ?_; rotate_left) | with_reducible exact World.Since.refl _ _ | with_reducible assumption | (with_reducible refine Fl.sinStep (by with_reducible assumption) ?_))); all_goals (first | omega | (simp; done) | (simp; omega) | (simp [go_sem]; done) | (simp [go_sem]; omega))⟩
      case measure => simp [intOf]; omega
    · go_wp2
      go_ret
      exact ⟨rfl, HS.out⟩
def sumL (l : Nat → Nat) : Nat → Nat
  | 0 => 0
  | k + 1 => sumL l k + l k
theorem FlsR.tot_ares : ∀ {n : Nat} {x : Nat → FlsR} {ln : Nat → Nat} {f : Nat → Nat → O}, FlsR.ares n x ln f → FlsR.tot x n = sumL ln n
  | 0, _, _, _, _ => rfl
  | n + 1, x, ln, f, h => by
    show FlsR.tot x n + (x n).sn = sumL ln n + ln n
    rw [FlsR.tot_ares (n := n) (fun k hk => h k (by omega)), (h n (by omega)).1]
theorem eqFlsS_any (A C : Option Addr) (n c d : Nat) (e f : Nat → FlsR) (w : World) (ha : FlsR.Ts w w.heap.size A n e) (hc : FlsR.Ts w w.heap.size C n f) (hn : n ≤ 1048576) (hns : ∀ k, k < n → (e k).sn ≤ 1048576) (he : ∀ k, k < n → (e k).ok ∧ (e k).like (f k)) :
    Calls Try.prog 27 #[.slice A n c, .slice C n d] w fun r w' => r = .returned (.bool true) ∧ w.Since w.heap.size w' :=
  eqFls_any A C n c d e f (fun k => (f k).sn) (fun k i => ab .f32 (wd (f k).sx i)) w ha hc hn (fun k hk => by rw [← (he k hk).2.1]; exact hns k hk) (FlsR.ares_like fun k hk => (he k hk).2) (FlsR.ares_like fun k hk => FlsR.like_refl _)
theorem grow_of {v v' : World} {B : Nat} {S : Nat → Prop} (h : v.Since B v') (_ : ∀ b, b < v.heap.size → ¬ S b → v'.heap[b]? = v.heap[b]?) (_ : B ≤ v.heap.size) : v.heap.size ≤ v'.heap.size := h.size
def SameV (a b : World) : Prop := a = b
/-- rows that have been marked -/
def mkFls (x : Nat → FlsR) (k0 k : Nat) : FlsR := ⟨(x k).sA, (x k).sn, (x k).sc, mk (k0 + FlsR.tot x k) (x k).sn⟩
theorem Fl.He.mark_hd2 {B : Nat} {v v' : World} {p p' : En} {r : List En} (h : He B v (p :: r)) (g : Ge B v' p') (hS : p'.S = p.S) (ho : ∀ g, g < v.heap.size → ¬ p.S g → v'.heap[g]? = v.heap[g]?) (hz : v.heap.size ≤ v'.heap.size) : He B v' (p' :: r) :=
  ⟨⟨g, fun q hq b h1 h2 => h.1.2 q hq b (hS ▸ h1) h2⟩, h.otherEffect ho hz⟩
set_option maxHeartbeats 8000000 in
set_option maxRecDepth 100000 in
theorem markFls_any (A : Option Addr) (n : Nat) (x : Nat → FlsR) (c k0 : Nat) (K : Int) (v : World) (B : Nat) (r : List En) (h : He B v (FlsR.ent A n x :: r)) (hB : B ≤ v.heap.size) (hn : n ≤ 1048576) (hns : ∀ k, k < n → (x k).sn ≤ 1048576) (ht : FlsR.tot x n ≤ 1048576) (hk0 : k0 ≤ 536870912) (hK : K = (k0 : Nat)) :
    Calls Try.prog 29 #[.slice A n c, .int .i64 K] v fun r1 v' => r1 = .returned (.int .i64 ((k0 + FlsR.tot x n : Nat) : Int)) ∧ He B v' (FlsR.ent A n (mkFls x k0) :: r) ∧ v.Since B v' := by
  subst hK
  have HH := Lib.hid h
  have HNS := Lib.hid hns
  have HT := Lib.hid (FlsR.read h.1.1).1
  have HAL := Lib.hid h.1.1.alone
  have HO0 := Lib.hid h.1.1.outer
  have HIN0 : Hid (∀ j, j < n → Ge B v (x j).inn) := Lib.hid (fun j hj => h.1.1.each FlsR.inn_fr j hj)
  clear h hns
  go_enter Try.func29, Try.ntmps29
  go_wp2
  go_loopw [1, 5] (fun kv i wr => ∃ (k : Nat), k ≤ n ∧ i = .int .i64 (k : Nat) ∧ kv = .int .i64 ((k0 + FlsR.tot x k : Nat) : Int) ∧ (∀ j, k ≤ j → j < n → Ge B wr (x j).inn) ∧ (∀ j, j < k → Ge B wr (mkFls x k0 j).inn) ∧ (∀ b, b < v.heap.size → (∀ j, j < n → ¬ (x j).inn.S b) → wr.heap[b]? = v.heap[b]?) ∧ v.heap.size ≤ wr.heap.size ∧ v.Since B wr) (fun _ i _ => n - (intOf i).toNat)
  case atStart => exact ⟨0, Nat.zero_le _, rfl, by simp [FlsR.tot], fun j _ hj => HIN0.out j hj, fun j hj => by omega, fun _ _ _ => rfl, Nat.le_refl _, World.Since.refl _ _⟩
  case round =>
    obtain ⟨k, hk, rfl, rfl, hin, hmd, hoth, hsz, hs⟩ := hrel
    have HIN := Lib.hid hin; have HMD := Lib.hid hmd; have HO := Lib.hid hoth; have HZ := Lib.hid hsz; have HS := Lib.hid hs
    clear hin hmd hoth hsz hs HIN0
    by_cases hlt : k < n
    · have hts : FlsR.tot x k + (x k).sn ≤ FlsR.tot x n := FlsR.tot_le x (k := k + 1) hlt
      have HTK : Hid (FlsR.tot x (k + 1) = FlsR.tot x k + (x k).sn) := Lib.hid rfl
      have hn3 := HNS.out k hlt
      obtain ⟨g, off, rfl, hgl, hc⟩ := FlsR.Ts.row HT.out hlt
      have HSG : Hid ((se FlsR.cells 1 22 (some ⟨g, off, none⟩) n x).S g) := Lib.hid ⟨by omega, off, rfl⟩
      have hgin : Hid (∀ j, j < n → ¬ (x j).inn.S g) := Lib.hid (fun j hj h7 => HAL.out.1 j hj g HSG.out h7)
      have hcell : wr.cell? ⟨g, off + k, none⟩ = some (.slice (x k).sA (x k).sn (x k).sc) := (cell_of_block (HO.out g hgl hgin.out) _).trans hc
      have hBw : B ≤ wr.heap.size := Nat.le_trans hB HZ.out
      have HM : Hid (∀ K, K = ((k0 + FlsR.tot x k : Nat) : Int) → Calls Try.prog 53 #[.slice (x k).sA (x k).sn (x k).sc, .int .i64 K] wr fun r1 v' => r1 = .returned (.int .i64 ((k0 + FlsR.tot x k + (x k).sn : Nat) : Int)) ∧ Ge B v' (fe (x k).sA (x k).sn (mk (k0 + FlsR.tot x k) (x k).sn)) ∧ (∀ b, b < wr.heap.size → ¬ (x k).inn.S b → v'.heap[b]? = wr.heap[b]?) ∧ wr.Since B v') := Lib.hid (fun K hK => mark_only (x k).sA (x k).sn (x k).sx (x k).sc _ K wr B (HIN.out k (Nat.le_refl _) hlt) hBw hn3 (by omega) hK)
      clear hc
      go_wp2_with fail
      refine (HM.out _ (by first | rfl | push_cast; omega)).mono ?_
      rintro e1 w2 ⟨rfl, hg2, ho2, hs2⟩
      have HG2 := Lib.hid hg2; have HO2 := Lib.hid ho2; have HS2 := Lib.hid hs2
      clear hg2 ho2 hs2 hcell
      go_wp2
      go_roundw
      case rel =>
        have hz2 := HZ.out
        refine ⟨k + 1, by omega, by go_num, ?_, fun j hj hj2 => ?_, fun j hj => ?_, fun b hb hnb => ?_, ?_, ?_⟩
        · rw [HTK.out]; go_num
        · have hap : ∀ b, (x j).inn.S b → ¬ (x k).inn.S b := fun b hb h8 => HAL.out.2 j k hj2 hlt (by omega) b hb h8
          have h9 := HIN.out j (by omega) hj2
          exact h9.keep (fun b hb => HO2.out b (h9.2.2 b hb).2 (hap b hb)) (grow_of HS2.out HO2.out hBw)
        · by_cases h : j = k
          · subst h; exact HG2.out
          · have hjn : j < n := by omega
            have hap : ∀ b, (mkFls x k0 j).inn.S b → ¬ (x k).inn.S b := fun b hb h8 => HAL.out.2 j k hjn hlt h b hb h8
            have h9 := HMD.out j (by omega)
            exact h9.keep (fun b hb => HO2.out b (h9.2.2 b hb).2 (hap b hb)) (grow_of HS2.out HO2.out hBw)
        · exact (HO2.out b (by omega) (hnb k hlt)).trans (HO.out b hb hnb)
        · exact Nat.le_trans HZ.out (grow_of HS2.out HO2.out hBw)
        · exact HS.out.trans HS2.out
      case measure => simp [intOf]; omega
    · obtain rfl : k = n := by omega
      go_wp2
      go_ret
      refine ⟨rfl, HH.out.mark_hd2 (ne_ge ?_ (fun j hj => HMD.out j hj) HAL.out) rfl (fun b hb hnb => HO.out b hb fun j hj h8 => hnb (.inr ⟨j, hj, h8⟩)) HZ.out, HS.out⟩
      exact HO0.out.keep (fun b hb => HO.out b (HO0.out.2.2 b hb).2 fun j hj h8 => HAL.out.1 j hj b hb h8) HZ.out
theorem markFlsS_any (g n : Nat) (e : Nat → FlsR) (c k0 : Nat) (K : Int) (v : World) (B : Nat) (r : List En) (h : He B v (FlsR.ent (some ⟨g, 0, none⟩) n e :: r)) (hB : B ≤ v.heap.size) (hn : n ≤ 1048576) (hns : ∀ k, k < n → (e k).sn ≤ 1048576) (ht : FlsR.tot e n ≤ 1048576) (hk0 : k0 ≤ 536870912) (hK : K = (k0 : Nat)) :
    Calls Try.prog 29 #[.slice (some ⟨g, 0, none⟩) n c, .int .i64 K] v fun r1 v' => r1 = .returned (.int .i64 ((k0 + FlsR.tot e n + n * 0 : Nat) : Int)) ∧ He B v' r ∧ v.Since B v' :=
  (markFls_any (some ⟨g, 0, none⟩) n e c k0 K v B r h hB hn hns ht hk0 hK).mono fun _ _ ⟨h1, h2, h3⟩ => ⟨by rw [h1]; simp, h2.2, h3⟩
set_option maxHeartbeats 4000000 in
set_option maxRecDepth 100000 in
theorem heldFls_any (A : Option Addr) (n : Nat) (x : Nat → FlsR) (c k0 : Nat) (K : Int) (v : World) (lo : Nat) (h : Ge lo v (FlsR.ent A n (mkFls x k0))) (hn : n ≤ 1048576) (hns : ∀ k, k < n → (x k).sn ≤ 1048576) (ht : FlsR.tot x n ≤ 1048576) (hk0 : k0 ≤ 536870912) (hK : K = (k0 : Nat)) :
    Calls Try.prog 30 #[.slice A n c, .int .i64 K] v fun r1 v' => r1 = .returned (.int .i64 ((k0 + FlsR.tot x n : Nat) : Int)) ∧ v = v' := by
  subst hK
  have HNS := Lib.hid hns
  have HT := Lib.hid (FlsR.read h).1
  have HIN : Hid (∀ j, j < n → Ge lo v (mkFls x k0 j).inn) := Lib.hid (fun j hj => h.each FlsR.inn_fr j hj)
  clear h hns
  go_enter Try.func30, Try.ntmps30
  go_wp2
  go_loopw [1, 5] (fun kv i wr => ∃ (k : Nat), k ≤ n ∧ i = .int .i64 (k : Nat) ∧ kv = .int .i64 ((k0 + FlsR.tot x k : Nat) : Int) ∧ SameV wr v) (fun _ i _ => n - (intOf i).toNat)
  case atStart => exact ⟨0, Nat.zero_le _, rfl, by simp [FlsR.tot], rfl⟩
  case round =>
    obtain ⟨k, hk, rfl, rfl, hs⟩ := hrel
    obtain rfl : wr = v := hs
    by_cases hlt : k < n
    · have hts : FlsR.tot x k + (x k).sn ≤ FlsR.tot x n := FlsR.tot_le x (k := k + 1) hlt
      have HTK : Hid (FlsR.tot x (k + 1) = FlsR.tot x k + (x k).sn) := Lib.hid rfl
      obtain ⟨g, off, rfl, hgl, hc⟩ := FlsR.Ts.row HT.out hlt
      simp only [mkFls] at hc
      have HM : Hid (∀ K, K = ((k0 + FlsR.tot x k : Nat) : Int) → Calls Try.prog 54 #[.slice (x k).sA (x k).sn (x k).sc, .int .i64 K] wr fun r1 v' => r1 = .returned (.int .i64 ((k0 + FlsR.tot x k + (x k).sn : Nat) : Int)) ∧ wr = v') := Lib.hid (fun K hK => heldFE_any (x k).sA (x k).sn (x k).sc _ K wr lo (HIN.out k hlt) (HNS.out k hlt) (by omega) hK)
      go_wp2_with fail
      refine (HM.out _ (by first | rfl | push_cast; omega)).mono ?_
      rintro e1 w2 ⟨rfl, rfl⟩
      have hnn : ¬ ((k0 + FlsR.tot x k + (x k).sn : Nat) : Int) < 0 := by omega
      clear hc
      go_wp2
      go_roundw
      case rel => exact ⟨k + 1, by omega, by go_num, by rw [HTK.out]; go_num, rfl⟩
      case measure => simp [intOf]; omega
    · obtain rfl : k = n := by omega
      go_wp2
      go_ret
      exact ⟨rfl, rfl⟩
/-- a list of lists and a yes or no -/
def PNB (n0 : Nat) (ln : Nat → Nat) (f0 : Nat → Nat → O) (b : Bool) (w : World) (e : Ending) (w' : World) : Prop :=
  ∃ (A : Option Addr) (c : Nat) (x : Nat → FlsR), e = .returned (.tuple #[.slice A n0 c, .bool b]) ∧ Ge w.heap.size w' (FlsR.ent A n0 x) ∧ FlsR.ares n0 x ln f0 ∧ w.Since w.heap.size w'
theorem PNB.none_ {w w' : World} (s : w.Since w.heap.size w') (ln : Nat → Nat) (f0 : Nat → Nat → O) : PNB 0 ln f0 false w (.returned (.tuple #[.slice none 0 0, .bool false])) w' :=
  ⟨none, 0, fun _ => FlsR.zero, rfl, ne_ge (ce_ge trivial fun h => by omega) (fun k hk => by omega) ⟨fun k hk => by omega, fun j k hj => by omega⟩, fun k hk => by omega, s⟩
end Go.Proofs.Ytbgjmmncjmcjfaa

/- Walks of laws whose arguments or results are lists. -/
set_option linter.unusedVariables false
set_option linter.unusedSimpArgs false
namespace Go.Proofs.Ytbgjmmncjmcjfaa
open Fl Go.RowKit
set_option maxHeartbeats 16000000 in
set_option maxRecDepth 100000 in
theorem lawIsState_gen (A0 : Option Addr) (n0 c0 : Nat) (x0 : Nat → EffectR) (A1 : Option Addr) (n1 c1 : Nat) (x1 : Nat → FlsR) (rb0 : Bool) (w : World)
    (h0 : EffectR.Ts w w.heap.size A0 n0 x0) (hn0 : n0 ≤ 1048576) (h1 : FlsR.Ts w w.heap.size A1 n1 x1) (hn1 : n1 ≤ 1048576) 
    (hk0 : ∀ k, k < n0 → (x0 k).ok)
    (hs0 : ∀ k, k < n0 → (x0 k).sn ≤ 1048576) (ht0 : EffectR.tot x0 n0 ≤ 1048576) (hf0 : (n0 : Int) + EffectR.tot x0 n0 ≤ 1048576)
    (hk1 : ∀ k, k < n1 → (x1 k).ok)
    (hs1 : ∀ k, k < n1 → (x1 k).sn ≤ 1048576) (ht1 : FlsR.tot x1 n1 ≤ 1048576) (hf1 : (n1 : Int) + FlsR.tot x1 n1 ≤ (1048576 - n0 - (EffectR.tot x0 n0 : Nat)))
    (hsp : ∀ (v : World) (b0 : Nat) (e0 : Nat → EffectR) (b1 : Nat) (e1 : Nat → FlsR), EffectR.Ts v v.heap.size (some ⟨b0, 0, none⟩) n0 e0 → (∀ k, k < n0 → (e0 k).like (x0 k)) → FlsR.Ts v v.heap.size (some ⟨b1, 0, none⟩) n1 e1 → (∀ k, k < n1 → (e1 k).like (x1 k)) → Calls Try.prog 32 #[.slice (some ⟨b0, 0, none⟩) n0 n0, .slice (some ⟨b1, 0, none⟩) n1 n1] v (PB rb0 v))
    (him : ∀ (v : World) (b0 : Nat) (e0 : Nat → EffectR) (b1 : Nat) (e1 : Nat → FlsR), EffectR.Ts v v.heap.size (some ⟨b0, 0, none⟩) n0 e0 → (∀ k, k < n0 → (e0 k).like (x0 k)) → FlsR.Ts v v.heap.size (some ⟨b1, 0, none⟩) n1 e1 → (∀ k, k < n1 → (e1 k).like (x1 k)) → Calls Try.prog 34 #[.slice (some ⟨b0, 0, none⟩) n0 n0, .slice (some ⟨b1, 0, none⟩) n1 n1] v (PB rb0 v)) :
    Calls Try.prog 6 #[.slice A0 n0 c0, .slice A1 n1 c1] w fun e w' => e = .returned (.bool true) ∧ w.Since w.heap.size w' := by
  have S0 : Hid (w.Since w.heap.size w) := Lib.hid (World.Since.refl _ _)
  have F0 : Hid (EffectR.Ts w w.heap.size A0 n0 x0) := Lib.hid (h0.now S0.out); clear h0
  have hd0 : decide ((1048576 : Int) < n0) = false := decide_eq_false (by omega)
  have F1 : Hid (FlsR.Ts w w.heap.size A1 n1 x1) := Lib.hid (h1.now S0.out); clear h1
  have hd1 : decide ((1048576 : Int) < n1) = false := decide_eq_false (by omega)
  have HSP := Lib.hid hsp; have HIM := Lib.hid him; clear hsp him
  have hz0 : decide ((1048576 : Int) - n0 - (EffectR.tot x0 n0 : Nat) < 0) = false := decide_eq_false (by omega)
  have HK0 := Lib.hid hk0; clear hk0
  have hz1 : decide (((1048576 - n0 - (EffectR.tot x0 n0 : Nat)) : Int) - n1 - (FlsR.tot x1 n1 : Nat) < 0) = false := decide_eq_false (by omega)
  have HK1 := Lib.hid hk1; clear hk1
  go_enter Try.func6, Try.ntmps6
  go_wp2_with fail
  have S : Hid (w.Since w.heap.size w) := Lib.hid (World.Since.refl _ _)
  have LV : Hid (He w.heap.size w []) := Lib.hid trivial
  go_at_call 20
  refine (szEffectS_any A0 n0 c0 x0 _ _ (F0.out.1.now S.out) (fun k hk => Nat.le_trans (hs0 k hk) (by decide)) (by omega) (by omega) _ (if_pos hf0).symm).mono ?_; rintro e wz0 ⟨rfl, hs⟩
  have S' := Lib.hid (since_step S.out hs); clear S; have S := S'; clear S'
  have LV' := Lib.hid (LV.out.since hs); clear LV; have LV := LV'; clear LV'; clear hs
  go_wp2_with fail
  go_at_call 31
  refine (szFloat32SS_any A1 n1 c1 x1 _ _ (F1.out.1.now S.out) (fun k hk => Nat.le_trans (hs1 k hk) (by decide)) (by omega) (by omega) _ (if_pos hf1).symm).mono ?_; rintro e wz1 ⟨rfl, hs⟩
  have S' := Lib.hid (since_step S.out hs); clear S; have S := S'; clear S'
  have LV' := Lib.hid (LV.out.since hs); clear LV; have LV := LV'; clear LV'; clear hs
  go_wp2_with fail
  go_at_call 22
  refine (toEffectS_any A0 n0 c0 x0 w _ F0.out S.out hn0 hs0).mono ?_
  rintro e v1 ⟨rfl, e_s0, hl, hg, hs⟩
  have HL_s0 := Lib.hid hl; clear hl
  have LV' := Lib.hid (LV.out.new hs hg S.out.size); clear LV; have LV := LV'; clear LV'
  have S' := Lib.hid (since_step S.out hs); clear S; have S := S'; clear S'
  clear hs hg
  go_wp2_with fail
  go_at_call 33
  refine (toFloat32SS_any A1 n1 c1 x1 w _ F1.out S.out hn1 hs1).mono ?_
  rintro e v2 ⟨rfl, e_s1, hl, hg, hs⟩
  have HL_s1 := Lib.hid hl; clear hl
  have LV' := Lib.hid (LV.out.new hs hg S.out.size); clear LV; have LV := LV'; clear LV'
  have S' := Lib.hid (since_step S.out hs); clear S; have S := S'; clear S'
  clear hs hg
  go_wp2_with fail
  go_at_call 32
  refine (HSP.out _ _ e_s0 _ e_s1 (EffectR.read (LV.out.2.1.1)) HL_s0.out (FlsR.read (LV.out.1.1)) HL_s1.out).mono ?_
  rintro e v3 ⟨rfl, hs⟩
  have LV' := Lib.hid ((LV.out.2.2).since hs); clear LV; have LV := LV'; clear LV'
  have S' := Lib.hid (since_step S.out hs); clear S; have S := S'; clear S'
  clear hs
  go_wp2_with fail
  go_at_call 22
  refine (toEffectS_any A0 n0 c0 x0 w _ F0.out S.out hn0 hs0).mono ?_
  rintro e v4 ⟨rfl, e_y0, hl, hg, hs⟩
  have HL_y0 := Lib.hid hl; clear hl
  have LV' := Lib.hid (LV.out.new hs hg S.out.size); clear LV; have LV := LV'; clear LV'
  have S' := Lib.hid (since_step S.out hs); clear S; have S := S'; clear S'
  clear hs hg
  go_wp2_with fail
  go_at_call 33
  refine (toFloat32SS_any A1 n1 c1 x1 w _ F1.out S.out hn1 hs1).mono ?_
  rintro e v5 ⟨rfl, e_y1, hl, hg, hs⟩
  have HL_y1 := Lib.hid hl; clear hl
  have LV' := Lib.hid (LV.out.new hs hg S.out.size); clear LV; have LV := LV'; clear LV'
  have S' := Lib.hid (since_step S.out hs); clear S; have S := S'; clear S'
  clear hs hg
  go_wp2_with fail
  go_at_call 34
  refine (HIM.out _ _ e_y0 _ e_y1 (EffectR.read (LV.out.2.1.1)) HL_y0.out (FlsR.read (LV.out.1.1)) HL_y1.out).mono ?_
  rintro e v6 ⟨rfl, hs⟩
  have LV' := Lib.hid ((LV.out).since hs); clear LV; have LV := LV'; clear LV'
  have S' := Lib.hid (since_step S.out hs); clear S; have S := S'; clear S'
  clear hs
  go_wp2_with fail
  go_at_call 22
  refine (toEffectS_any A0 n0 c0 x0 w _ F0.out S.out hn0 hs0).mono ?_
  rintro e v7 ⟨rfl, e_z0, hl, hg, hs⟩
  have HL_z0 := Lib.hid hl; clear hl
  have LV' := Lib.hid (LV.out.new hs hg S.out.size); clear LV; have LV := LV'; clear LV'
  have S' := Lib.hid (since_step S.out hs); clear S; have S := S'; clear S'
  clear hs hg
  go_wp2_with fail
  go_at_call 24
  refine (eqEffectS_any _ _ n0 _ _ e_y0 e_z0 _ (EffectR.read (LV.out.2.2.1.1)) (EffectR.read (LV.out.1.1)) hn0 (fun k hk => by rw [(HL_y0.out k hk).1]; exact hs0 k hk) (fun k hk => ⟨EffectR.like_ok (HL_y0.out k hk) (HK0.out k hk), EffectR.like_tr (HL_y0.out k hk) (HL_z0.out k hk)⟩)).mono ?_
  rintro e v8 ⟨rfl, hs⟩
  have S' := Lib.hid (since_step S.out hs); clear S; have S := S'; clear S'
  have LV' := Lib.hid (LV.out.since hs); clear LV; have LV := LV'; clear LV'
  clear hs
  have LV' := Lib.hid LV.out.2; clear LV; have LV := LV'; clear LV'
  go_wp2_with fail
  go_at_call 33
  refine (toFloat32SS_any A1 n1 c1 x1 w _ F1.out S.out hn1 hs1).mono ?_
  rintro e v9 ⟨rfl, e_z1, hl, hg, hs⟩
  have HL_z1 := Lib.hid hl; clear hl
  have LV' := Lib.hid (LV.out.new hs hg S.out.size); clear LV; have LV := LV'; clear LV'
  have S' := Lib.hid (since_step S.out hs); clear S; have S := S'; clear S'
  clear hs hg
  go_wp2_with fail
  go_at_call 27
  refine (eqFlsS_any _ _ n1 _ _ e_y1 e_z1 _ (FlsR.read (LV.out.2.1.1)) (FlsR.read (LV.out.1.1)) hn1 (fun k hk => by rw [(HL_y1.out k hk).1]; exact hs1 k hk) (fun k hk => ⟨FlsR.like_ok (HL_y1.out k hk) (HK1.out k hk), FlsR.like_tr (HL_y1.out k hk) (HL_z1.out k hk)⟩)).mono ?_
  rintro e v10 ⟨rfl, hs⟩
  have S' := Lib.hid (since_step S.out hs); clear S; have S := S'; clear S'
  have LV' := Lib.hid (LV.out.since hs); clear LV; have LV := LV'; clear LV'
  clear hs
  have LV' := Lib.hid LV.out.2; clear LV; have LV := LV'; clear LV'
  go_wp2_with fail
  go_ret
  exact ⟨rfl, S.out⟩
set_option maxHeartbeats 2000000 in
set_option maxRecDepth 100000 in
theorem lawIsState_big (A0 : Option Addr) (n0 c0 : Nat) (x0 : Nat → EffectR) (A1 : Option Addr) (n1 c1 : Nat) (x1 : Nat → FlsR) (w : World) (hr0 : Rs EffectR.cells 3 w w.heap.size A0 n0 x0) (hx0 : ∀ k, k < n0 → (x0 k).sn ≤ 9223372036854775807) (hb0 : n0 ≤ 9223372036854775807) (hf0 : ¬ (n0 : Int) + EffectR.tot x0 n0 ≤ 1048576)
    : Calls Try.prog 6 #[.slice A0 n0 c0, .slice A1 n1 c1] w fun e w' => e = .returned (.bool true) ∧ w.Since w.heap.size w' := by
  have HR0 := Lib.hid hr0; clear hr0
  by_cases h : 1048576 < (n0 : Int)
  · go_enter Try.func6, Try.ntmps6
    go_wp2_with (go_at_call 20; refine (szEffectS_big A0 n0 c0 _ _ (by omega) (by omega) (by omega) hb0).mono ?_; rintro e wz ⟨rfl, hs0⟩)
    go_ret
    exact ⟨rfl, hs0⟩
  · go_enter Try.func6, Try.ntmps6
    go_wp2_with (go_at_call 20; refine (szEffectS_any A0 n0 c0 x0 _ _ HR0.out (fun k hk => hx0 k hk) (by omega) (by omega) _ (if_neg hf0).symm).mono ?_; rintro e wz ⟨rfl, hs0⟩)
    go_ret
    exact ⟨rfl, hs0⟩
set_option maxHeartbeats 2000000 in
set_option maxRecDepth 100000 in
theorem lawIsState_big1 (A0 : Option Addr) (n0 c0 : Nat) (x0 : Nat → EffectR) (A1 : Option Addr) (n1 c1 : Nat) (x1 : Nat → FlsR) (w : World) (hr0 : Rs EffectR.cells 3 w w.heap.size A0 n0 x0) (hx0 : ∀ k, k < n0 → (x0 k).sn ≤ 9223372036854775807) (hb0 : n0 ≤ 9223372036854775807) (hr1 : Rs FlsR.cells 1 w w.heap.size A1 n1 x1) (hx1 : ∀ k, k < n1 → (x1 k).sn ≤ 9223372036854775807) (hb1 : n1 ≤ 9223372036854775807) (hf1 : ¬ (n1 : Int) + FlsR.tot x1 n1 ≤ (1048576 - n0 - (EffectR.tot x0 n0 : Nat))) (hf0 : (n0 : Int) + EffectR.tot x0 n0 ≤ 1048576)
    : Calls Try.prog 6 #[.slice A0 n0 c0, .slice A1 n1 c1] w fun e w' => e = .returned (.bool true) ∧ w.Since w.heap.size w' := by
  have HR0 := Lib.hid hr0; clear hr0
  have HR1 := Lib.hid hr1; clear hr1
  have HF1 := Lib.hid hf1; clear hf1
  have hz0 : decide ((1048576 : Int) - n0 - (EffectR.tot x0 n0 : Nat) < 0) = false := decide_eq_false (by omega)
  by_cases h : (1048576 - n0 - (EffectR.tot x0 n0 : Nat)) < (n1 : Int)
  · go_enter Try.func6, Try.ntmps6
    go_wp2_with fail
    go_at_call 20
    refine (szEffectS_any A0 n0 c0 x0 _ _ HR0.out (fun k hk => hx0 k hk) (by omega) (by omega) _ (if_pos hf0).symm).mono ?_; rintro e wz0 ⟨rfl, hs0⟩
    have HR1' := Lib.hid (HR1.out.now hs0); clear HR1; have HR1 := HR1'; clear HR1'
    have HS0 := Lib.hid hs0; clear hs0
    go_wp2_with fail
    go_at_call 31
    refine (szFloat32SS_big A1 n1 c1 _ _ (by omega) (by omega) (by omega) hb1).mono ?_
    rintro e wz ⟨rfl, hs1⟩
    go_wp2
    go_ret
    exact ⟨rfl, since_step HS0.out hs1⟩
  · go_enter Try.func6, Try.ntmps6
    go_wp2_with fail
    go_at_call 20
    refine (szEffectS_any A0 n0 c0 x0 _ _ HR0.out (fun k hk => hx0 k hk) (by omega) (by omega) _ (if_pos hf0).symm).mono ?_; rintro e wz0 ⟨rfl, hs0⟩
    have HR1' := Lib.hid (HR1.out.now hs0); clear HR1; have HR1 := HR1'; clear HR1'
    have HS0 := Lib.hid hs0; clear hs0
    go_wp2_with fail
    go_at_call 31
    refine (szFloat32SS_any A1 n1 c1 x1 _ _ HR1.out (fun k hk => hx1 k hk) (by omega) (by omega) _ (if_neg (by have := HF1.out; omega)).symm).mono ?_
    rintro e wz ⟨rfl, hs1⟩
    go_wp2
    go_ret
    exact ⟨rfl, since_step HS0.out hs1⟩
set_option maxHeartbeats 16000000 in
set_option maxRecDepth 100000 in
theorem lawNewState_gen (A0 : Option Addr) (n0 c0 : Nat) (x0 : Nat → EffectR) (rn0 : Nat) (rl0 : Nat → Nat) (rg0 : Nat → Nat → O) (rb1 : Bool) (w : World)
    (h0 : EffectR.Ts w w.heap.size A0 n0 x0) (hn0 : n0 ≤ 1048576) (hr0 : rn0 ≤ 1048576) (hrl0 : ∀ k, k < rn0 → rl0 k ≤ 1048576) (hrt0 : sumL rl0 rn0 ≤ 1048576)
    (hk0 : ∀ k, k < n0 → (x0 k).ok)
    (hs0 : ∀ k, k < n0 → (x0 k).sn ≤ 1048576) (ht0 : EffectR.tot x0 n0 ≤ 1048576) (hf0 : (n0 : Int) + EffectR.tot x0 n0 ≤ 1048576)
    (hsp : ∀ (v : World) (b0 : Nat) (e0 : Nat → EffectR), EffectR.Ts v v.heap.size (some ⟨b0, 0, none⟩) n0 e0 → (∀ k, k < n0 → (e0 k).like (x0 k)) → Calls Try.prog 25 #[.slice (some ⟨b0, 0, none⟩) n0 n0] v (PNB rn0 rl0 rg0 rb1 v))
    (him : ∀ (v : World) (b0 : Nat) (e0 : Nat → EffectR), EffectR.Ts v v.heap.size (some ⟨b0, 0, none⟩) n0 e0 → (∀ k, k < n0 → (e0 k).like (x0 k)) → Calls Try.prog 26 #[.slice (some ⟨b0, 0, none⟩) n0 n0] v (PNB rn0 rl0 rg0 rb1 v)) :
    Calls Try.prog 5 #[.slice A0 n0 c0] w fun e w' => e = .returned (.bool true) ∧ w.Since w.heap.size w' := by
  have S0 : Hid (w.Since w.heap.size w) := Lib.hid (World.Since.refl _ _)
  have F0 : Hid (EffectR.Ts w w.heap.size A0 n0 x0) := Lib.hid (h0.now S0.out); clear h0
  have hd0 : decide ((1048576 : Int) < n0) = false := decide_eq_false (by omega)
  have HSP := Lib.hid hsp; have HIM := Lib.hid him; clear hsp him
  have hz0 : decide ((1048576 : Int) - n0 - (EffectR.tot x0 n0 : Nat) < 0) = false := decide_eq_false (by omega)
  have HK0 := Lib.hid hk0; clear hk0
  go_enter Try.func5, Try.ntmps5
  go_wp2_with fail
  have S : Hid (w.Since w.heap.size w) := Lib.hid (World.Since.refl _ _)
  have LV : Hid (He w.heap.size w []) := Lib.hid trivial
  go_at_call 20
  refine (szEffectS_any A0 n0 c0 x0 _ _ (F0.out.1.now S.out) (fun k hk => Nat.le_trans (hs0 k hk) (by decide)) (by omega) (by omega) _ (if_pos hf0).symm).mono ?_; rintro e wz0 ⟨rfl, hs⟩
  have S' := Lib.hid (since_step S.out hs); clear S; have S := S'; clear S'
  have LV' := Lib.hid (LV.out.since hs); clear LV; have LV := LV'; clear LV'; clear hs
  go_wp2_with fail
  go_at_call 22
  refine (toEffectS_any A0 n0 c0 x0 w _ F0.out S.out hn0 hs0).mono ?_
  rintro e v1 ⟨rfl, e_s0, hl, hg, hs⟩
  have HL_s0 := Lib.hid hl; clear hl
  have LV' := Lib.hid (LV.out.new hs hg S.out.size); clear LV; have LV := LV'; clear LV'
  have S' := Lib.hid (since_step S.out hs); clear S; have S := S'; clear S'
  clear hs hg
  go_wp2_with fail
  go_at_call 25
  refine (HSP.out _ _ e_s0 (EffectR.read (LV.out.1.1)) HL_s0.out).mono ?_
  rintro e v2 ⟨A_w0, c_w0, x_w0, rfl, hg, hf, hs⟩
  have LV' := Lib.hid ((LV.out.2).new hs hg S.out.size); clear LV; have LV := LV'; clear LV'
  have S' := Lib.hid (since_step S.out hs); clear S; have S := S'; clear S'
  have Kw0 := Lib.hid hf; clear hf hg hs
  have Tw0 : FlsR.tot x_w0 rn0 = sumL rl0 rn0 := FlsR.tot_ares Kw0.out
  have Tw0 := Lib.hid Tw0
  go_wp2_with fail
  go_at_call 22
  refine (toEffectS_any A0 n0 c0 x0 w _ F0.out S.out hn0 hs0).mono ?_
  rintro e v3 ⟨rfl, e_y0, hl, hg, hs⟩
  have HL_y0 := Lib.hid hl; clear hl
  have LV' := Lib.hid (LV.out.new hs hg S.out.size); clear LV; have LV := LV'; clear LV'
  have S' := Lib.hid (since_step S.out hs); clear S; have S := S'; clear S'
  clear hs hg
  go_wp2_with fail
  go_at_call 26
  refine (HIM.out _ _ e_y0 (EffectR.read (LV.out.1.1)) HL_y0.out).mono ?_
  rintro e v4 ⟨A_g0, c_g0, x_g0, rfl, hg, hf, hs⟩
  have LV' := Lib.hid ((LV.out).new hs hg S.out.size); clear LV; have LV := LV'; clear LV'
  have S' := Lib.hid (since_step S.out hs); clear S; have S := S'; clear S'
  have Kg0 := Lib.hid hf; clear hf hg hs
  have Tg0 : FlsR.tot x_g0 rn0 = sumL rl0 rn0 := FlsR.tot_ares Kg0.out
  have Tg0 := Lib.hid Tg0
  go_wp2_with fail
  go_at_call 27
  refine (eqFls_any A_g0 A_w0 rn0 c_g0 c_w0 x_g0 x_w0 rl0 rg0 _ (FlsR.read (LV.out.1.1)) (FlsR.read (LV.out.2.2.1.1)) hr0 hrl0 Kg0.out Kw0.out).mono ?_
  rintro e v5 ⟨rfl, hs⟩
  have S' := Lib.hid (since_step S.out hs); clear S; have S := S'; clear S'
  have LV' := Lib.hid (LV.out.since hs); clear LV; have LV := LV'; clear LV'
  clear hs
  go_wp2_with fail
  go_at_call 22
  refine (toEffectS_any A0 n0 c0 x0 w _ F0.out S.out hn0 hs0).mono ?_
  rintro e v6 ⟨rfl, e_z0, hl, hg, hs⟩
  have HL_z0 := Lib.hid hl; clear hl
  have LV' := Lib.hid (LV.out.new hs hg S.out.size); clear LV; have LV := LV'; clear LV'
  have S' := Lib.hid (since_step S.out hs); clear S; have S := S'; clear S'
  clear hs hg
  go_wp2_with fail
  go_at_call 24
  refine (eqEffectS_any _ _ n0 _ _ e_y0 e_z0 _ (EffectR.read (LV.out.2.2.1.1)) (EffectR.read (LV.out.1.1)) hn0 (fun k hk => by rw [(HL_y0.out k hk).1]; exact hs0 k hk) (fun k hk => ⟨EffectR.like_ok (HL_y0.out k hk) (HK0.out k hk), EffectR.like_tr (HL_y0.out k hk) (HL_z0.out k hk)⟩)).mono ?_
  rintro e v7 ⟨rfl, hs⟩
  have S' := Lib.hid (since_step S.out hs); clear S; have S := S'; clear S'
  have LV' := Lib.hid (LV.out.since hs); clear LV; have LV := LV'; clear LV'
  clear hs
  have LV' := Lib.hid LV.out.2; clear LV; have LV := LV'; clear LV'
  go_wp2_with fail
  go_at_call 28
  have T_y0 : EffectR.tot e_y0 n0 = EffectR.tot x0 n0 := EffectR.tot_like HL_y0.out
  refine (markEffectS_any v2.heap.size n0 e_y0 _ (1) _ _ _ _ (He.front [_] LV.out) S.out.size (hn0) (fun k hk => by rw [(HL_y0.out k hk).1]; exact hs0 k hk) (by rw [T_y0]; exact ht0) (by omega) (by first | rfl | omega | (push_cast; omega))).mono ?_
  rw [T_y0]
  rintro e v8 ⟨rfl, hlv, hs⟩
  have LV' := Lib.hid hlv; clear LV hlv; have LV := LV'; clear LV'
  have S' := Lib.hid (since_mark S.out hs); clear S hs; have S := S'; clear S'; clear T_y0
  go_wp2_with fail
  go_at_call 27
  refine (eqFls_any A_g0 A_w0 rn0 c_g0 c_w0 x_g0 x_w0 rl0 rg0 _ (FlsR.read (LV.out.1.1)) (FlsR.read (LV.out.2.1.1)) hr0 hrl0 Kg0.out Kw0.out).mono ?_
  rintro e v9 ⟨rfl, hs⟩
  have S' := Lib.hid (since_step S.out hs); clear S; have S := S'; clear S'
  have LV' := Lib.hid (LV.out.since hs); clear LV; have LV := LV'; clear LV'
  clear hs
  go_wp2_with fail
  go_at_call 29
  refine (markFls_any A_g0 rn0 x_g0 _ (1) _ _ _ _ (LV.out) S.out.size hr0 (fun k hk => by rw [(Kg0.out k hk).1]; exact hrl0 k hk) (by rw [Tg0.out]; exact hrt0) (by omega) (by first | rfl | omega | (push_cast; omega))).mono ?_
  rw [Tg0.out]
  rintro e v10 ⟨rfl, hlv, hs⟩
  have LV' := Lib.hid hlv; clear LV hlv; have LV := LV'; clear LV'
  have S' := Lib.hid (since_mark S.out hs); clear S hs; have S := S'; clear S'
  go_wp2_with fail
  go_at_call 30
  refine (heldFls_any A_g0 rn0 x_g0 _ (1) _ _ _ (LV.out.1.1) hr0 (fun k hk => by rw [(Kg0.out k hk).1]; exact hrl0 k hk) (by rw [Tg0.out]; exact hrt0) (by omega) (by first | rfl | omega | (push_cast; omega))).mono ?_
  rw [Tg0.out]
  rintro e v ⟨rfl, rfl⟩
  go_wp2_with fail
  go_at_call 22
  refine (toEffectS_any A0 n0 c0 x0 w _ F0.out S.out hn0 hs0).mono ?_
  rintro e v11 ⟨rfl, e_t0, hl, hg, hs⟩
  have HL_t0 := Lib.hid hl; clear hl
  have LV' := Lib.hid (LV.out.new hs hg S.out.size); clear LV; have LV := LV'; clear LV'
  have S' := Lib.hid (since_step S.out hs); clear S; have S := S'; clear S'
  clear hs hg
  go_wp2_with fail
  go_at_call 26
  refine (HIM.out _ _ e_t0 (EffectR.read (LV.out.1.1)) HL_t0.out).mono ?_
  rintro e v12 ⟨A_h0, c_h0, x_h0, rfl, hg, hf, hs⟩
  have LV' := Lib.hid ((LV.out.2).new hs hg S.out.size); clear LV; have LV := LV'; clear LV'
  have S' := Lib.hid (since_step S.out hs); clear S; have S := S'; clear S'
  have Kh0 := Lib.hid hf; clear hf hg hs
  have Th0 : FlsR.tot x_h0 rn0 = sumL rl0 rn0 := FlsR.tot_ares Kh0.out
  have Th0 := Lib.hid Th0
  go_wp2_with fail
  go_at_call 27
  refine (eqFls_any A_h0 A_w0 rn0 c_h0 c_w0 x_h0 x_w0 rl0 rg0 _ (FlsR.read (LV.out.1.1)) (FlsR.read (LV.out.2.2.1.1)) hr0 hrl0 Kh0.out Kw0.out).mono ?_
  rintro e v13 ⟨rfl, hs⟩
  have S' := Lib.hid (since_step S.out hs); clear S; have S := S'; clear S'
  have LV' := Lib.hid (LV.out.since hs); clear LV; have LV := LV'; clear LV'
  clear hs
  go_wp2_with fail
  go_at_call 30
  refine (heldFls_any A_g0 rn0 x_g0 _ (1) _ _ _ (LV.out.2.1.1) hr0 (fun k hk => by rw [(Kg0.out k hk).1]; exact hrl0 k hk) (by rw [Tg0.out]; exact hrt0) (by omega) (by first | rfl | omega | (push_cast; omega))).mono ?_
  rw [Tg0.out]
  rintro e v ⟨rfl, rfl⟩
  go_wp2_with fail
  go_ret
  exact ⟨rfl, S.out⟩
set_option maxHeartbeats 2000000 in
set_option maxRecDepth 100000 in
theorem lawNewState_big (A0 : Option Addr) (n0 c0 : Nat) (x0 : Nat → EffectR) (w : World) (hr0 : Rs EffectR.cells 3 w w.heap.size A0 n0 x0) (hx0 : ∀ k, k < n0 → (x0 k).sn ≤ 9223372036854775807) (hb0 : n0 ≤ 9223372036854775807) (hf0 : ¬ (n0 : Int) + EffectR.tot x0 n0 ≤ 1048576)
    : Calls Try.prog 5 #[.slice A0 n0 c0] w fun e w' => e = .returned (.bool true) ∧ w.Since w.heap.size w' := by
  have HR0 := Lib.hid hr0; clear hr0
  by_cases h : 1048576 < (n0 : Int)
  · go_enter Try.func5, Try.ntmps5
    go_wp2_with (go_at_call 20; refine (szEffectS_big A0 n0 c0 _ _ (by omega) (by omega) (by omega) hb0).mono ?_; rintro e wz ⟨rfl, hs0⟩)
    go_ret
    exact ⟨rfl, hs0⟩
  · go_enter Try.func5, Try.ntmps5
    go_wp2_with (go_at_call 20; refine (szEffectS_any A0 n0 c0 x0 _ _ HR0.out (fun k hk => hx0 k hk) (by omega) (by omega) _ (if_neg hf0).symm).mono ?_; rintro e wz ⟨rfl, hs0⟩)
    go_ret
    exact ⟨rfl, hs0⟩
end Go.Proofs.Ytbgjmmncjmcjfaa

/- Whether lists are a state of a chain, of both. -/
set_option linter.unusedVariables false
set_option linter.unusedSimpArgs false
namespace Go.Proofs.Ytbgjmmncjmcjfaa
open Fl Go.RowKit
/-- how many numbers the state of an effect has -/
def keepN (x : EffectR) : Nat := (keepE x.k x.l).toNat
theorem keepN_eq {x : EffectR} (h : effB x = true) : (keepN x : Int) = keepE x.k x.l ∧ restE x.k + x.l = keepE x.k x.l ∧ keepN x ≤ 33 := by
  obtain ⟨h0, h1, h2, h3⟩ := effB_facts h
  have hl : (x.k = 0 ∨ x.k = 1 ∨ x.k = 3 ∨ x.k = 4 ∨ x.k = 5) → x.l = 0 := fun hk => by
    unfold effB inB at h
    simp only [Bool.and_eq_true, decide_eq_true_eq] at h
    obtain ⟨⟨⟨h5, h6⟩, _⟩, _⟩ := h
    unfold lowE at h5; unfold highE at h6
    rcases hk with e | e | e | e | e <;> rw [e] at h5 h6 <;> simp at h5 h6 <;> omega
  have e : keepE x.k x.l = restE x.k + x.l := by
    rcases h2 with e | e | e | e | e | e | e <;> rw [e] <;> simp [keepE, restE] <;> (try rw [hl (by omega)]) <;> (try rfl)
  have hr : 0 ≤ restE x.k ∧ restE x.k ≤ 2 := by
    unfold restE
    split
    · omega
    · split
      · omega
      · split <;> omega
  have hb : restE x.k + x.l ≤ 33 := by
    rcases h2 with e | e | e | e | e | e | e <;> rw [e] <;> simp [restE] <;> (try rw [hl (by omega)]) <;> omega
  unfold keepN
  rw [e]
  omega
/-- a number of a new state -/
def newO (x : EffectR) (i : Nat) : O := if x.k = 6 ∧ i = 0 then some 1065353216 else some 0
def wfl (f : Nat → Nat) (j : Nat) : Value := .float .f32 (f j)
theorem made_wfl (w : World) (n : Nat) : GF (w.alloc (.cells (madeCells #[Value.float FloatKind.f32 0] n) 55)) w.heap.size 55 n (wfl fun _ => 0) := by
  obtain ⟨cs, hb, _, hc⟩ := World.rowIs_made w (.float .f32 0) n 55
  exact ⟨cs, hb, fun j hj => hc j hj⟩
theorem setwfl {w : World} {g m : Nat} {T : TypeId} {ls : Nat → Nat} (h : GF w g T m (wfl ls)) (k v : Nat) : GF (w.setCell ⟨g, k, none⟩ (.float .f32 v)) g T m (wfl fun t => if t = k then v else ls t) := (GF.set h k _).congr fun j hj => by
  unfold wfl
  by_cases e : j = k
  · subst e; simp
  · simp [e]
theorem wd_mapE {m j : Nat} {f : Nat → Nat} (h : j < m) : wd ((List.range m).map f) j = f j := by unfold wd; simp [h]
theorem gs_wfl {w : World} {g m lo : Nat} {f : Nat → Nat} (h : GF w g 55 m (wfl f)) (hs : ∀ j, j < m → f j < 4294967296) (hl : lo ≤ g) : Ge lo w (fe (some ⟨g, 0, none⟩) m ((List.range m).map f)) :=
  ce_ge ⟨by simp, fun y hy => by
    obtain ⟨i, hi, rfl⟩ := List.mem_map.1 hy
    exact hs i (List.mem_range.1 hi)⟩ fun _ => by
    obtain ⟨cs, hb, hc⟩ := h
    exact ⟨g, 0, cs, rfl, hl, hb, fun j hj => by rw [Nat.zero_add, hc j hj]; unfold wfl fv; rw [wd_mapE hj]⟩
def newW (x : EffectR) (i : Nat) : Nat := if x.k = 6 ∧ i = 0 then 1065353216 else 0
theorem newW_O (x : EffectR) (i : Nat) : newW x i < 4294967296 ∧ ab .f32 (newW x i) = newO x i := by
  unfold newW newO
  by_cases h : x.k = 6 ∧ i = 0
  · rw [if_pos h, if_pos h]; exact ⟨by decide, by rw [ab32]; rfl⟩
  · rw [if_neg h, if_neg h]; exact ⟨by decide, by rw [ab32]; rfl⟩
/-- the new state of an effect, as a row -/
def newR (x : EffectR) (g : Nat) : FlsR := ⟨some ⟨g, 0, none⟩, keepN x, keepN x, (List.range (keepN x)).map (newW x)⟩
theorem newR_are (x : EffectR) (g : Nat) : (newR x g).sn = keepN x ∧ ∀ i, i < keepN x → ab .f32 (wd (newR x g).sx i) = newO x i :=
  ⟨rfl, fun i hi => by show ab .f32 (wd ((List.range (keepN x)).map (newW x)) i) = _; rw [wd_mapE hi]; exact (newW_O x i).2⟩
theorem gf_alloc (W : World) (T : TypeId) (cs : Array Value) (n g : Nat) (f : Nat → Value) (hg : g = W.heap.size) (h : ∀ j, j < n → cs[j]? = some (f j)) : GF (W.alloc (.cells cs T)) g T n f := by
  subst hg; exact ⟨cs, Go.Deep.blk_alloc_new _ _, h⟩
theorem madeCells_size1 (v : Value) (n : Nat) : (madeCells #[v] n).size = n := by unfold madeCells; simp
theorem madeAt (v : Value) {n j : Nat} (hj : j < n) : (madeCells #[v] n)[j]? = some v := by unfold madeCells; simp [hj, Nat.mod_one]
set_option maxHeartbeats 4000000 in
set_option maxRecDepth 100000 in
theorem newStateOf_any (x : EffectR) (w : World) (hb : effB x = true) :
    Calls Try.prog 74 #[x.val] w fun e w' => ∃ g, w.heap.size ≤ g ∧ e = .returned (newR x g).val ∧ Ge w.heap.size w' (newR x g).inn ∧ w.Since w.heap.size w' := by
  have hk := effB_facts hb
  have HSH := Lib.hid (fun W => shapeOf_ok x.k W hk.2.2.1)
  obtain ⟨h1, h2, h3⟩ := keepN_eq hb
  have HR : Hid (∀ i, newW x i = if x.k = 6 ∧ i = 0 then 1065353216 else 0) := Lib.hid (fun i => rfl)
  have h4 : 0 ≤ x.l := hk.1
  have h5 : x.l ≤ 32 := hk.2.1
  have hrest : 0 ≤ restE x.k ∧ restE x.k ≤ 2 := by
    unfold restE
    split
    · omega
    · split
      · omega
      · split <;> omega
  have H6 : Hid (x.k = 6 → 0 < keepN x) := Lib.hid (fun h6 => by
    have : keepE x.k x.l = 1 + x.l := by rw [h6]; rfl
    omega)
  have hsum : restE x.k + x.l = (keepN x : Int) := by rw [h1, h2]
  unfold newR FlsR.val FlsR.inn
  obtain ⟨k, l, sA, sn, sc, sx⟩ := x
  unfold EffectR.val
  simp only at HSH HR h4 h5 hrest H6 hsum ⊢
  generalize keepN _ = n at H6 hsum h3 ⊢
  generalize newW _ = nw at HR ⊢
  generalize restE k = rs at HSH hrest hsum
  have hmk := fun W => run_make_row' (P := Try.prog) 22 55 (.float .f32 0) 4 Try.underlying22 Try.infoF rfl .i64 .i64 n (by omega) (by omega) W
  rw [← hsum] at hmk
  have HN : Hid (rs + l = (n : Int)) := Lib.hid hsum
  have hr0 := hrest.1; have hr1 := hrest.2
  clear hb hk h1 h2 hsum hrest
  generalize cntE k = cn at HSH
  generalize lowE k = lo at HSH
  generalize highE k = hi at HSH
  obtain ⟨W1, hW1⟩ : ∃ W1, W1 = w.alloc (.cells #[.int .i64 k, .int .i64 l, .slice sA sn sc] 27) := ⟨_, rfl⟩
  have z1 : Hid (W1.heap.size = w.heap.size + 1) := Lib.hid (by rw [hW1]; simp)
  have S1 : Hid (w.Since w.heap.size W1) := Lib.hid (by rw [hW1]; exact (World.Since.refl _ _).alloc (Nat.le_refl _) _)
  have C0 : Hid (W1.cell? ⟨w.heap.size, 0, none⟩ = some (.int .i64 k)) := Lib.hid (by rw [hW1]; simp [go_sem])
  have C1 : Hid (W1.cell? ⟨w.heap.size, 1, none⟩ = some (.int .i64 l)) := Lib.hid (by rw [hW1]; simp [go_sem])
  have HW1 := Lib.hid hW1
  clear hW1
  go_enter Try.func74, Try.ntmps74
  go_wp2_with fail
  rw [← HW1.out]
  have c0 := C0.out
  go_wp2_with fail
  go_at_call 67
  refine (HSH.out _).mono ?_
  rintro e w2 ⟨rfl, hs⟩
  have S2 := Lib.hid hs; clear hs c0
  have z2 := S2.out.size
  have hz1 := z1.out
  have c0 := (S2.out.cell (a := ⟨w.heap.size, 0, none⟩) (by show w.heap.size < _; omega)).trans C0.out
  have c1 := (S2.out.cell (a := ⟨w.heap.size, 1, none⟩) (by show w.heap.size < _; omega)).trans C1.out
  have hlt : w.heap.size < w2.heap.size := by omega
  have SS := Lib.hid (since_step S1.out S2.out)
  by_cases h6 : k = 6
  · subst h6
    have h0 : 0 < n := H6.out rfl
    have hm0 : (madeCells #[Value.float FloatKind.f32 0] n)[0]? = some (Value.float FloatKind.f32 0) := madeAt _ h0
    have hm1 : (madeCells #[Value.float FloatKind.f32 0] n).size = n := madeCells_size1 _ _
    go_wp2
    go_ret
    refine ⟨_, ?_, rfl, ?_, ?_⟩
    · omega
    · refine gs_wfl (f := nw) (gf_alloc _ _ _ _ _ _ (by simp) fun j hj => ?_) (fun j hj => ?_) (by omega)
      · unfold wfl
        rw [HR.out j, Array.getElem?_setIfInBounds]
        by_cases e : 0 = j
        · subst e; rw [if_pos rfl, if_pos (by rw [madeCells_size1]; exact h0)]; simp
        · rw [if_neg e, madeAt _ hj, if_neg (fun h => e h.2.symm)]
      · rw [HR.out j]; split <;> decide
    · have hs0 := SS.out; have hz0 := hs0.size; (repeat (first | (with_reducible refine Fl.sinDrew ?_) | (with_reducible refine World.Since.drew ?_) | (with_reducible refine Fl.sinSet ?_ ?_; rotate_left) | (with_reducible refine Fl.sinAlloc ?_ ?_; rotate_left) | with_reducible exact World.Since.refl _ _ | with_reducible assumption | (with_reducible refine Fl.sinStep (by with_reducible assumption) ?_))); all_goals (first | omega | (simp; done) | (simp; omega) | (simp [go_sem]; done) | (simp [go_sem]; omega))
  · go_wp2
    go_ret
    refine ⟨_, ?_, rfl, ?_, ?_⟩
    · omega
    · refine gs_wfl (f := nw) (gf_alloc _ _ _ _ _ _ (by simp) fun j hj => ?_) (fun j hj => ?_) (by omega)
      · unfold wfl
        rw [HR.out j, madeAt _ hj, if_neg (fun h => h6 h.1)]
      · rw [HR.out j]; split <;> decide
    · have hs0 := SS.out; have hz0 := hs0.size; (repeat (first | (with_reducible refine Fl.sinDrew ?_) | (with_reducible refine World.Since.drew ?_) | (with_reducible refine Fl.sinSet ?_ ?_; rotate_left) | (with_reducible refine Fl.sinAlloc ?_ ?_; rotate_left) | with_reducible exact World.Since.refl _ _ | with_reducible assumption | (with_reducible refine Fl.sinStep (by with_reducible assumption) ?_))); all_goals (first | omega | (simp; done) | (simp; omega) | (simp [go_sem]; done) | (simp [go_sem]; omega))
/-- lists fit the effects -/
def fitIn (x : Nat → EffectR) (y : Nat → FlsR) (k : Nat) : Prop := ∀ j, j < k → (y j).sn = keepN (x j)
def fitOk (x : Nat → EffectR) (n : Nat) (y : Nat → FlsR) (m : Nat) : Prop := chainOk x n ∧ m = n ∧ fitIn x y n
theorem fitIn_succ {x : Nat → EffectR} {y : Nat → FlsR} {k : Nat} (h : fitIn x y k) (hk : (y k).sn = keepN (x k)) : fitIn x y (k + 1) := fun j hj => by
  by_cases e : j = k
  · subst e; exact hk
  · exact h j (by omega)
set_option maxHeartbeats 4000000 in
set_option maxRecDepth 100000 in
theorem specFit_b (A C : Option Addr) (n c m d : Nat) (x : Nat → EffectR) (y : Nat → FlsR) (r : Bool) (w : World) (h : EffectR.Ts w w.heap.size A n x) (hy : Rs FlsR.cells 1 w w.heap.size C m y) (hn : n ≤ 1048576) (hr : r = true ↔ fitOk x n y m) :
    Calls Try.prog 75 #[.slice A n c, .slice C m d] w fun e w' => e = .returned (.bool r) ∧ w.Since w.heap.size w' := by
  have HA := Lib.hid h; have HC := Lib.hid hy; have HR := Lib.hid hr
  by_cases hc : chainOk x n
  · have HCH := Lib.hid hc
    have HIS := Lib.hid (specIs_b A n c x true w _ h (Nat.le_refl _) hn (by simp [hc]))
    by_cases hm : (m : Int) = (n : Int)
    · obtain rfl : m = n := by omega
      clear h hy hr hc hm
      go_enter Try.func75, Try.ntmps75
      go_wp2_with (first | (go_at_call 70; refine HIS.out.mono ?_; rintro e w2 ⟨rfl, hs⟩))
      have HS0 := Lib.hid hs; clear hs HIS
      go_loopw [5] (fun i wr => ∃ k : Nat, k ≤ m ∧ i = .int .i64 k ∧ fitIn x y k ∧ w.Since w.heap.size wr) (fun i _ => m - (intOf i).toNat)
      case atStart => exact ⟨0, Nat.zero_le _, rfl, (fun j hj => by omega), HS0.out⟩
      case round =>
        obtain ⟨k, hk, rfl, hz, hs⟩ := hrel
        have HZ := Lib.hid hz; have HS := Lib.hid hs
        clear hz hs
        by_cases hlt : k < m
        · obtain ⟨g, off, rfl, hg, hc⟩ := HA.out.1.at_ hlt
          obtain ⟨g2, off2, rfl, hg2, hc2⟩ := FlsR.Ts.row HC.out hlt
          have hc0 := (HS.out.cell (a := ⟨g, off + k * 3 + 0, none⟩) (by show g < _; omega)).trans (hc 0 (by decide))
          have hc1 := (HS.out.cell (a := ⟨g, off + k * 3 + 1, none⟩) (by show g < _; omega)).trans (hc 1 (by decide))
          have hd0 := (HS.out.cell (a := ⟨g2, off2 + k, none⟩) hg2).trans hc2
          simp only [EffectR.cells, List.getD_cons_zero, List.getD_cons_succ, Nat.add_zero] at hc0 hc1
          have hE := effB_facts (HCH.out.1 k hlt)
          have hK := keepN_eq (HCH.out.1 k hlt)
          have HCO := Lib.hid (fun W => specCounts_any (x k).k (x k).l W hE.1 hE.2.1)
          have hKE := hK.1
          simp only [← hKE] at HCO
          clear hc hc2 hE hK hKE
          by_cases hq : ((y k).sn : Int) = (keepN (x k) : Int)
          · have HQ := Lib.hid hq
            go_wp2_with fail
            go_quiet (first | (go_at_call 111; refine Calls.quiet_of_same (HCO.out _)))
            go_wp2
            go_roundw
            case rel => exact ⟨k + 1, by omega, by go_num, fitIn_succ HZ.out (by have := HQ.out; omega), since_drewN HS.out _⟩
            case measure => simp [intOf]; omega
          · have h6 : r = false := by
              cases h6 : r
              · rfl
              · exact absurd ((HR.out.1 h6).2.2 k hlt) (by omega)
            subst h6
            go_wp2_with fail
            go_quiet (first | (go_at_call 111; refine Calls.quiet_of_same (HCO.out _)))
            go_wp2
            go_ret
            exact ⟨rfl, since_drewN HS.out _⟩
        · obtain rfl : k = m := by omega
          have h5 := HR.out.2 ⟨HCH.out, rfl, HZ.out⟩
          subst h5
          clear HR
          go_wp2
          go_ret
          exact ⟨rfl, HS.out⟩
    · have h6 : r = false := by
        cases h6 : r
        · rfl
        · exact absurd (hr.1 h6).2.1 (by omega)
      subst h6
      clear h hy hr hc HR HCH
      go_enter Try.func75, Try.ntmps75
      go_wp2_with (first | (go_at_call 70; refine HIS.out.mono ?_; rintro e w2 ⟨rfl, hs⟩))
      go_ret
      exact ⟨rfl, hs⟩
  · have h6 : r = false := by
      cases h6 : r
      · rfl
      · exact absurd (hr.1 h6).1 hc
    subst h6
    have HIS := Lib.hid (specIs_b A n c x false w _ h (Nat.le_refl _) hn (by simp [hc]))
    clear h hy hr hc HR
    go_enter Try.func75, Try.ntmps75
    go_wp2_with (first | (go_at_call 70; refine HIS.out.mono ?_; rintro e w2 ⟨rfl, hs⟩))
    go_ret
    exact ⟨rfl, hs⟩
theorem specIsState_b (A C : Option Addr) (n c m d : Nat) (x : Nat → EffectR) (y : Nat → FlsR) (r : Bool) (w : World) (h : EffectR.Ts w w.heap.size A n x) (hy : Rs FlsR.cells 1 w w.heap.size C m y) (hn : n ≤ 1048576) (hr : r = true ↔ fitOk x n y m) :
    Calls Try.prog 32 #[.slice A n c, .slice C m d] w (PB r w) := by
  unfold PB
  have HF := Lib.hid (specFit_b A C n c m d x y r w h hy hn hr)
  clear h hy hr
  go_enter Try.func32, Try.ntmps32
  go_wp2_with (go_at_call 75; refine HF.out.mono ?_; rintro e w2 ⟨rfl, hs⟩)
  go_ret
  exact ⟨rfl, hs⟩
theorem isStateOf_any (x : EffectR) (y : FlsR) (b : Bool) (w : World) (hx : effB x = true) (hb : decide ((y.sn : Int) = (keepN x : Int)) = b) :
    Calls Try.prog 77 #[x.val, .slice y.sA y.sn y.sc] w fun e w' => e = .returned (.bool b) ∧ w.Since w.heap.size w' := by
  have HN := Lib.hid (fun W => newStateOf_any x W hx)
  unfold newR FlsR.val at HN
  simp only at HN
  subst hb
  generalize keepN x = n at HN ⊢
  clear hx
  obtain ⟨k, l, sA, sn, sc, sx⟩ := x
  unfold EffectR.val at HN ⊢
  by_cases h : (y.sn : Int) = (n : Int)
  · rw [decide_eq_true h]
    go_enter Try.func77, Try.ntmps77
    go_wp2_with (go_at_call 74; refine (HN.out _).mono ?_; rintro e w2 ⟨g, hg0, rfl, hg, hs⟩; clear hg hg0)
    go_ret
    exact ⟨ret_bool (by first | rfl | exact beq_iff_eq.2 h), by first | exact hs | exact since_step ((World.Since.refl _ _).alloc (Nat.le_refl _) _) hs⟩
  · rw [decide_eq_false h]
    go_enter Try.func77, Try.ntmps77
    go_wp2_with (go_at_call 74; refine (HN.out _).mono ?_; rintro e w2 ⟨g, hg0, rfl, hg, hs⟩; clear hg hg0)
    go_ret
    exact ⟨ret_bool (by first | rfl | exact beq_eq_false_iff_ne.2 h), by first | exact hs | exact since_step ((World.Since.refl _ _).alloc (Nat.le_refl _) _) hs⟩
set_option maxHeartbeats 4000000 in
set_option maxRecDepth 100000 in
theorem equalFit_any (A C : Option Addr) (n c m d : Nat) (x : Nat → EffectR) (y : Nat → FlsR) (r : Bool) (w : World) (h : EffectR.Ts w w.heap.size A n x) (hx : effsIn x n) (hy : Rs FlsR.cells 1 w w.heap.size C m y) (hn : n ≤ 1048576) (hr : r = true ↔ m = n ∧ fitIn x y n) :
    Calls Try.prog 76 #[.slice A n c, .slice C m d, .func (.func 77) #[] #[]] w fun e w' => e = .returned (.bool r) ∧ w.Since w.heap.size w' := by
  have HA := Lib.hid h; have HC := Lib.hid hy; have HR := Lib.hid hr; have HX := Lib.hid hx
  clear h hy hr hx
  by_cases hm : (n : Int) = (m : Int)
  · obtain rfl : m = n := by omega
    clear hm
    go_enter Try.func76, Try.ntmps76
    go_wp2
    go_loopw [17] (fun i wr => ∃ k : Nat, k ≤ m ∧ i = .int .i64 k ∧ fitIn x y k ∧ w.Since w.heap.size wr) (fun i _ => m - (intOf i).toNat)
    case atStart => exact ⟨0, Nat.zero_le _, rfl, (fun j hj => by omega), World.Since.refl _ _⟩
    case round =>
      obtain ⟨k, hk, rfl, hz, hs⟩ := hrel
      have HZ := Lib.hid hz; have HS := Lib.hid hs
      clear hz hs
      by_cases hlt : k < m
      · obtain ⟨g, off, rfl, hg, hc⟩ := HA.out.1.at_ hlt
        obtain ⟨g2, off2, rfl, hg2, hc2⟩ := FlsR.Ts.row HC.out hlt
        have hc0 := (HS.out.cell (a := ⟨g, off + k * 3 + 0, none⟩) (by show g < _; omega)).trans (hc 0 (by decide))
        have hc1 := (HS.out.cell (a := ⟨g, off + k * 3 + 1, none⟩) (by show g < _; omega)).trans (hc 1 (by decide))
        have hcc := (HS.out.cell (a := ⟨g, off + k * 3 + 2, none⟩) (by show g < _; omega)).trans (hc 2 (by decide))
        have hd0 := (HS.out.cell (a := ⟨g2, off2 + k, none⟩) hg2).trans hc2
        simp only [EffectR.cells, List.getD_cons_zero, List.getD_cons_succ, Nat.add_zero] at hc0 hc1 hcc
        have hz1 := HS.out.size
        have hd1 := fun o => (((World.Since.refl wr.heap.size wr).alloc (Nat.le_refl _) o).cell (a := ⟨g2, off2 + k, none⟩) (by show g2 < _; omega)).trans hd0
        have HQ := Lib.hid (fun b (hb : decide (((y k).sn : Int) = (keepN (x k) : Int)) = b) W => isStateOf_any (x k) (y k) b W (HX.out k hlt) hb)
        unfold EffectR.val at HQ
        clear hc hc2 hd0 hz1
        cases hq : decide (((y k).sn : Int) = (keepN (x k) : Int))
        · have h6 : r = false := by
            cases h6 : r
            · rfl
            · exact absurd ((HR.out.1 h6).2 k hlt) (by have := of_decide_eq_false hq; omega)
          subst h6
          have HO := Lib.hid hq; clear hq
          go_wp2_with fail
          refine (HQ.out false HO.out _).mono ?_; rintro e w2 ⟨rfl, hs2⟩
          have HS2 := Lib.hid (since_step (HS.out.alloc HS.out.size _) hs2); clear hs2
          go_wp2
          go_ret
          exact ⟨rfl, HS2.out⟩
        · have HO := Lib.hid hq; clear hq
          go_wp2_with fail
          refine (HQ.out true HO.out _).mono ?_; rintro e w2 ⟨rfl, hs2⟩
          have HS2 := Lib.hid (since_step (HS.out.alloc HS.out.size _) hs2); clear hs2
          go_wp2
          go_roundw
          case rel => exact ⟨k + 1, by omega, by go_num, fitIn_succ HZ.out (by have := of_decide_eq_true HO.out; omega), HS2.out⟩
          case measure => simp [intOf]; omega
      · obtain rfl : k = m := by omega
        have h5 := HR.out.2 ⟨by first | rfl | trivial, HZ.out⟩
        subst h5
        clear HR
        go_wp2
        go_ret
        refine ⟨?_, HS.out⟩
        first | rfl | trivial
  · have h6 : r = false := by
      cases h6 : r
      · rfl
      · exact absurd (HR.out.1 h6).1 (by omega)
    subst h6
    clear HR
    go_enter Try.func76, Try.ntmps76
    go_wp2
    go_ret
    exact ⟨rfl, World.Since.refl _ _⟩
open Classical in
theorem implIsState_b (A C : Option Addr) (n c m d : Nat) (x : Nat → EffectR) (y : Nat → FlsR) (r : Bool) (w : World) (h : EffectR.Ts w w.heap.size A n x) (hy : Rs FlsR.cells 1 w w.heap.size C m y) (hn : n ≤ 1048576) (hr : r = true ↔ fitOk x n y m) :
    Calls Try.prog 34 #[.slice A n c, .slice C m d] w (PB r w) := by
  unfold PB
  by_cases hc : chainOk x n
  · have HV := Lib.hid (implValidChain_b A n c x true w h hn (by simp [hc]))
    unfold PB at HV
    have HE := Lib.hid (fun W (s : w.Since w.heap.size W) => equalFit_any A C n c m d x y r W (h.now s) hc.1 (hy.now s) hn (hr.trans ⟨fun q => q.2, fun q => ⟨hc, q⟩⟩))
    clear h hy hr hc
    go_enter Try.func34, Try.ntmps34
    go_wp2_with (first | (go_at_call 23; refine HV.out.mono ?_; rintro e w2 ⟨rfl, hs⟩; have HS := Lib.hid hs; clear hs) | (go_at_call 76; refine (HE.out _ HS.out).mono ?_; rintro e w3 ⟨rfl, hs3⟩))
    go_ret
    exact ⟨rfl, since_step HS.out hs3⟩
  · have h6 : r = false := by
      cases h6 : r
      · rfl
      · exact absurd (hr.1 h6).1 hc
    subst h6
    have HV := Lib.hid (implValidChain_b A n c x false w h hn (by simp [hc]))
    unfold PB at HV
    clear h hy hr hc
    go_enter Try.func34, Try.ntmps34
    go_wp2_with (first | (go_at_call 23; refine HV.out.mono ?_; rintro e w2 ⟨rfl, hs⟩))
    go_ret
    exact ⟨rfl, hs⟩
end Go.Proofs.Ytbgjmmncjmcjfaa

/- New states of chains, of both. -/
set_option linter.unusedVariables false
set_option linter.unusedSimpArgs false
namespace Go.Proofs.Ytbgjmmncjmcjfaa
open Fl Go.RowKit
set_option maxHeartbeats 8000000 in
set_option maxRecDepth 100000 in
theorem newStates_any (A : Option Addr) (n c : Nat) (x : Nat → EffectR) (v : World) (h : EffectR.Ts v v.heap.size A n x) (hx : effsIn x n) (hn : n ≤ 1048576) :
    Calls Try.prog 73 #[.slice A n c, .func (.func 74) #[] #[]] v fun r v' => r = .returned (.slice (some ⟨v.heap.size, 0, none⟩) n n) ∧ ∃ e : Nat → FlsR, FlsR.ares n e (fun k => keepN (x k)) (fun k => newO (x k)) ∧ Ge v.heap.size v' (FlsR.ent (some ⟨v.heap.size, 0, none⟩) n e) ∧ v.Since v.heap.size v' := by
  have H := Lib.hid h
  have HX := Lib.hid hx
  clear h hx
  have hmk := fun W => run_make_row' (P := Try.prog) 38 22 (.slice none 0 0) 24 Try.underlying38 Try.infoFls rfl .i64 .i64 n (by omega) (by omega) W
  have hmd := Lib.hid (made_fls v n)
  go_enter Try.func73, Try.ntmps73
  go_wp2
  go_loopw [13] (fun i wr => ∃ (k : Nat) (e : Nat → FlsR), k ≤ n ∧ i = .int .i64 (k : Nat) ∧ (∀ j, j < k → (e j).sn = keepN (x j) ∧ ∀ i, i < keepN (x j) → ab .f32 (wd (e j).sx i) = newO (x j) i) ∧ GF wr v.heap.size 22 n (fun i => if i < k then (e i).val else FlsR.zero.val) ∧ (∀ j, j < k → Ge (v.heap.size + 1) wr (e j).inn) ∧ (∀ i j, i < k → j < k → i ≠ j → De (e i).inn (e j).inn) ∧ v.Since v.heap.size wr) (fun i _ => n - (intOf i).toNat)
  case atStart => exact ⟨0, fun _ => FlsR.zero, Nat.zero_le _, rfl, (fun j hj => by omega), hmd.out, (fun j hj => by omega), (fun i j hi => by omega), (World.Since.refl _ _).alloc (Nat.le_refl _) _⟩
  case round =>
    obtain ⟨k, e, hk, rfl, hlk, hg, hin, hde, hs⟩ := hrel
    have HL := Lib.hid hlk; have HG := Lib.hid hg; have HIN := Lib.hid hin; have HDE := Lib.hid hde; have HS := Lib.hid hs
    have hzw : v.heap.size + 1 ≤ wr.heap.size := hg.lt
    clear hlk hg hin hde hs hmd
    by_cases hlt : k < n
    · obtain ⟨g, off, rfl, hgl, hc⟩ := H.out.1.at_ hlt
      have hc0 := (HS.out.cell (a := ⟨g, off + k * 3 + 0, none⟩) hgl).trans (hc 0 (by decide))
      have hc1 := (HS.out.cell (a := ⟨g, off + k * 3 + 1, none⟩) hgl).trans (hc 1 (by decide))
      have hc2 := (HS.out.cell (a := ⟨g, off + k * 3 + 2, none⟩) hgl).trans (hc 2 (by decide))
      simp only [EffectR.cells, List.getD_cons_zero, List.getD_cons_succ, Nat.add_zero] at hc0 hc1 hc2
      have HTO := Lib.hid (fun W => newStateOf_any (x k) W (HX.out k hlt))
      unfold EffectR.val at HTO
      clear hc
      go_wp2_with fail
      refine (HTO.out _).mono ?_
      rintro r w2 ⟨gz, hg0, rfl, hgz, hs0⟩
      have hs1 : wr.Since wr.heap.size (wr.alloc (.cells #[.int .i64 (x k).k, .int .i64 (x k).l, .slice (x k).sA (x k).sn (x k).sc] 27)) := (World.Since.refl _ _).alloc (Nat.le_refl _) _
      have hs2 := since_step hs1 hs0
      obtain ⟨z, hz⟩ : ∃ z : FlsR, z = newR (x k) gz := ⟨_, rfl⟩
      have hvz : (newR (x k) gz).val = .slice (some ⟨gz, 0, none⟩) (keepN (x k)) (keepN (x k)) := rfl
      have HVZ : Hid (z.val = .slice (some ⟨gz, 0, none⟩) (keepN (x k)) (keepN (x k))) := Lib.hid (by rw [hz]; rfl)
      rw [hvz]
      rw [← hz] at hgz
      have HGZ := Lib.hid (hgz.less hs1.size)
      have HLZ : Hid (z.sn = keepN (x k) ∧ ∀ i, i < keepN (x k) → ab .f32 (wd z.sx i) = newO (x k) i) := Lib.hid (by rw [hz]; exact newR_are _ _)
      have HG2 := Lib.hid (HG.out.of (hs2.block _ HG.out.lt))
      have HS2 := Lib.hid (since_step HS.out hs2)
      have HT2 := Lib.hid hs2
      clear hs0 hs1 hs2 hgz HG hc0 hc1 hc2 hz hg0 hvz
      have hd0 := HG2.out.cell hlt
      have hf0 := HG2.out.free k
      generalize (if k < k then (e k).val else FlsR.zero.val) = u0 at hd0
      go_wp2
      go_roundw
      case rel =>
        refine ⟨k + 1, fun i => if i = k then z else e i, by omega, by go_num, fun j hj => ?_, ?_, fun j hj => ?_, fun i j hi hj hij => ?_, HS2.out.setCell (Nat.le_refl _) _⟩
        · show (if j = k then z else e j).sn = keepN (x j) ∧ ∀ i, i < keepN (x j) → ab .f32 (wd (if j = k then z else e j).sx i) = newO (x j) i
          by_cases h : j = k
          · subst h; rw [if_pos rfl]; exact HLZ.out
          · rw [if_neg h]; exact HL.out j (by omega)
        · refine (HG2.out.set k _).congr (fun j hj => ?_)
          by_cases h : j = k
          · subst h
            rw [if_pos rfl, if_pos (by omega)]
            show _ = (if j = j then z else e j).val
            rw [if_pos rfl, HVZ.out]
          · rw [if_neg h]
            by_cases h2 : j < k
            · simp only [if_pos h2, if_pos (show j < k + 1 by omega), if_neg h]
            · simp only [if_neg h2, if_neg (show ¬ j < k + 1 by omega)]
        · show Ge (v.heap.size + 1) _ (if j = k then z else e j).inn
          by_cases h : j = k
          · subst h; rw [if_pos rfl]
            refine (HGZ.out.less hzw).keep (fun g hg => ?_) (by simp only [Go.Deep.nblk_setCell]; exact Nat.le_refl _)
            have hne : g ≠ v.heap.size := by have := (HGZ.out.2.2 g hg).1; omega
            rw [Go.Deep.blk_setCell_other _ _ _ _ hne]
          · rw [if_neg h]
            refine ((HIN.out j (by omega)).since HT2.out).keep (fun g hg => ?_) (by simp only [Go.Deep.nblk_setCell]; exact Nat.le_refl _)
            have hne : g ≠ v.heap.size := by have := ((HIN.out j (by omega)).2.2 g hg).1; omega
            rw [Go.Deep.blk_setCell_other _ _ _ _ hne]
        · show De (if i = k then z else e i).inn (if j = k then z else e j).inn
          by_cases h1 : i = k
          · rw [if_pos h1]
            have h2 : j ≠ k := fun h => hij (h1.trans h.symm)
            rw [if_neg h2]
            intro g ha hb
            have h3 := (HGZ.out.2.2 g ha).1
            have h4 := ((HIN.out j (by omega)).2.2 g hb).2
            omega
          · rw [if_neg h1]
            by_cases h2 : j = k
            · rw [if_pos h2]
              intro g ha hb
              have h3 := (HGZ.out.2.2 g hb).1
              have h4 := ((HIN.out i (by omega)).2.2 g ha).2
              omega
            · rw [if_neg h2]; exact HDE.out i j (by omega) (by omega) hij
      case measure => simp [intOf]; omega
    · obtain rfl : k = n := by omega
      go_wp2
      go_ret
      refine ⟨rfl, e, HL.out, ne_ge (FlsR.entry (HG.out.congr fun j hj => if_pos hj) (Nat.le_refl _)) (fun j hj => (HIN.out j hj).less (by omega)) ⟨fun j hj g ha hb => ?_, HDE.out⟩, HS.out⟩
      obtain ⟨_, o2, e2⟩ := ha
      injection e2 with e2; injection e2 with e2 _ _
      have := ((HIN.out j hj).2.2 g hb).1
      omega
theorem implNewState_b (A : Option Addr) (n c : Nat) (x : Nat → EffectR) (r : Bool) (w : World) (h : EffectR.Ts w w.heap.size A n x) (hn : n ≤ 1048576) (hr : r = true ↔ chainOk x n) :
    Calls Try.prog 26 #[.slice A n c] w (PNB (if r then n else 0) (fun k => keepN (x k)) (fun k => newO (x k)) r w) := by
  have HV := Lib.hid (implValidChain_b A n c x r w h hn hr)
  unfold PB at HV
  cases hrr : r
  · rw [hrr] at HV
    rw [if_neg (by decide)]
    clear h hr hrr
    go_enter Try.func26, Try.ntmps26
    go_wp2_with (first | (go_at_call 23; refine HV.out.mono ?_; rintro e w2 ⟨rfl, hs⟩))
    go_ret2
    exact PNB.none_ hs _ _
  · rw [hrr] at HV
    rw [if_pos rfl]
    have HX := Lib.hid (hr.1 hrr).1
    have HA := Lib.hid h
    clear h hr hrr
    unfold PNB
    go_enter Try.func26, Try.ntmps26
    go_wp2_with (first | (go_at_call 23; refine HV.out.mono ?_; rintro e w2 ⟨rfl, hs⟩; have HS := Lib.hid hs; clear hs) | (go_at_call 73; refine (newStates_any A n c x _ (HA.out.now HS.out) HX.out hn).mono ?_; rintro e w3 ⟨rfl, f, hf, hg, hs3⟩))
    go_ret2
    exact ⟨_, _, f, rfl, hg.less HS.out.size, hf, since_step HS.out hs3⟩
/-- v is a row of lists of the loop's own: its block lies apart from what the lists lie in -/
def RwF (lo : Nat) (w : World) (v : Value) (k : Nat) (e : Nat → FlsR) : Prop :=
  w.ownsRow lo 22 1 v k ((List.range k).map fun j => (e j).val) ∧ (∀ j, j < k → Ge lo w (e j).inn) ∧ (∀ i j, i < k → j < k → i ≠ j → De (e i).inn (e j).inn) ∧ ∀ b, v.ownBlock = some b → ∀ j, j < k → ¬ (e j).inn.S b
theorem RwF.start (w : World) (lo : Nat) (h : lo ≤ w.heap.size) (e : Nat → FlsR) : RwF lo (w.alloc (.cells #[] 22)) (.slice (some ⟨w.heap.size, 0, none⟩) 0 0) 0 e :=
  ⟨⟨rfl, .inr ⟨w.heap.size, 0, #[], rfl, h, Go.Deep.blk_alloc_new _ _, Nat.le_refl _, Nat.zero_le _, rfl, rfl⟩⟩, fun j hj => by omega, fun i j hi => by omega, fun b _ j hj => by omega⟩
theorem RwF.since {lo : Nat} {w w' : World} {v : Value} {k : Nat} {e : Nat → FlsR} (h : RwF lo w v k e) (s : w.Since w.heap.size w') : RwF lo w' v k e := by
  obtain ⟨⟨h1, h2⟩, h3, h4⟩ := h
  refine ⟨⟨h1, ?_⟩, fun j hj => (h3 j hj).since s, h4⟩
  rcases h2 with h2 | ⟨g, cap, cur, e1, h3, h4, r⟩
  · exact .inl h2
  · exact .inr ⟨g, cap, cur, e1, h3, (s.block g (Array.getElem?_eq_some_iff.1 h4).1).trans h4, r⟩
theorem RwF.own_lt {lo : Nat} {w : World} {v : Value} {k : Nat} {e : Nat → FlsR} (h : RwF lo w v k e) {b : Nat} (hb : v.ownBlock = some b) : b < w.heap.size := by
  rcases h.1.2 with ⟨rfl, _⟩ | ⟨g, cap, cur, rfl, _, h4, _⟩
  · cases hb
  · have : g = b := by injection hb
    subst this
    exact (Array.getElem?_eq_some_iff.1 h4).1
theorem RwF.done {lo : Nat} {w : World} {v : Value} {k : Nat} {e : Nat → FlsR} (h : RwF lo w v k e) : ∃ (A : Option Addr) (c : Nat), v = .slice A k c ∧ Ge lo w (FlsR.ent A k e) := by
  obtain ⟨⟨h1, h2⟩, h3, h4, h5⟩ := h
  rcases h2 with ⟨rfl, rfl⟩ | ⟨g, cap, cur, rfl, hlo, hb, hc, hm, hz, ht⟩
  · exact ⟨none, 0, rfl, ne_ge (ce_ge trivial fun h => by omega) (fun k hk => by omega) ⟨fun k hk => by omega, fun j k hj => by omega⟩⟩
  · refine ⟨some ⟨g, 0, none⟩, cap, rfl, ne_ge (FlsR.entry ⟨cur, hb, fun j hj => ?_⟩ hlo) h3 ⟨fun j hj b ha hb2 => ?_, h4⟩⟩
    · rw [Nat.mul_one] at ht hz
      have h6 : cur.toList[j]? = (cur.toList.take k)[j]? := by rw [List.getElem?_take, if_pos hj]
      rw [← Array.getElem?_toList, h6, ht]
      simp [hj]
    · obtain ⟨_, o2, e2⟩ := ha
      injection e2 with e2; injection e2 with e2 _ _
      subst e2
      exact h5 _ rfl j hj hb2
theorem wpList_app1F {ops : Array Oper} {rest : List Oper} {o : Oper} {a : Act} {Q : Exit → Act → World → Prop} {w : World} (hgd : o.guard = none) (s x : Operand)
    (ho : o.op = .call { callee := .builtin .append, args := #[s, x], argTypes := #[38, 38] }) (lo : Nat) (v : Value) (k : Nat) (e : Nat → FlsR) (hs : a.eval s = v) (b : Nat) (z : FlsR)
    (hx : a.eval x = .slice (some ⟨b, 0, none⟩) 1 1) (hc : w.cell? ⟨b, 0, none⟩ = some z.val) (hk : k < 1048576) (hlo : lo ≤ w.heap.size) (hR : RwF lo w v k e) (hz : Ge lo w z.inn) (hza : ∀ j, j < k → De z.inn (e j).inn) (hzo : ∀ b, v.ownBlock = some b → ¬ z.inn.S b)
    (h : ∀ v' w', Hid (RwF lo w' v' (k + 1) fun i => if i = k then z else e i) → Hid (w.Since lo w') → wpList Try.prog ops Q rest (a.put o.dst v') w') : wpList Try.prog ops Q (o :: rest) a w := by
  have HR := hR
  obtain ⟨h1, h3, h4, h5⟩ := hR
  obtain ⟨i0, hi, hz0, hz1, hz2⟩ := info_parts Try.infoFls
  refine wpList_append_own_at (P := Try.prog) (w := w) hgd s x 38 ho lo 22 i0 (.slice none 0 0) 1 24 Try.underlying38 hi hz0 hz1 hz2 rfl (by omega) v k _ hs h1 ⟨b, 0, none⟩ 1 1 [z.val] hx rfl ?_ ?_ ?_ ?_ hlo ?_
  · intro j u hj
    rcases j with _ | j
    · simp at hj; subst hj; simpa [Addr.add] using hc
    · simp at hj
  · intro u hu; simp at hu; subst hu; rfl
  · unfold maxLen; omega
  · omega
  · intro v' w' hown hg _ hob
    have hkeep : ∀ g, g < w.heap.size → v.ownBlock ≠ some g → w'.heap[g]? = w.heap[g]? := fun g hg1 hg2 => hg.block g hg1 fun e => hg2 e.symm
    have hset : ∀ i, (fun i => if i = k then z else e i) i = if i = k then z else e i := fun _ => rfl
    refine h v' w' (Lib.hid ⟨?_, fun j hj => ?_, fun i j hi hj hij => ?_, fun g hgo j hj => ?_⟩) (Lib.hid ⟨hg.os, hg.tape, hg.output, hg.size, fun i hi => ?_⟩)
    · rw [List.range_succ, List.map_append]
      have e1 : (List.range k).map (fun j => (if j = k then z else e j).val) = (List.range k).map fun j => (e j).val := List.map_congr_left fun j hj => by rw [if_neg (by have := List.mem_range.1 hj; omega)]
      rw [e1]
      simpa using hown
    · show Ge lo w' (if j = k then z else e j).inn
      by_cases e1 : j = k
      · rw [if_pos e1]
        exact hz.keep (fun g hg1 => hkeep g (hz.2.2 g hg1).2 fun e2 => hzo g e2 hg1) hg.size
      · rw [if_neg e1]
        exact (h3 j (by omega)).keep (fun g hg1 => hkeep g ((h3 j (by omega)).2.2 g hg1).2 fun e2 => h5 g e2 j (by omega) hg1) hg.size
    · show De (if i = k then z else e i).inn (if j = k then z else e j).inn
      by_cases e1 : i = k
      · rw [if_pos e1, if_neg (fun h => hij (e1.trans h.symm))]; exact hza j (by omega)
      · rw [if_neg e1]
        by_cases e2 : j = k
        · rw [if_pos e2]; exact (hza i (by omega)).symm
        · rw [if_neg e2]; exact h4 i j (by omega) (by omega) hij
    · show ¬ (if j = k then z else e j).inn.S g
      rcases hob with hob | hob
      · rw [hob] at hgo
        by_cases e1 : j = k
        · rw [if_pos e1]; exact hzo g hgo
        · rw [if_neg e1]; exact h5 g hgo j (by omega)
      · rw [hob] at hgo
        injection hgo with hgo
        by_cases e1 : j = k
        · rw [if_pos e1]; intro h6; have := (hz.2.2 g h6).2; omega
        · rw [if_neg e1]; intro h6; have := ((h3 j (by omega)).2.2 g h6).2; omega
    · refine hg.block i (by omega) fun e => ?_
      have := own_lo h1 i e.symm
      omega
end Go.Proofs.Ytbgjmmncjmcjfaa

/- New states of chains, the model's. -/
set_option linter.unusedVariables false
set_option linter.unusedSimpArgs false
namespace Go.Proofs.Ytbgjmmncjmcjfaa
open Fl Go.RowKit
theorem RwF.apart {lo : Nat} {w W : World} {v : Value} {k : Nat} {e : Nat → FlsR} {z : FlsR} (h : RwF lo w v k e) (hge : Ge w.heap.size W z.inn) : (∀ j, j < k → De z.inn (e j).inn) ∧ ∀ b, v.ownBlock = some b → ¬ z.inn.S b :=
  ⟨fun j hj b h1 h2 => by
    have h3 := (hge.2.2 b h1).1
    have h4 := ((h.2.1 j hj).2.2 b h2).2
    omega, fun b hb h1 => by
    have h3 := h.own_lt hb
    have h4 := (hge.2.2 b h1).1
    omega⟩
set_option maxHeartbeats 2000000 in
set_option maxRecDepth 100000 in
theorem specNew_any (A : Option Addr) (n c : Nat) (x : Nat → EffectR) (w : World) (h : EffectR.Ts w w.heap.size A n x) (hx : effsIn x n) (hn : n ≤ 1048576) :
    Calls Try.prog 72 #[.slice A n c] w fun r w' => ∃ (C : Option Addr) (d : Nat) (e : Nat → FlsR), r = .returned (.slice C n d) ∧ FlsR.ares n e (fun k => keepN (x k)) (fun k => newO (x k)) ∧ Ge w.heap.size w' (FlsR.ent C n e) ∧ w.Since w.heap.size w' := by
  have HA := Lib.hid h
  have HX := Lib.hid hx
  clear h hx
  go_enter Try.func72, Try.ntmps72
  go_wp2
  go_loopw [3, 4] (fun v i wr => ∃ (k : Nat) (e : Nat → FlsR), k ≤ n ∧ i = .int .i64 (k : Nat) ∧ RwF w.heap.size wr v k e ∧ FlsR.ares k e (fun k => keepN (x k)) (fun k => newO (x k)) ∧ w.Since w.heap.size wr) (fun _ i _ => n - (intOf i).toNat)
  case atStart => exact ⟨0, fun _ => FlsR.zero, Nat.zero_le _, rfl, RwF.start w _ (Nat.le_refl _) _, (fun j hj => by omega), (World.Since.refl _ _).alloc (Nat.le_refl _) _⟩
  case round =>
    obtain ⟨k, e, hk, rfl, hr, ha, hs⟩ := hrel
    have HR := Lib.hid hr; have HS := Lib.hid hs; have HAR := Lib.hid ha
    clear hr hs ha
    by_cases hlt : k < n
    · obtain ⟨g, off, rfl, hgl, hc⟩ := HA.out.1.at_ hlt
      have hgw : g < wr.heap.size := Nat.lt_of_lt_of_le hgl HS.out.size
      have hc0 := (HS.out.cell (a := ⟨g, off + k * 3 + 0, none⟩) hgl).trans (hc 0 (by decide))
      have hc1 := (HS.out.cell (a := ⟨g, off + k * 3 + 1, none⟩) hgl).trans (hc 1 (by decide))
      simp only [EffectR.cells, List.getD_cons_zero, List.getD_cons_succ, Nat.add_zero] at hc0 hc1
      have hE := effB_facts (HX.out k hlt)
      have hK := keepN_eq (HX.out k hlt)
      have HCO := Lib.hid (fun W => specCounts_any (x k).k (x k).l W hE.1 hE.2.1)
      have hKE := hK.1
      simp only [← hKE] at HCO
      have HW : Hid (∀ i, newW (x k) i = if (x k).k = 6 ∧ i = 0 then 1065353216 else 0) := Lib.hid (fun i => rfl)
      have H6 : Hid ((x k).k = 6 → 0 < keepN (x k)) := Lib.hid (fun h6 => by
        have : keepE (x k).k (x k).l = 1 + (x k).l := by rw [h6]; rfl
        have := hE.1
        omega)
      have HNR := Lib.hid (newR_are (x k) wr.heap.size)
      have HV : Hid ((newR (x k) wr.heap.size).val = .slice (some ⟨wr.heap.size, 0, none⟩) (keepN (x k)) (keepN (x k))) := Lib.hid rfl
      have HI : Hid ((newR (x k) wr.heap.size).inn = fe (some ⟨wr.heap.size, 0, none⟩) (keepN (x k)) ((List.range (keepN (x k))).map (newW (x k)))) := Lib.hid rfl
      have h33 := hK.2.2
      obtain ⟨z, hz⟩ : ∃ z, z = newR (x k) wr.heap.size := ⟨_, rfl⟩
      rw [← hz] at HNR HV HI
      obtain ⟨nw, hnw⟩ : ∃ nw, nw = newW (x k) := ⟨_, rfl⟩
      rw [← hnw] at HW HI
      clear hc hE hK hKE hz hnw
      have HKE : Hid (∀ i, newO (x k) i = newO (x k) i) := Lib.hid (fun _ => rfl)
      obtain ⟨m, hm⟩ : ∃ m, m = keepN (x k) := ⟨_, rfl⟩
      have HM := Lib.hid hm
      rw [← hm] at HCO HNR HV HI H6 h33
      clear hm
      have hmk := fun W => run_make_row' (P := Try.prog) 22 55 (.float .f32 0) 4 Try.underlying22 Try.infoF rfl .i64 .i64 m (by omega) (by omega) W
      have HGE : Hid (∀ (cs : Array Value) (o : Obj) (q : Nat), (∀ j, j < m → cs[j]? = some (wfl nw j)) → Ge wr.heap.size (((wr.alloc (.cells cs 55)).alloc o).drewN q) z.inn) := Lib.hid (fun cs o q hcs => by
        rw [HI.out]
        refine gs_wfl (f := nw) ((gf_alloc wr _ cs m _ _ rfl hcs).of ?_) (fun j hj => ?_) (Nat.le_refl _)
        · exact blk_keep _ (by simp)
        · rw [HW.out j]; split <;> decide)
      have HS2 : Hid (∀ (o o' : Obj) (q : Nat), wr.Since wr.heap.size (((wr.alloc o).alloc o').drewN q)) := Lib.hid (fun o o' q => since_drewN (((World.Since.refl _ _).alloc (Nat.le_refl _) _).alloc (by simp) _) _)
      have HAR2 : Hid (FlsR.ares (k + 1) (fun i => if i = k then z else e i) (fun k => keepN (x k)) (fun k => newO (x k))) := Lib.hid (fun j hj => by
        dsimp only
        by_cases e1 : j = k
        · subst e1; rw [if_pos rfl, ← HM.out]; exact HNR.out
        · rw [if_neg e1]; exact HAR.out j (by omega))
      have hsz := HS.out.size
      have hc2 := fun o => (((World.Since.refl wr.heap.size wr).alloc (Nat.le_refl _) o).cell (a := ⟨g, off + k * 3, none⟩) hgw).trans hc0
      by_cases h6 : (x k).k = 6
      · have h0 : 0 < m := H6.out h6
        have hm0 : (madeCells #[Value.float FloatKind.f32 0] m)[0]? = some (Value.float FloatKind.f32 0) := madeAt _ h0
        have hm1 : (madeCells #[Value.float FloatKind.f32 0] m).size = m := madeCells_size1 _ _
        have HCS : Hid (∀ j, j < m → ((madeCells #[Value.float FloatKind.f32 0] m).setIfInBounds 0 (Value.float FloatKind.f32 1065353216))[j]? = some (wfl nw j)) := Lib.hid (fun j hj => by
          unfold wfl
          rw [HW.out j, Array.getElem?_setIfInBounds]
          by_cases e : 0 = j
          · subst e; rw [if_pos rfl, if_pos (by rw [madeCells_size1]; exact h0)]; simp [h6]
          · rw [if_neg e, madeAt _ hj, if_neg (fun h => e h.2.symm)])
        simp only [h6] at HCO hc0 hc2
        clear h6
        go_wp2_with fail
        go_quiet (first | (go_at_call 111; refine Calls.quiet_of_same (HCO.out _)))
        go_wp2_with (at_builtin; refine wpList_app1F rfl (.tmp 39) (.tmp 41) rfl w.heap.size _ k e rfl (wr.heap.size + 1) z rfl (by rw [HV.out]; simp [go_sem]) (by omega) (by simp; omega) (HR.out.since (HS2.out (.cells ((madeCells #[Value.float FloatKind.f32 0] m).setIfInBounds 0 (Value.float FloatKind.f32 1065353216)) 55) (.cells #[.slice (some ⟨wr.heap.size, 0, none⟩) m m] 22) nq)) ((HGE.out ((madeCells #[Value.float FloatKind.f32 0] m).setIfInBounds 0 (Value.float FloatKind.f32 1065353216)) (.cells #[.slice (some ⟨wr.heap.size, 0, none⟩) m m] 22) nq HCS.out).less hsz) (HR.out.apart (HGE.out ((madeCells #[Value.float FloatKind.f32 0] m).setIfInBounds 0 (Value.float FloatKind.f32 1065353216)) (.cells #[.slice (some ⟨wr.heap.size, 0, none⟩) m m] 22) nq HCS.out)).1 (HR.out.apart (HGE.out ((madeCells #[Value.float FloatKind.f32 0] m).setIfInBounds 0 (Value.float FloatKind.f32 1065353216)) (.cells #[.slice (some ⟨wr.heap.size, 0, none⟩) m m] 22) nq HCS.out)).2 ?_; intro v' w3 hR3 hS3)
        go_roundw
        case rel => exact ⟨k + 1, _, by omega, by go_num, hR3.out, HAR2.out, (since_step HS.out (HS2.out (.cells ((madeCells #[Value.float FloatKind.f32 0] m).setIfInBounds 0 (Value.float FloatKind.f32 1065353216)) 55) (.cells #[.slice (some ⟨wr.heap.size, 0, none⟩) m m] 22) nq)).trans hS3.out⟩
        case measure => simp [intOf]; omega
      · have HCS : Hid (∀ j, j < m → (madeCells #[Value.float FloatKind.f32 0] m)[j]? = some (wfl nw j)) := Lib.hid (fun j hj => by
          unfold wfl
          rw [HW.out j, madeAt _ hj, if_neg (fun h => h6 h.1)])
        go_wp2_with fail
        go_quiet (first | (go_at_call 111; refine Calls.quiet_of_same (HCO.out _)))
        go_wp2_with (at_builtin; refine wpList_app1F rfl (.tmp 39) (.tmp 41) rfl w.heap.size _ k e rfl (wr.heap.size + 1) z rfl (by rw [HV.out]; simp [go_sem]) (by omega) (by simp; omega) (HR.out.since (HS2.out (.cells (madeCells #[Value.float FloatKind.f32 0] m) 55) (.cells #[.slice (some ⟨wr.heap.size, 0, none⟩) m m] 22) nq)) ((HGE.out (madeCells #[Value.float FloatKind.f32 0] m) (.cells #[.slice (some ⟨wr.heap.size, 0, none⟩) m m] 22) nq HCS.out).less hsz) (HR.out.apart (HGE.out (madeCells #[Value.float FloatKind.f32 0] m) (.cells #[.slice (some ⟨wr.heap.size, 0, none⟩) m m] 22) nq HCS.out)).1 (HR.out.apart (HGE.out (madeCells #[Value.float FloatKind.f32 0] m) (.cells #[.slice (some ⟨wr.heap.size, 0, none⟩) m m] 22) nq HCS.out)).2 ?_; intro v' w3 hR3 hS3)
        go_roundw
        case rel => exact ⟨k + 1, _, by omega, by go_num, hR3.out, HAR2.out, (since_step HS.out (HS2.out (.cells (madeCells #[Value.float FloatKind.f32 0] m) 55) (.cells #[.slice (some ⟨wr.heap.size, 0, none⟩) m m] 22) nq)).trans hS3.out⟩
        case measure => simp [intOf]; omega
    · obtain rfl : k = n := by omega
      obtain ⟨C, d, rfl, hg⟩ := HR.out.done
      have HG := Lib.hid hg; clear hg
      go_wp2
      go_ret
      exact ⟨C, d, e, rfl, HAR.out, HG.out, HS.out⟩
theorem specNewState_b (A : Option Addr) (n c : Nat) (x : Nat → EffectR) (r : Bool) (w : World) (h : EffectR.Ts w w.heap.size A n x) (hn : n ≤ 1048576) (hr : r = true ↔ chainOk x n) :
    Calls Try.prog 25 #[.slice A n c] w (PNB (if r then n else 0) (fun k => keepN (x k)) (fun k => newO (x k)) r w) := by
  have HV := Lib.hid (specIs_b A n c x r w _ h (Nat.le_refl _) hn hr)
  cases hrr : r
  · rw [hrr] at HV
    rw [if_neg (by decide)]
    clear h hr hrr
    go_enter Try.func25, Try.ntmps25
    go_wp2_with (first | (go_at_call 70; refine HV.out.mono ?_; rintro e w2 ⟨rfl, hs⟩))
    go_ret2
    exact PNB.none_ hs _ _
  · rw [hrr] at HV
    rw [if_pos rfl]
    have HX := Lib.hid (hr.1 hrr).1
    have HA := Lib.hid h
    clear h hr hrr
    unfold PNB
    go_enter Try.func25, Try.ntmps25
    go_wp2_with (first | (go_at_call 70; refine HV.out.mono ?_; rintro e w2 ⟨rfl, hs⟩; have HS := Lib.hid hs; clear hs) | (go_at_call 72; refine (specNew_any A n c x _ (HA.out.now HS.out) HX.out hn).mono ?_; rintro e w3 ⟨C, d, f, rfl, hf, hg, hs3⟩))
    go_ret2
    exact ⟨_, _, f, rfl, hg.less HS.out.size, hf, since_step HS.out hs3⟩
theorem PNB.congr {n : Nat} {ln ln' : Nat → Nat} {f f' : Nat → Nat → O} {b : Bool} {w : World} {F : FuncId} {args : Array Value} (h : Calls Try.prog F args w (PNB n ln f b w)) (hh : ∀ k, k < n → ln k = ln' k ∧ f k = f' k) : Calls Try.prog F args w (PNB n ln' f' b w) :=
  h.mono fun e w' ⟨A, c, x, h1, h2, h3, h4⟩ => ⟨A, c, x, h1, h2, fun k hk => by rw [← (hh k hk).1, ← (hh k hk).2]; exact h3 k hk, h4⟩
end Go.Proofs.Ytbgjmmncjmcjfaa

/- The laws of IsState and NewState. -/
set_option linter.unusedVariables false
set_option linter.unusedSimpArgs false
namespace Go.Proofs.Ytbgjmmncjmcjfaa
open Fl Go.RowKit
def FlsR.wf (W : World) (x : FlsR) : Prop := x.ok ∧ Fs W W.heap.size x.sA x.sn x.sx ∧ x.sn ≤ 9223372036854775807
section
open Go.ChangeShapes Go.WideShapes Go.Deep
variable {H : Type} {enc : TypeId × Value → H} {P : Program} {w : World} {base : Nat}
theorem openFls_row {t te : TypeId} (ht : P.underlying t = some (.slice te)) (hte : P.underlying te = some (.float .f32)) (hce : P.cellsOf te = 1) (hct : P.cellsOf t = 1)
    (fuel : Nat) (cs : List Value) (x : DataW H × List MemPlace) (h : DataW.trod enc P w base (fun _ => true) true fuel t cs = some x) : ∃ y : FlsR, y.wf w ∧ y.cells = cs := by
  have hl : ∃ v, cs = [v] := by
    rcases Go.Deep.open_slice ht h with ⟨hcs, _⟩ | ⟨a, len, cap, m, k, D, Pl, hcs, _⟩
    · exact ⟨_, hcs⟩
    · exact ⟨_, hcs⟩
  obtain ⟨v, rfl⟩ := hl
  obtain ⟨A, n, c, xs, rfl, hF, hn⟩ := trod_fs ht hte hce h
  exact ⟨⟨A, n, c, xs⟩, ⟨trivial, hF, hn⟩, rfl⟩
end
theorem keepN_like {x y : EffectR} (h : x.like y) : keepN x = keepN y := by
  obtain ⟨_, _, h3, h4⟩ := h
  unfold keepN
  rw [h3, h4]
theorem newO_like {x y : EffectR} (h : x.like y) : newO x = newO y := by
  obtain ⟨_, _, h3, h4⟩ := h
  funext i
  unfold newO
  rw [h3]
theorem fitOk_like {e x : Nat → EffectR} {f y : Nat → FlsR} {n m : Nat} (h : ∀ k, k < n → (e k).like (x k)) (g : ∀ k, k < m → (f k).like (y k)) : fitOk e n f m ↔ fitOk x n y m := by
  unfold fitOk
  rw [chainOk_like h]
  constructor
  · rintro ⟨h1, rfl, h2⟩
    exact ⟨h1, rfl, fun j hj => by rw [← keepN_like (h j hj), ← (g j hj).1]; exact h2 j hj⟩
  · rintro ⟨h1, rfl, h2⟩
    exact ⟨h1, rfl, fun j hj => by rw [keepN_like (h j hj), (g j hj).1]; exact h2 j hj⟩
theorem fls_fit (x : Nat → FlsR) (n : Nat) (L : Int) (hL : L ≤ 1048576) (h : (n : Int) + FlsR.tot x n ≤ L) : (∀ k, k < n → (x k).sn ≤ 1048576) ∧ FlsR.tot x n ≤ 1048576 ∧ n ≤ 1048576 :=
  ⟨fun k hk => by
    have h1 : FlsR.tot x k + (x k).sn ≤ FlsR.tot x n := FlsR.tot_le x (k := k + 1) hk
    omega, by omega, by omega⟩
open Classical in
theorem lawIsState_any (A0 : Option Addr) (n0 c0 : Nat) (x0 : Nat → EffectR) (A1 : Option Addr) (n1 c1 : Nat) (x1 : Nat → FlsR) (w : World)
    (h0 : Rs EffectR.cells 3 w w.heap.size A0 n0 x0) (hk0 : ∀ k, k < n0 → (x0 k).wf w) (hb0 : n0 ≤ 9223372036854775807)
    (h1 : Rs FlsR.cells 1 w w.heap.size A1 n1 x1) (hk1 : ∀ k, k < n1 → (x1 k).wf w) (hb1 : n1 ≤ 9223372036854775807) :
    Calls Try.prog 6 #[.slice A0 n0 c0, .slice A1 n1 c1] w fun e w' => e = .returned (.bool true) ∧ w.Since w.heap.size w' := by
  by_cases h : (n0 : Int) + EffectR.tot x0 n0 ≤ 1048576
  · obtain ⟨p1, p2, p3⟩ := effects_fit x0 n0 h
    by_cases g : (n1 : Int) + FlsR.tot x1 n1 ≤ 1048576 - n0 - (EffectR.tot x0 n0 : Nat)
    · obtain ⟨q1, q2, q3⟩ := fls_fit x1 n1 _ (by omega) g
      have hr : (decide (fitOk x0 n0 x1 n1)) = true ↔ fitOk x0 n0 x1 n1 := decide_eq_true_iff
      exact lawIsState_gen A0 n0 c0 x0 A1 n1 c1 x1 _ w ⟨h0, fun k hk => (hk0 k hk).2.1⟩ p3 ⟨h1, fun k hk => (hk1 k hk).2.1⟩ q3 (fun k hk => (hk0 k hk).1) p1 p2 h (fun k hk => (hk1 k hk).1) q1 q2 g
        (fun v b e b1 e1 ht hl ht1 hl1 => specIsState_b _ _ _ _ _ _ e e1 _ _ ht ht1.1 p3 (hr.trans (fitOk_like hl hl1).symm))
        (fun v b e b1 e1 ht hl ht1 hl1 => implIsState_b _ _ _ _ _ _ e e1 _ _ ht ht1.1 p3 (hr.trans (fitOk_like hl hl1).symm))
    · exact lawIsState_big1 A0 n0 c0 x0 A1 n1 c1 x1 w h0 (fun k hk => (hk0 k hk).2.2.1) hb0 h1 (fun k hk => (hk1 k hk).2.2) hb1 g h
  · exact lawIsState_big A0 n0 c0 x0 A1 n1 c1 x1 w h0 (fun k hk => (hk0 k hk).2.2.1) hb0 h
open Classical in
theorem lawNewState_any (A0 : Option Addr) (n0 c0 : Nat) (x0 : Nat → EffectR) (w : World)
    (h0 : Rs EffectR.cells 3 w w.heap.size A0 n0 x0) (hk0 : ∀ k, k < n0 → (x0 k).wf w) (hb0 : n0 ≤ 9223372036854775807) :
    Calls Try.prog 5 #[.slice A0 n0 c0] w fun e w' => e = .returned (.bool true) ∧ w.Since w.heap.size w' := by
  by_cases h : (n0 : Int) + EffectR.tot x0 n0 ≤ 1048576
  · obtain ⟨h1, h2, h3⟩ := effects_fit x0 n0 h
    have hr : (decide (chainOk x0 n0)) = true ↔ chainOk x0 n0 := decide_eq_true_iff
    have hkk : ∀ k, k < (if decide (chainOk x0 n0) then n0 else 0) → keepN (x0 k) ≤ 33 := fun k hk => by
      cases hd : decide (chainOk x0 n0)
      · rw [hd] at hk; simp at hk
      · rw [hd, if_pos rfl] at hk
        exact (keepN_eq ((hr.1 hd).1 k hk)).2.2
    have hn8 : (if decide (chainOk x0 n0) then n0 else 0) ≤ 8 := by
      cases hd : decide (chainOk x0 n0)
      · simp
      · rw [if_pos rfl]; exact (hr.1 hd).2
    have hsum : ∀ m, (∀ k, k < m → keepN (x0 k) ≤ 33) → sumL (fun k => keepN (x0 k)) m ≤ 33 * m := fun m => by
      induction m with
      | zero => intro _; simp [sumL]
      | succ m ih =>
        intro h
        have := ih fun k hk => h k (by omega)
        have := h m (by omega)
        show sumL _ m + keepN (x0 m) ≤ _
        omega
    have hs2 := hsum _ hkk
    exact lawNewState_gen A0 n0 c0 x0 (if decide (chainOk x0 n0) then n0 else 0) (fun k => keepN (x0 k)) (fun k => newO (x0 k)) _ w ⟨h0, fun k hk => (hk0 k hk).2.1⟩ h3 (by omega) (fun k hk => Nat.le_trans (hkk k hk) (by omega)) (by omega) (fun k hk => (hk0 k hk).1) h1 h2 h
      (fun v b e ht hl => by
        have h5 := specNewState_b (some ⟨b, 0, none⟩) n0 n0 e _ v ht h3 (hr.trans (chainOk_like hl).symm)
        exact PNB.congr h5 fun k hk => by
          have hkn : k < n0 := by
            cases hd : decide (chainOk x0 n0)
            · rw [hd] at hk; simp at hk
            · rw [hd, if_pos rfl] at hk; exact hk
          exact ⟨keepN_like (hl k hkn), newO_like (hl k hkn)⟩)
      (fun v b e ht hl => by
        have h5 := implNewState_b (some ⟨b, 0, none⟩) n0 n0 e _ v ht h3 (hr.trans (chainOk_like hl).symm)
        exact PNB.congr h5 fun k hk => by
          have hkn : k < n0 := by
            cases hd : decide (chainOk x0 n0)
            · rw [hd] at hk; simp at hk
            · rw [hd, if_pos rfl] at hk; exact hk
          exact ⟨keepN_like (hl k hkn), newO_like (hl k hkn)⟩)
  · exact lawNewState_big A0 n0 c0 x0 w h0 (fun k hk => (hk0 k hk).2.2.1) hb0 h
end Go.Proofs.Ytbgjmmncjmcjfaa

