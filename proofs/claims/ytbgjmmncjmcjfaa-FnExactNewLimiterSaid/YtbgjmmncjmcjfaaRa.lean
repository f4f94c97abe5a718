/- Lists of Effect as a law holds them. -/
import Derived.Test.YtbgjmmncjmcjfaaOa
import Derived.Test.YtbgjmmncjmcjfaaSf
import Derived.Test.YtbgjmmncjmcjfaaEa
import Derived.StillTailTactics
set_option linter.unusedVariables false
set_option linter.unusedSimpArgs false
namespace Go.Proofs.Ytbgjmmncjmcjfaa
open Fl Go.RowKit
structure EffectR where
  k : Int
  l : Int
  sA : Option Addr
  sn : Nat
  sc : Nat
  sx : List Nat
def EffectR.cells (x : EffectR) : List Value := [.int .i64 x.k, .int .i64 x.l, .slice x.sA x.sn x.sc]
def EffectR.val (x : EffectR) : Value := .agg #[.int .i64 x.k, .int .i64 x.l, .slice x.sA x.sn x.sc]
def EffectR.zero : EffectR := ⟨0, 0, none, 0, 0, []⟩
def EffectR.ok (x : EffectR) : Prop := True
/-- the same but for where its list lies -/
def EffectR.like (x y : EffectR) : Prop := x.sn = y.sn ∧ x.sx = y.sx ∧ x.k = y.k ∧ x.l = y.l
theorem EffectR.like_refl (x : EffectR) : x.like x := ⟨rfl, rfl, rfl, rfl⟩
/-- its list, as an entry -/
def EffectR.inn (x : EffectR) : En := fe x.sA x.sn x.sx
theorem EffectR.inn_fr (x : EffectR) : Fr_ x.inn := ce_frame
/-- such a list that can be read -/
def EffectR.Ts (w : World) (B : Nat) (A : Option Addr) (n : Nat) (e : Nat → EffectR) : Prop := Rs EffectR.cells 3 w B A n e ∧ ∀ k, k < n → Fs w B (e k).sA (e k).sn (e k).sx
theorem EffectR.Ts.now {w w1 : World} {A : Option Addr} {n : Nat} {e : Nat → EffectR} (h : EffectR.Ts w w.heap.size A n e) (k : w.Since w.heap.size w1) : EffectR.Ts w1 w1.heap.size A n e := ⟨h.1.now k, fun i hi => (h.2 i hi).now k⟩
theorem EffectR.Ts.since {w w1 : World} {B : Nat} {A : Option Addr} {n : Nat} {e : Nat → EffectR} (h : EffectR.Ts w B A n e) (k : w.Since B w1) : EffectR.Ts w1 B A n e := ⟨h.1.since k, fun i hi => (h.2 i hi).since k⟩
theorem EffectR.Ts.more {w : World} {B B' : Nat} {A : Option Addr} {n : Nat} {e : Nat → EffectR} (h : EffectR.Ts w B A n e) (k : B ≤ B') : EffectR.Ts w B' A n e := ⟨h.1.more k, fun i hi => (h.2 i hi).more k⟩
abbrev EffectR.ent (A : Option Addr) (n : Nat) (e : Nat → EffectR) : En := ne EffectR.cells 3 27 EffectR.inn A n e
theorem EffectR.read {w : World} {lo n : Nat} {A : Option Addr} {e : Nat → EffectR} (h : Ge lo w (EffectR.ent A n e)) : EffectR.Ts w w.heap.size A n e := ⟨h.outer.readS (by decide), fun k hk => (h.each EffectR.inn_fr k hk).readF⟩
theorem gflEffect {w : World} {T : TypeId} {l : List Value} {g : Nat} (h : w.heap[g]? = some (.cells l.toArray T (0, 0))) : GF w g T l.length (fun j => l.getD j undef) := ⟨_, h, fun j hj => by rw [List.getElem?_toArray]; simp [List.getD_eq_getElem?_getD, List.getElem?_eq_getElem hj]⟩
set_option maxRecDepth 100000 in
set_option maxHeartbeats 2000000 in
theorem toEffect_row (x : EffectR) (W w : World) (hF : Fs W W.heap.size x.sA x.sn x.sx) (s : W.Since W.heap.size w) (hn : x.sn ≤ 1048576) : Calls Try.prog 17 #[x.val] w fun e w' => ∃ y : EffectR, e = .returned y.val ∧ y.like x ∧ (∃ b, y.sA = some ⟨b, 0, none⟩) ∧ Ge w.heap.size w' y.inn ∧ w.Since w.heap.size w' := by
  obtain ⟨x_k, x_l, x_sA, x_sn, x_sc, x_sx⟩ := x
  simp only at hF hn
  have HF := Lib.hid hF; have HW := Lib.hid s
  clear hF s
  unfold EffectR.val
  go_enter Try.func17, Try.ntmps17
  go_wp2_with fail
  generalize hW : World.alloc _ _ = V
  have hz : V.heap.size = w.heap.size + 3 := by rw [← hW]; simp
  have HS : Hid (w.Since w.heap.size V) := Lib.hid (by rw [← hW]; exact (((World.Since.refl _ _).alloc (Nat.le_refl _) _).alloc (by simp) _).alloc (by simp; omega) _)
  have G1 := Lib.hid (gflEffect (w := V) (T := 24) (l := [.int .i64 x_k, .int .i64 x_l, .slice x_sA x_sn x_sc]) (g := w.heap.size) (by rw [← hW]; exact ((((World.Since.refl (w.heap.size + 1) _).alloc (by simp) _).alloc (by simp) _).block w.heap.size (by omega)).trans (Go.Deep.blk_alloc_new w _)))
  have G2 := Lib.hid (gflEffect (w := V) (T := 27) (l := [.int .i64 0, .int .i64 0, .slice none 0 0]) (g := w.heap.size + 1) (by rw [← hW]; have := Go.Deep.blk_alloc_new (w.alloc (.cells #[.int .i64 x_k, .int .i64 x_l, .slice x_sA x_sn x_sc] 24)) (.cells #[.int .i64 0, .int .i64 0, .slice none 0 0] 27); exact (((World.Since.refl (w.heap.size + 2) _).alloc (by simp) _).block (w.heap.size + 1) (by omega)).trans (by simpa using this)))
  have G3 := Lib.hid (gflEffect (w := V) (T := 27) (l := [.int .i64 x_k, .int .i64 x_l, .slice none 0 0]) (g := w.heap.size + 1 + 1) (by rw [← hW]; have := Go.Deep.blk_alloc_new ((w.alloc (.cells #[.int .i64 x_k, .int .i64 x_l, .slice x_sA x_sn x_sc] 24)).alloc (.cells #[.int .i64 0, .int .i64 0, .slice none 0 0] 27)) (.cells #[.int .i64 x_k, .int .i64 x_l, .slice none 0 0] 27); simpa using this))
  clear hW
  have a0 := G1.out.cell (j := 0) (by simp)
  have a1 := G1.out.cell (j := 1) (by simp)
  have a2 := G1.out.cell (j := 2) (by simp)
  simp only [List.getD_cons_zero, List.getD_cons_succ] at a0 a1 a2
  go_wp2_with fail
  go_at_call 49
  refine (toFE_any x_sA x_sn x_sc x_sx W V HF.out (HW.out.trans (since_mono HS.out HW.out.size)) hn).mono ?_
  rw [hz]
  rintro e w2 ⟨rfl, hg, hs⟩
  clear a0 a1 a2
  have HG := Lib.hid hg
  have HS2 : Hid (w.Since w.heap.size w2) := Lib.hid (HS.out.trans (since_mono hs (by omega)))
  have K1 := Lib.hid (G1.out.of (hs.block _ (by omega)))
  have K2 := Lib.hid (G2.out.of (hs.block _ (by omega)))
  have K3 := Lib.hid (G3.out.of (hs.block _ (by omega)))
  have hz2 : w.heap.size + 3 ≤ w2.heap.size := by have := hs.size; omega
  clear hg hs G1 G2 G3
  have a0 := K1.out.cell (j := 0) (by simp)
  have b0 := K2.out.cell (j := 0) (by simp)
  have c0 := K3.out.cell (j := 0) (by simp)
  have d0 := K2.out.free 0
  have e0 := K3.out.free 0
  have a1 := K1.out.cell (j := 1) (by simp)
  have b1 := K2.out.cell (j := 1) (by simp)
  have c1 := K3.out.cell (j := 1) (by simp)
  have d1 := K2.out.free 1
  have e1 := K3.out.free 1
  have a2 := K1.out.cell (j := 2) (by simp)
  have b2 := K2.out.cell (j := 2) (by simp)
  have c2 := K3.out.cell (j := 2) (by simp)
  have d2 := K2.out.free 2
  have e2 := K3.out.free 2
  simp only [List.getD_cons_zero, List.getD_cons_succ] at a0 b0 c0 a1 b1 c1 a2 b2 c2
  go_wp2
  refine bodyPost_ret (v := .agg #[.int .i64 x_k, .int .i64 x_l, .slice (some ⟨w.heap.size + 3, 0, none⟩) x_sn x_sn]) (by simp [results, Try.results17, go_sem, b0, d0, b1, d1, b2, d2]) rfl ⟨⟨x_k, x_l, some ⟨w.heap.size + 3, 0, none⟩, x_sn, x_sn, x_sx⟩, rfl, ⟨rfl, rfl, rfl, rfl⟩, ⟨_, rfl⟩, ?_, ?_⟩
  · refine (HG.out.less (by omega)).keep (fun g hg => ?_) (by simp only [Go.Deep.nblk_setCell]; exact Nat.le_refl _)
    have hg3 := (HG.out.2.2 g hg).1
    have hne1 : g ≠ w.heap.size + 1 := by omega
    have hne2 : g ≠ w.heap.size + 1 + 1 := by omega
    rw [Go.Deep.blk_setCell_other _ _ _ _ hne1]; rw [Go.Deep.blk_setCell_other _ _ _ _ hne1]; rw [Go.Deep.blk_setCell_other _ _ _ _ hne1]; rw [Go.Deep.blk_setCell_other _ _ _ _ hne2]
  · have hs0 := HS2.out
    (repeat (first | (with_reducible refine Fl.sinDrew ?_) | (with_reducible refine World.Since.drew ?_) | (with_reducible refine Fl.sinSet ?_ ?_; rotate_left) | (with_reducible refine Fl.sinAlloc ?_ ?_; rotate_left) | with_reducible exact World.Since.refl _ _ | with_reducible assumption | (with_reducible refine Fl.sinStep (by with_reducible assumption) ?_))); all_goals (first | omega | (simp; done) | (simp; omega) | (simp [go_sem]; done) | (simp [go_sem]; omega))
theorem Try.infoEffect : (Try.prog.info? 27).map (fun i => (i.zero, i.size, decide (i.bytes ≤ 1024))) = some (some (.agg #[.int .i64 0, .int .i64 0, .slice none 0 0]), 3, true) := by kernel_rfl
set_option maxHeartbeats 8000000 in
set_option maxRecDepth 100000 in
theorem toEffectS_any (A : Option Addr) (n c : Nat) (x : Nat → EffectR) (W v : World) (h : EffectR.Ts W W.heap.size A n x) (s : W.Since W.heap.size v) (hn : n ≤ 1048576) (hns : ∀ k, k < n → (x k).sn ≤ 1048576) :
    Calls Try.prog 22 #[.slice A n c] v fun r v' => r = .returned (.slice (some ⟨v.heap.size, 0, none⟩) n n) ∧ ∃ e : Nat → EffectR, (∀ k, k < n → (e k).like (x k)) ∧ Ge v.heap.size v' (EffectR.ent (some ⟨v.heap.size, 0, none⟩) n e) ∧ v.Since v.heap.size v' := by
  have H := Lib.hid (h.now s)
  have HNS := Lib.hid hns
  clear h s hns
  obtain ⟨i0, hi, hzz⟩ := Option.map_eq_some_iff.1 Try.infoEffect
  simp only [Prod.mk.injEq] at hzz
  obtain ⟨hz0, hz1, hz2⟩ := hzz
  have hby : i0.bytes ≤ 1024 := of_decide_eq_true hz2
  have hbn : (i0.bytes : Int) * (n : Int) ≤ 281474976710656 := by
    have : i0.bytes * n ≤ 1024 * 1048576 := Nat.mul_le_mul hby hn
    rw [← Int.natCast_mul]
    omega
  have hmk := fun (w : World) => run_make (P := Try.prog) w 34 27 i0 (.agg #[.int .i64 0, .int .i64 0, .slice none 0 0]) Try.underlying34 hi hz0 .i64 .i64 (n : Int) (n : Int) (by omega) (Int.le_refl _) hbn (by omega)
  simp only [Int.toNat_natCast, hz1] at hmk
  have hzc : (Value.agg #[.int .i64 0, .int .i64 0, .slice none 0 0]).cells = #[.int .i64 0, .int .i64 0, .slice none 0 0] := by rfl
  rw [hzc] at hmk
  have hzero : (EffectR.cells EffectR.zero).toArray = #[.int .i64 0, .int .i64 0, .slice none 0 0] := rfl
  have hmd := Lib.hid (GF.made (cells := EffectR.cells) (s := 3) v 27 #[.int .i64 0, .int .i64 0, .slice none 0 0] EffectR.zero n hzero rfl (by decide))
  clear hi hz0 hz1 hz2 hby hbn hzc hzero
  go_enter Try.func22, Try.ntmps22
  go_wp2
  go_loopw [4] (fun i wr => ∃ (k : Nat) (e : Nat → EffectR), k ≤ n ∧ i = .int .i64 (k : Nat) ∧ (∀ j, j < k → (e j).like (x j)) ∧ GF wr v.heap.size 27 (n * 3) (ceL EffectR.cells 3 fun i => if i < k then e i else EffectR.zero) ∧ (∀ j, j < k → Ge (v.heap.size + 1) wr (e j).inn) ∧ (∀ i j, i < k → j < k → i ≠ j → De (e i).inn (e j).inn) ∧ v.Since v.heap.size wr) (fun i _ => n - (intOf i).toNat)
  case atStart => exact ⟨0, fun _ => EffectR.zero, Nat.zero_le _, rfl, (fun j hj => by omega), hmd.out, (fun j hj => by omega), (fun i j hi => by omega), (World.Since.refl _ _).alloc (Nat.le_refl _) _⟩
  case round =>
    obtain ⟨k, e, hk, rfl, hlk, hg, hin, hde, hs⟩ := hrel
    have HL := Lib.hid hlk; have HG := Lib.hid hg; have HIN := Lib.hid hin; have HDE := Lib.hid hde; have HS := Lib.hid hs
    have hzw : v.heap.size + 1 ≤ wr.heap.size := hg.lt
    clear hlk hg hin hde hs hmd
    by_cases hlt : k < n
    · obtain ⟨g, off, rfl, hgl, hc⟩ := H.out.1.at_ hlt
      have HTO := Lib.hid (toEffect_row (x k) v wr (H.out.2 k hlt) HS.out (HNS.out k hlt))
      have hc0 := (HS.out.cell (a := ⟨g, off + k * 3 + 0, none⟩) hgl).trans (hc 0 (by decide))
      have hc1 := (HS.out.cell (a := ⟨g, off + k * 3 + 1, none⟩) hgl).trans (hc 1 (by decide))
      have hc2 := (HS.out.cell (a := ⟨g, off + k * 3 + 2, none⟩) hgl).trans (hc 2 (by decide))
      have hkk : k * 3 + 3 ≤ n * 3 := by omega
      obtain ⟨y, hy⟩ : ∃ y, y = x k := ⟨_, rfl⟩
      have HY := Lib.hid hy
      rw [← hy] at hc0 hc1 hc2 HTO
      clear hy hc
      obtain ⟨y_k, y_l, y_sA, y_sn, y_sc, y_sx⟩ := y
      simp only [EffectR.cells, EffectR.val, List.getD_cons_zero, List.getD_cons_succ, Nat.add_zero] at hc0 hc1 hc2 HTO
      go_wp2_with fail
      refine HTO.out.mono ?_
      rintro r w2 ⟨z, rfl, hlz, hbz, hgz, hs2⟩
      have HLZ : Hid (z.like (x k)) := Lib.hid (HY.out ▸ hlz)
      have HGZ := Lib.hid hgz
      have HG2 := Lib.hid (HG.out.of (hs2.block _ HG.out.lt))
      have HS2 := Lib.hid (since_step HS.out hs2)
      have HT2 := Lib.hid hs2
      have HE := Lib.hid (show ∀ j, j < n * 3 → ceL EffectR.cells 3 (fun i => if i < k + 1 then (if i = k then z else e i) else EffectR.zero) j = if k * 3 ≤ j ∧ j < k * 3 + 3 then (z.cells).getD (j - k * 3) undef else ceL EffectR.cells 3 (fun i => if i < k then e i else EffectR.zero) j from fun j hj => by
        rw [← ceL_upd _ k z (by decide) j]
        congr 1
        funext i
        unfold upd
        by_cases h1 : i = k
        · subst h1; rw [if_pos (by omega), if_pos rfl, if_pos rfl]
        · rw [if_neg h1, if_neg h1]
          by_cases h2 : i < k
          · rw [if_pos (by omega)]; simp only [if_pos h2]
          · rw [if_neg (by omega)]; simp only [if_neg h2])
      clear hs2 hlz hbz hgz hc0 hc1 hc2 HG
      obtain ⟨zz, hzz⟩ : ∃ zz, zz = z := ⟨_, rfl⟩
      have HZZ := Lib.hid hzz
      clear hzz
      have HEQ := HZZ.out
      obtain ⟨z_k, z_l, z_sA, z_sn, z_sc, z_sx⟩ := z
      have HZ3 := Lib.hid HEQ
      clear HEQ
      simp only [EffectR.cells, EffectR.val] at HE ⊢
      have hd0 := HG2.out.cell (j := k * 3 + 0) (by omega)
      have hf0 := HG2.out.free (k * 3 + 0)
      have hd1 := HG2.out.cell (j := k * 3 + 1) (by omega)
      have hf1 := HG2.out.free (k * 3 + 1)
      have hd2 := HG2.out.cell (j := k * 3 + 2) (by omega)
      have hf2 := HG2.out.free (k * 3 + 2)
      simp only [Nat.add_zero] at hd0 hf0 hd1 hf1 hd2 hf2
      generalize ceL EffectR.cells 3 (fun i => if i < k then e i else EffectR.zero) (k * 3) = u0q at hd0
      generalize ceL EffectR.cells 3 (fun i => if i < k then e i else EffectR.zero) (k * 3 + 1) = u1q at hd1
      generalize ceL EffectR.cells 3 (fun i => if i < k then e i else EffectR.zero) (k * 3 + 2) = u2q at hd2
      go_wp2
      go_roundw
      case rel =>
        refine ⟨k + 1, fun i => if i = k then zz else e i, by omega, by go_num, fun j hj => ?_, ?_, fun j hj => ?_, fun i j hi hj hij => ?_, ((HS2.out.setCell (Nat.le_refl _) _).setCell (Nat.le_refl _) _).setCell (Nat.le_refl _) _⟩
        · show (if j = k then zz else e j).like (x j)
          by_cases h : j = k
          · subst h; rw [if_pos rfl, HZ3.out]; exact HLZ.out
          · rw [if_neg h]; exact HL.out j (by omega)
        · rw [HZ3.out]
          refine (((HG2.out.set (k * 3) _).set (k * 3 + 1) _).set (k * 3 + 2) _).congr (fun j hj => ?_)
          rw [HE.out j hj]
          by_cases h : k * 3 ≤ j ∧ j < k * 3 + 3
          · rw [if_pos h]
            obtain rfl | rfl | rfl : j = k * 3 + 0 ∨ j = k * 3 + 1 ∨ j = k * 3 + 2 := by omega
            all_goals simp
          · rw [if_neg h, if_neg (by omega), if_neg (by omega), if_neg (by omega)]
        · show Ge (v.heap.size + 1) _ (if j = k then zz else e j).inn
          by_cases h : j = k
          · subst h; rw [if_pos rfl, HZ3.out]
            refine (HGZ.out.less hzw).keep (fun g hg => ?_) (by simp only [Go.Deep.nblk_setCell]; exact Nat.le_refl _)
            have hne : g ≠ v.heap.size := by have := (HGZ.out.2.2 g hg).1; omega
            rw [Go.Deep.blk_setCell_other _ _ _ _ hne]; rw [Go.Deep.blk_setCell_other _ _ _ _ hne]; rw [Go.Deep.blk_setCell_other _ _ _ _ hne]
          · rw [if_neg h]
            refine ((HIN.out j (by omega)).since HT2.out).keep (fun g hg => ?_) (by simp only [Go.Deep.nblk_setCell]; exact Nat.le_refl _)
            have hne : g ≠ v.heap.size := by have := ((HIN.out j (by omega)).2.2 g hg).1; omega
            rw [Go.Deep.blk_setCell_other _ _ _ _ hne]; rw [Go.Deep.blk_setCell_other _ _ _ _ hne]; rw [Go.Deep.blk_setCell_other _ _ _ _ hne]
        · show De (if i = k then zz else e i).inn (if j = k then zz else e j).inn
          by_cases h1 : i = k
          · rw [if_pos h1]
            have h2 : j ≠ k := fun h => hij (h1.trans h.symm)
            rw [if_neg h2, HZ3.out]
            intro g ha hb
            have h3 := (HGZ.out.2.2 g ha).1
            have h4 := ((HIN.out j (by omega)).2.2 g hb).2
            omega
          · rw [if_neg h1]
            by_cases h2 : j = k
            · rw [if_pos h2, HZ3.out]
              intro g ha hb
              have h3 := (HGZ.out.2.2 g hb).1
              have h4 := ((HIN.out i (by omega)).2.2 g ha).2
              omega
            · rw [if_neg h2]; exact HDE.out i j (by omega) (by omega) hij
      case measure => simp [intOf]; omega
    · obtain rfl : k = n := by omega
      go_wp2
      go_ret
      refine ⟨rfl, e, HL.out, ne_ge (GF.entry (HG.out.congr fun j hj => ?_) (Nat.le_refl _)) (fun j hj => (HIN.out j hj).less (by omega)) ⟨fun j hj g ha hb => ?_, HDE.out⟩, HS.out⟩
      · unfold ceL
        dsimp only
        rw [if_pos (Nat.div_lt_of_lt_mul (by rw [Nat.mul_comm]; exact hj))]
      · obtain ⟨_, o2, e2⟩ := ha
        injection e2 with e2; injection e2 with e2 _ _
        have := ((HIN.out j hj).2.2 g hb).1
        omega
def EffectR.tot (x : Nat → EffectR) : Nat → Nat
  | 0 => 0
  | k + 1 => EffectR.tot x k + (x k).sn
theorem EffectR.tot_le (x : Nat → EffectR) {k n : Nat} (h : k ≤ n) : EffectR.tot x k ≤ EffectR.tot x n := by
  induction n with
  | zero => rw [Nat.le_zero.1 h]; exact Nat.le_refl _
  | succ n ih =>
    by_cases e : k = n + 1
    · rw [e]; exact Nat.le_refl _
    · have := ih (by omega)
      show _ ≤ EffectR.tot x n + (x n).sn
      omega
theorem szEffect_row (x : EffectR) (L : Int) (w : World) (h0 : 0 ≤ L) (h1 : L ≤ 1048576) (hn : x.sn ≤ 9223372036854775807) : Calls Try.prog 15 #[x.val, .int .i64 L] w fun r w' => r = .returned (.int .i64 (if (x.sn : Int) ≤ L then L - x.sn else -1)) ∧ w.Since w.heap.size w' := by
  obtain ⟨y_k, y_l, y_sA, y_sn, y_sc, y_sx⟩ := x
  simp only at hn
  unfold EffectR.val
  have HFL : Hid (∀ w : World, Calls Try.prog 65 #[.slice y_sA y_sn y_sc, .int .i64 L] w fun r w' => r = .returned (.int .i64 (if (y_sn : Int) ≤ L then L - y_sn else -1)) ∧ w = w') := Lib.hid (by
    intro w
    by_cases h : (y_sn : Int) ≤ L
    · rw [if_pos h]
      go_enter Try.func65, Try.ntmps65
      go_wp2
      go_ret
      exact ⟨rfl, rfl⟩
    · rw [if_neg h]
      go_enter Try.func65, Try.ntmps65
      go_wp2
      go_ret
      exact ⟨rfl, rfl⟩)
  by_cases h : (y_sn : Int) ≤ L
  · simp only [if_pos h] at HFL ⊢
    go_enter Try.func15, Try.ntmps15
    go_wp2_with (go_at_call 65; refine (HFL.out _).mono ?_; rintro e w1 ⟨rfl, rfl⟩)
    go_ret
    exact ⟨rfl, by (repeat (first | (with_reducible refine Fl.sinDrew ?_) | (with_reducible refine World.Since.drew ?_) | (with_reducible refine Fl.sinSet ?_ ?_; rotate_left) | (with_reducible refine Fl.sinAlloc ?_ ?_; rotate_left) | with_reducible exact World.Since.refl _ _ | with_reducible assumption | (with_reducible refine Fl.sinStep (by with_reducible assumption) ?_))); all_goals (first | omega | (simp; done) | (simp; omega) | (simp [go_sem]; done) | (simp [go_sem]; omega))⟩
  · simp only [if_neg h] at HFL ⊢
    go_enter Try.func15, Try.ntmps15
    go_wp2_with (go_at_call 65; refine (HFL.out _).mono ?_; rintro e w1 ⟨rfl, rfl⟩)
    go_ret
    exact ⟨rfl, by (repeat (first | (with_reducible refine Fl.sinDrew ?_) | (with_reducible refine World.Since.drew ?_) | (with_reducible refine Fl.sinSet ?_ ?_; rotate_left) | (with_reducible refine Fl.sinAlloc ?_ ?_; rotate_left) | with_reducible exact World.Since.refl _ _ | with_reducible assumption | (with_reducible refine Fl.sinStep (by with_reducible assumption) ?_))); all_goals (first | omega | (simp; done) | (simp; omega) | (simp [go_sem]; done) | (simp [go_sem]; omega))⟩
set_option maxHeartbeats 4000000 in
set_option maxRecDepth 100000 in
theorem szEffectS_any (A : Option Addr) (n c : Nat) (x : Nat → EffectR) (L : Int) (w : World) (h : Rs EffectR.cells 3 w w.heap.size A n x) (hx : ∀ k, k < n → (x k).sn ≤ 9223372036854775807) (hL : L ≤ 1048576) (hn : (n : Int) ≤ L) (z : Int) (hz : z = if (n : Int) + EffectR.tot x n ≤ L then L - n - EffectR.tot x n else -1) :
    Calls Try.prog 20 #[.slice A n c, .int .i64 L] w fun r w' => r = .returned (.int .i64 z) ∧ w.Since w.heap.size w' := by
  have H := Lib.hid h; have HX := Lib.hid hx; have HZ := Lib.hid hz
  clear h hx hz
  have hb : 0 ≤ L - n := by omega
  have hb2 : L - n ≤ 1048576 := by omega
  go_enter Try.func20, Try.ntmps20
  go_wp2
  go_loopw [1, 5] (fun lv i wr => ∃ (k : Nat) (l : Int), k ≤ n ∧ i = .int .i64 (k : Nat) ∧ lv = .int .i64 l ∧ Hid (l = L - n - EffectR.tot x k) ∧ 0 ≤ l ∧ l ≤ 1048576 ∧ w.Since w.heap.size wr) (fun _ i _ => n - (intOf i).toNat)
  case atStart => exact ⟨0, L - n, Nat.zero_le _, rfl, rfl, Lib.hid (by simp [EffectR.tot]), hb, hb2, World.Since.refl _ _⟩
  case round =>
    obtain ⟨k, l, hk, rfl, rfl, HL, hl0, hl1, hs⟩ := hrel
    have HS := Lib.hid hs
    clear hs
    by_cases hlt : k < n
    · obtain ⟨g, off, rfl, hgl, hc⟩ := H.out.at_ hlt
      have HSZ := Lib.hid (fun W => szEffect_row (x k) l W hl0 hl1 (HX.out k hlt))
      have hc0 := (HS.out.cell (a := ⟨g, off + k * 3 + 0, none⟩) hgl).trans (hc 0 (by decide))
      have hc1 := (HS.out.cell (a := ⟨g, off + k * 3 + 1, none⟩) hgl).trans (hc 1 (by decide))
      have hc2 := (HS.out.cell (a := ⟨g, off + k * 3 + 2, none⟩) hgl).trans (hc 2 (by decide))
      obtain ⟨y, hy⟩ : ∃ y, y = x k := ⟨_, rfl⟩
      have HY := Lib.hid hy
      rw [← hy] at hc0 hc1 hc2 HSZ
      have HYN : Hid (y.sn = (x k).sn) := Lib.hid (by rw [hy])
      clear hy hc HY
      obtain ⟨y_k, y_l, y_sA, y_sn, y_sc, y_sx⟩ := y
      simp only at HYN
      simp only [EffectR.cells, EffectR.val, List.getD_cons_zero, List.getD_cons_succ, Nat.add_zero] at hc0 hc1 hc2 HSZ
      by_cases hle : (y_sn : Int) ≤ l
      · simp only [if_pos hle] at HSZ
        have hnn : ¬ l - (y_sn : Int) < 0 := by omega
        go_wp2_with fail
        refine (HSZ.out _).mono ?_
        rintro e w2 ⟨rfl, hs2⟩
        have HS2 := Lib.hid (since_step HS.out hs2); clear hs2
        have HLE := Lib.hid hle
        go_wp2
        go_roundw
        case rel => exact ⟨k + 1, l - y_sn, by omega, by go_num, rfl, Lib.hid (by have h1 := HL.out; have h2 := HYN.out; show _ = L - n - ((EffectR.tot x k + (x k).sn : Nat) : Int); omega), by have := HLE.out; omega, by omega, HS2.out⟩
        case measure => simp [intOf]; omega
      · simp only [if_neg hle] at HSZ
        have hres : Hid (¬ (n : Int) + EffectR.tot x n ≤ L) := Lib.hid (by
          have h1 := HL.out; have h2 := HYN.out
          have h3 : EffectR.tot x k + (x k).sn ≤ EffectR.tot x n := EffectR.tot_le x (k := k + 1) hlt
          omega)
        go_wp2_with fail
        refine (HSZ.out _).mono ?_
        rintro e w2 ⟨rfl, hs2⟩
        have HS2 := Lib.hid (since_step HS.out hs2); clear hs2
        go_wp2
        go_ret
        have e : z = -1 := by rw [HZ.out, if_neg (by have := hres.out; omega)]
        exact ⟨by rw [e]; rfl, HS2.out⟩
    · obtain rfl : k = n := by omega
      have hres : Hid ((k : Int) + EffectR.tot x k ≤ L) := Lib.hid (by have h1 := HL.out; omega)
      go_wp2
      go_ret
      have e : z = l := by rw [HZ.out, if_pos hres.out, HL.out]
      exact ⟨by rw [e]; rfl, HS.out⟩
theorem szEffectS_big (A : Option Addr) (n c : Nat) (L : Int) (w : World) (hL : L ≤ 1048576) (h0 : 0 ≤ L) (hn : L < n) (hn2 : n ≤ 9223372036854775807) : Calls Try.prog 20 #[.slice A n c, .int .i64 L] w fun r w' => r = .returned (.int .i64 (-1)) ∧ w.Since w.heap.size w' := by
  have h1 : L - n < 0 := by omega
  go_enter Try.func20, Try.ntmps20
  go_wp2
  go_ret
  exact ⟨rfl, World.Since.refl _ _⟩
set_option maxRecDepth 100000 in
set_option maxHeartbeats 4000000 in
theorem eqEffect_row (x y : EffectR) (w : World) (hx : Fs w w.heap.size x.sA x.sn x.sx) (hy : Fs w w.heap.size y.sA y.sn y.sx) (hox : x.ok) (hn : x.sn ≤ 1048576) (h : x.like y) : Calls Try.prog 19 #[x.val, y.val] w fun e w' => e = .returned (.bool true) ∧ w.Since w.heap.size w' := by
  obtain ⟨x_k, x_l, x_sA, x_sn, x_sc, x_sx⟩ := x
  obtain ⟨y_k, y_l, y_sA, y_sn, y_sc, y_sx⟩ := y
  simp only [EffectR.like, EffectR.ok] at *
  obtain ⟨rfl, rfl, rfl, rfl⟩ := h
  unfold EffectR.val
  
  have HX := Lib.hid hx; have HY := Lib.hid hy
  clear hx hy hox
  go_enter Try.func19, Try.ntmps19
  go_wp2_with fail
  generalize hW : World.alloc _ _ = V
  have HS : Hid (w.Since w.heap.size V) := Lib.hid (by rw [← hW]; exact ((World.Since.refl _ _).alloc (Nat.le_refl _) _).alloc (by simp) _)
  have hz : w.heap.size + 1 < V.heap.size := by rw [← hW]; simp
  have G1 := Lib.hid (gflEffect (w := V) (T := 27) (l := [.int .i64 x_k, .int .i64 x_l, .slice x_sA x_sn x_sc]) (g := w.heap.size) (by rw [← hW]; exact (((World.Since.refl (w.heap.size + 1) _).alloc (by simp) _).block w.heap.size (by omega)).trans (Go.Deep.blk_alloc_new w _)))
  have G2 := Lib.hid (gflEffect (w := V) (T := 27) (l := [.int .i64 x_k, .int .i64 x_l, .slice y_sA x_sn y_sc]) (g := w.heap.size + 1) (by rw [← hW]; have := Go.Deep.blk_alloc_new (w.alloc (.cells #[.int .i64 x_k, .int .i64 x_l, .slice x_sA x_sn x_sc] 27)) (.cells #[.int .i64 x_k, .int .i64 x_l, .slice y_sA x_sn y_sc] 27); simpa using this))
  clear hW
  have a0 := G1.out.cell (j := 0) (by simp)
  have b0 := G2.out.cell (j := 0) (by simp)
  have a1 := G1.out.cell (j := 1) (by simp)
  have b1 := G2.out.cell (j := 1) (by simp)
  have a2 := G1.out.cell (j := 2) (by simp)
  have b2 := G2.out.cell (j := 2) (by simp)
  simp only [List.getD_cons_zero, List.getD_cons_succ] at a0 b0 a1 b1 a2 b2
  go_wp2_with (first | (with_reducible_and_instances refine Lo.wpList_wi _ rfl _ _ _ rfl _ _ rfl (by kernel_rfl) (by kernel_rfl) (by assumption) ?_; intro rr nn hrr) | (go_at_call 89; refine (sameFloat_any _ _ _ _ (by assumption : Hid _) (by assumption : Hid _)).mono ?_; rintro e w' ⟨rfl, n1, rfl⟩))
  go_at_call 51
  refine (eqL_any ⟨x_sA, x_sn, x_sx⟩ ⟨y_sA, x_sn, x_sx⟩ _ _ _ (fun k => ab .f32 (wd x_sx k)) (HX.out.now HS.out) (HY.out.now HS.out) hn rfl (fun _ _ => rfl) (fun _ _ => rfl)).mono ?_
  rintro e w2 ⟨rfl, hs⟩
  clear a0 b0 a1 b1 a2 b2
  have HS2 : Hid (w.Since w.heap.size w2) := Lib.hid (since_step HS.out hs)
  have K1 := Lib.hid (G1.out.of (hs.block _ (by omega)))
  have K2 := Lib.hid (G2.out.of (hs.block _ (by omega)))
  clear hs G1 G2
  have a0 := K1.out.cell (j := 0) (by simp)
  have b0 := K2.out.cell (j := 0) (by simp)
  have a1 := K1.out.cell (j := 1) (by simp)
  have b1 := K2.out.cell (j := 1) (by simp)
  have a2 := K1.out.cell (j := 2) (by simp)
  have b2 := K2.out.cell (j := 2) (by simp)
  simp only [List.getD_cons_zero, List.getD_cons_succ] at a0 b0 a1 b1 a2 b2
  go_wp2_with (first | (with_reducible_and_instances refine Lo.wpList_wi _ rfl _ _ _ rfl _ _ rfl (by kernel_rfl) (by kernel_rfl) (by assumption) ?_; intro rr nn hrr) | (go_at_call 89; refine (sameFloat_any _ _ _ _ (by assumption : Hid _) (by assumption : Hid _)).mono ?_; rintro e w' ⟨rfl, n1, rfl⟩))
  go_ret
  exact ⟨rfl, by have hs0 := HS2.out; have hz0 := hs0.size; (repeat (first | (with_reducible refine Fl.sinDrew ?_) | (with_reducible refine World.Since.drew ?_) | (with_reducible refine Fl.sinSet ?_ ?_; rotate_left) | (with_reducible refine Fl.sinAlloc ?_ ?_; rotate_left) | with_reducible exact World.Since.refl _ _ | with_reducible assumption | (with_reducible refine Fl.sinStep (by with_reducible assumption) ?_))); all_goals (first | omega | (simp; done) | (simp; omega) | (simp [go_sem]; done) | (simp [go_sem]; omega))⟩
set_option maxHeartbeats 4000000 in
set_option maxRecDepth 100000 in
theorem eqEffectS_any (A C : Option Addr) (n c d : Nat) (e f : Nat → EffectR) (w : World) (ha : EffectR.Ts w w.heap.size A n e) (hc : EffectR.Ts w w.heap.size C n f) (hn : n ≤ 1048576) (hns : ∀ k, k < n → (e k).sn ≤ 1048576) (he : ∀ k, k < n → (e k).ok ∧ (e k).like (f k)) :
    Calls Try.prog 24 #[.slice A n c, .slice C n d] w fun r w' => r = .returned (.bool true) ∧ w.Since w.heap.size w' := by
  have HA := Lib.hid ha; have HC := Lib.hid hc; have HE := Lib.hid he; have HNS := Lib.hid hns
  clear ha hc he hns
  go_enter Try.func24, Try.ntmps24
  go_wp2
  go_loopw [5] (fun i wr => ∃ k : Nat, k ≤ n ∧ i = .int .i64 (k : Nat) ∧ w.Since w.heap.size wr) (fun i _ => n - (intOf i).toNat)
  case atStart => exact ⟨0, Nat.zero_le _, rfl, World.Since.refl _ _⟩
  case round =>
    obtain ⟨k, hk, rfl, hs⟩ := hrel
    have HS := Lib.hid hs
    clear hs
    by_cases hlt : k < n
    · obtain ⟨g, off, rfl, hgl, hc1⟩ := HA.out.1.range hlt (by rfl)
      obtain ⟨g2, off2, rfl, hgl2, hc2⟩ := HC.out.1.range hlt (by rfl)
      have HEQ : Hid (∀ W, (∃ hs d, W = Lo.mkW wr hs d) → Calls Try.prog 19 #[(e k).val, (f k).val] W fun r w' => r = .returned (.bool true) ∧ W.Since W.heap.size w') := Lib.hid (fun W hW => by
        obtain ⟨hs, d, rfl⟩ := hW
        have hT := since_step HS.out (Lo.mkW_since wr hs d)
        exact eqEffect_row (e k) (f k) _ ((HA.out.2 k hlt).now hT) ((HC.out.2 k hlt).now hT) (HE.out k hlt).1 (HNS.out k hlt) (HE.out k hlt).2)
      have R1 := Lib.hid (Lo.range_since hc1 HS.out (by omega))
      have R2 := Lib.hid (Lo.range_since hc2 HS.out (by omega))
      have hz := HS.out.size
      generalize e k = x at *
      generalize f k = y at *
      obtain ⟨x_k, x_l, x_sA, x_sn, x_sc, x_sx⟩ := x
      obtain ⟨y_k, y_l, y_sA, y_sn, y_sc, y_sx⟩ := y
      simp only [EffectR.cells, EffectR.val] at R1 R2 HEQ
      clear hc1 hc2
      go_wp2_with fail
      refine Lo.wp_looseG_all [] (by kernel_rfl) (by kernel_rfl) ?_
      repeat (first
        | (refine Lo.wpL_loadRow rfl 27 _ rfl (by decide) g (off + k * 3) rfl [.int .i64 x_k, .int .i64 x_l, .slice x_sA x_sn x_sc] _ Try.underlying27 rfl (by kernel_rfl) (fun v ⟨hs, dd, hv⟩ => hv ▸ Lo.range_since R1.out (Lo.mkW_since _ hs dd) (by omega)) ?_; simp only [Act.put, List.setIfInBounds_toArray, List.set_cons_succ, List.set_cons_zero])
        | (refine Lo.wpL_loadRow rfl 27 _ rfl (by decide) g2 (off2 + k * 3) rfl [.int .i64 y_k, .int .i64 y_l, .slice y_sA y_sn y_sc] _ Try.underlying27 rfl (by kernel_rfl) (fun v ⟨hs, dd, hv⟩ => hv ▸ Lo.range_since R2.out (Lo.mkW_since _ hs dd) (by omega)) ?_; simp only [Act.put, List.setIfInBounds_toArray, List.set_cons_succ, List.set_cons_zero])
        | (refine Lo.wpG_callQ rfl 19 [.tmp _, .tmp _] [.agg #[.int .i64 x_k, .int .i64 x_l, .slice x_sA x_sn x_sc], .agg #[.int .i64 y_k, .int .i64 y_l, .slice y_sA y_sn y_sc]] _ rfl (by decide) (callsEnter 19 Try.f19 _ (by kernel_rfl) (by kernel_rfl) rfl) rfl (.bool true) (fun v hv => (HEQ.out v hv).mono fun e v2 ⟨h1, h2⟩ => ⟨h1, Lo.mkW_mkW hv h2⟩) ?_; simp only [Act.put, List.setIfInBounds_toArray, List.set_cons_succ, List.set_cons_zero])
        | (refine Lo.wpL_move rfl _ (.inl rfl) (by decide) ?_; simp only [Act.put, List.setIfInBounds_toArray, List.set_cons_succ, List.set_cons_zero])
        | (refine Lo.wpL_move rfl _ (.inr rfl) (by decide) ?_; simp only [Act.put, List.setIfInBounds_toArray, List.set_cons_succ, List.set_cons_zero])
        | (refine Lo.wpG_fop (fun _ m h => Lo.drewG m h) rfl _ _ _ _ rfl rfl (by decide) _ _ _ _ _ rfl rfl (by assumption) (by assumption) ?_; intro rr hrr; simp only [Act.put, List.setIfInBounds_toArray, List.set_cons_succ, List.set_cons_zero])
        | (refine Lo.wpL_quiet rfl (by decide) (fun K hK => ?_); go_big_quiet_op; first | (refine hK _ ?_; clear hK K) | (refine ⟨_, fun _ _ _ _ => rfl, hK _ ?_⟩; clear hK K)))
      refine Lo.wpL_nil ?_; intro hsG dG
      refine Lo.after_nil ?_; intro nq
      generalize hwG : Lo.mkW _ hsG dG = wG
      replace hwG := Lo.sinceG hwG
      clear hsG dG
      go_wp2
      go_roundw
      case rel => exact ⟨k + 1, by omega, by go_num, since_step HS.out hwG⟩
      case measure => simp [intOf]; omega
    · go_wp2
      go_ret
      exact ⟨rfl, HS.out⟩
theorem Fl.He.otherEffect {B : Nat} {v v' : World} {p : En} {r : List En} (h : He B v (p :: r)) (ho : ∀ g, g < v.heap.size → ¬ p.S g → v'.heap[g]? = v.heap[g]?) (hz : v.heap.size ≤ v'.heap.size) : He B v' r := by
  have hd := h.1.2
  have ht := h.2
  clear h
  induction r with
  | nil => trivial
  | cons q r ih =>
    refine ⟨⟨?_, ht.1.2⟩, ih (fun q' hq' => hd q' (.tail _ hq')) ht.2⟩
    exact ht.1.1.keep (fun b hb => ho b (ht.1.1.2.2 b hb).2 fun hp => hd q (.head _) b hp hb) hz
set_option maxHeartbeats 8000000 in
set_option maxRecDepth 100000 in
theorem markEffectS_any (g n : Nat) (e : Nat → EffectR) (c k0 : Nat) (K : Int) (v : World) (B : Nat) (r : List En) (h : He B v (EffectR.ent (some ⟨g, 0, none⟩) n e :: r)) (hB : B ≤ v.heap.size) (hn : n ≤ 1048576) (hns : ∀ k, k < n → (e k).sn ≤ 1048576) (ht : EffectR.tot e n ≤ 1048576) (hk0 : k0 ≤ 536870912) (hK : K = (k0 : Nat)) :
    Calls Try.prog 28 #[.slice (some ⟨g, 0, none⟩) n c, .int .i64 K] v fun r1 v' => r1 = .returned (.int .i64 ((k0 + EffectR.tot e n + n * 2 : Nat) : Int)) ∧ He B v' r ∧ v.Since B v' := by
  subst hK
  have HH := Lib.hid h
  have HNS := Lib.hid hns
  by_cases hpos : 0 < n
  · obtain ⟨g1, off1, cs1, e1, hg, hgl, hb, hc⟩ := h.1.1.outer.ce (Nat.mul_pos hpos (by decide))
    injection e1 with e1; injection e1 with e1 e2 _; subst e1; subst e2
    have HG0 : Hid (GF v g 27 (n * 3) (ceL EffectR.cells 3 e)) := Lib.hid ⟨cs1, hb, fun j hj => by have := hc j hj; rwa [Nat.zero_add] at this⟩
    have HAL := Lib.hid h.1.1.alone
    have HIN0 : Hid (∀ j, j < n → Ge B v (e j).inn) := Lib.hid (fun j hj => h.1.1.each EffectR.inn_fr j hj)
    have HSG : Hid ((se EffectR.cells 3 27 (some ⟨g, 0, none⟩) n e).S g) := Lib.hid ⟨Nat.mul_pos hpos (by decide), 0, rfl⟩
    clear hb hc h hns
    go_enter Try.func28, Try.ntmps28
    go_wp2
    go_loopw [1, 5] (fun kv i wr => ∃ (k : Nat) (f : Nat → Value), k ≤ n ∧ i = .int .i64 (k : Nat) ∧ kv = .int .i64 ((k0 + EffectR.tot e k + k * 2 : Nat) : Int) ∧ GF wr g 27 (n * 3) f ∧ (∀ j, k * 3 ≤ j → j < n * 3 → f j = ceL EffectR.cells 3 e j) ∧ (∀ j, k ≤ j → j < n → Ge B wr (e j).inn) ∧ (∀ b, b < v.heap.size → ¬ (EffectR.ent (some ⟨g, 0, none⟩) n e).S b → wr.heap[b]? = v.heap[b]?) ∧ v.heap.size ≤ wr.heap.size ∧ v.Since B wr) (fun _ i _ => n - (intOf i).toNat)
    case atStart => exact ⟨0, _, Nat.zero_le _, rfl, by simp [EffectR.tot], HG0.out, fun j _ _ => rfl, fun j _ hj => HIN0.out j hj, fun _ _ _ => rfl, Nat.le_refl _, World.Since.refl _ _⟩
    case round =>
      obtain ⟨k, f, hk, rfl, rfl, hgf, hff, hin, hoth, hsz, hs⟩ := hrel
      have HG := Lib.hid hgf; have HFF := Lib.hid hff; have HIN := Lib.hid hin; have HO := Lib.hid hoth; have HZ := Lib.hid hsz; have HS := Lib.hid hs
      clear hgf hff hin hoth hsz hs HG0 HIN0
      by_cases hlt : k < n
      · have hkk : k * 3 + 3 ≤ n * 3 := by omega
        have hts : EffectR.tot e k + (e k).sn ≤ EffectR.tot e n := EffectR.tot_le e (k := k + 1) hlt
        have HTK : Hid (EffectR.tot e (k + 1) = EffectR.tot e k + (e k).sn) := Lib.hid rfl
        have hn3 := HNS.out k hlt
        have hcell : wr.cell? ⟨g, k * 3 + 2, none⟩ = some (.slice (e k).sA (e k).sn (e k).sc) := by
          rw [HG.out.cell (j := k * 3 + 2) (by omega), HFF.out _ (by omega) (by omega), ceL_at e (by decide)]; rfl
        have hBw : B ≤ wr.heap.size := Nat.le_trans hB HZ.out
        have HM : Hid (∀ W K, Ge B W (e k).inn → B ≤ W.heap.size → K = ((k0 + EffectR.tot e k + k * 2 + 2 : Nat) : Int) → Calls Try.prog 53 #[.slice (e k).sA (e k).sn (e k).sc, .int .i64 K] W fun r1 v' => r1 = .returned (.int .i64 ((k0 + EffectR.tot e k + k * 2 + 2 + (e k).sn : Nat) : Int)) ∧ Ge B v' (fe (e k).sA (e k).sn (mk (k0 + EffectR.tot e k + k * 2 + 2) (e k).sn)) ∧ (∀ b, b < W.heap.size → ¬ (e k).inn.S b → v'.heap[b]? = W.heap[b]?) ∧ W.Since B v') := Lib.hid (fun W K hW hBW hK => mark_only (e k).sA (e k).sn (e k).sx (e k).sc _ K W B hW hBW hn3 (by omega) hK)
        have hgin : Hid (¬ (e k).inn.S g) := Lib.hid (fun h7 => HAL.out.1 k hlt g HSG.out h7)
        (try simp only [Nat.add_zero] at hcell)
        have hgw : g < wr.heap.size := HG.out.lt
        have pd0 := HG.out.cell (j := k * 3 + 0) (by omega)
        have pf0 := HG.out.free (k * 3 + 0)
        have pd1 := HG.out.cell (j := k * 3 + 1) (by omega)
        have pf1 := HG.out.free (k * 3 + 1)
        simp only [Nat.add_zero] at pd0 pf0 pd1 pf1
        go_wp2_with fail
        generalize hW1 : World.setCell _ _ _ = W1
        have Z1 : Hid (W1.heap.size = wr.heap.size) := Lib.hid (by rw [← hW1]; simp only [Go.Deep.nblk_setCell])
        have O1 : Hid (∀ b, b ≠ g → W1.heap[b]? = wr.heap[b]?) := Lib.hid (fun b hb => by rw [← hW1]; rw [Go.Deep.blk_setCell_other _ _ _ _ hb]; rw [Go.Deep.blk_setCell_other _ _ _ _ hb])
        have G1 : Hid (∃ f1, GF W1 g 27 (n * 3) f1 ∧ ∀ j, (k + 1) * 3 ≤ j → f1 j = f j) := Lib.hid (by
          rw [← hW1]
          exact ⟨_, (HG.out.set (k * 3) _).set (k * 3 + 1) _, fun j hj => by simp only [show ¬ j = k * 3 by omega, show ¬ j = k * 3 + 1 by omega, if_false, ite_false]⟩)
        have S1 : Hid (wr.Since B W1) := Lib.hid (by rw [← hW1]; exact (((World.Since.refl _ _).setCell hg _).setCell hg _))
        clear hW1
        refine (HM.out W1 _ ((HIN.out k (Nat.le_refl _) hlt).keep (fun b hb => O1.out b fun h8 => hgin.out (h8 ▸ hb)) (by rw [Z1.out]; exact Nat.le_refl _)) (by rw [Z1.out]; exact hBw) (by push_cast; omega)).mono ?_
        rintro e1 w2 ⟨rfl, hg2, ho2, hs2⟩
        obtain ⟨f1, hg1, hf1⟩ := G1.out
        have HF1 := Lib.hid hf1
        have HG2 : Hid (GF w2 g 27 (n * 3) f1) := Lib.hid (hg1.of (ho2 g (by rw [Z1.out]; exact hgw) hgin.out))
        have HO2 := Lib.hid ho2; have HS2 := Lib.hid hs2
        clear hg2 ho2 hs2 hcell hg1 hf1 G1
        go_wp2
        go_roundw
        case rel =>
          refine ⟨k + 1, f1, by omega, by go_num, ?_, HG2.out, fun j hj hj2 => ?_, fun j hj hj2 => ?_, fun b hb hnb => ?_, ?_, ?_⟩
          · rw [HTK.out]; go_num
          · rw [HF1.out j (by omega)]; exact HFF.out j (by omega) hj2
          · have hne : ∀ b, (e j).inn.S b → b ≠ g := fun b hb h8 => HAL.out.1 j hj2 g HSG.out (h8 ▸ hb)
            have hap : ∀ b, (e j).inn.S b → ¬ (e k).inn.S b := fun b hb h8 => HAL.out.2 j k hj2 hlt (by omega) b hb h8
            have h9 := HIN.out j (by omega) hj2
            refine h9.keep (fun b hb => ?_) (by have h5 := HS2.out.size; rw [Z1.out] at h5; exact h5)
            exact (HO2.out b (by rw [Z1.out]; exact (h9.2.2 b hb).2) (hap b hb)).trans (O1.out b (hne b hb))
          · have hne : b ≠ g := fun h8 => hnb (.inl (h8 ▸ HSG.out))
            have hap : ¬ (e k).inn.S b := fun h8 => hnb (.inr ⟨k, hlt, h8⟩)
            exact (HO2.out b (by rw [Z1.out]; exact Nat.lt_of_lt_of_le hb HZ.out) hap).trans ((O1.out b hne).trans (HO.out b hb hnb))
          · have h5 := HS2.out.size; rw [Z1.out] at h5; exact Nat.le_trans HZ.out h5
          · exact (HS.out.trans S1.out).trans HS2.out
        case measure => simp [intOf]; omega
      · obtain rfl : k = n := by omega
        go_wp2
        go_ret
        exact ⟨rfl, HH.out.otherEffect HO.out HZ.out, HS.out⟩
  · obtain rfl : n = 0 := by omega
    clear h
    go_enter Try.func28, Try.ntmps28
    go_wp2
    go_loopw [1, 5] (fun kv i wr => i = .int .i64 0 ∧ kv = .int .i64 k0 ∧ wr = v) (fun _ _ _ => 0)
    case atStart => exact ⟨rfl, rfl, rfl⟩
    case round =>
      obtain ⟨rfl, rfl, rfl⟩ := hrel
      go_wp2
      go_ret
      exact ⟨by simp [EffectR.tot], HH.out.2, World.Since.refl _ _⟩
theorem EffectR.like_ok {x y : EffectR} (h : x.like y) (hy : y.ok) : x.ok := trivial
theorem EffectR.like_tr {x y z : EffectR} (h : x.like z) (k : y.like z) : x.like y := by
  obtain ⟨x_k, x_l, x_sA, x_sn, x_sc, x_sx⟩ := x
  obtain ⟨y_k, y_l, y_sA, y_sn, y_sc, y_sx⟩ := y
  obtain ⟨w_k, w_l, w_sA, w_sn, w_sc, w_sx⟩ := z
  simp only [EffectR.like] at *
  obtain ⟨rfl, rfl, rfl, rfl⟩ := h
  obtain ⟨rfl, rfl, rfl, rfl⟩ := k
  exact ⟨rfl, rfl, rfl, rfl⟩
theorem EffectR.tot_like {e x : Nat → EffectR} {n : Nat} (h : ∀ k, k < n → (e k).like (x k)) : EffectR.tot e n = EffectR.tot x n := by
  induction n with
  | zero => rfl
  | succ n ih =>
    show EffectR.tot e n + (e n).sn = EffectR.tot x n + (x n).sn
    rw [ih fun k hk => h k (by omega), (h n (by omega)).1]
def EffectR.wf (W : World) (x : EffectR) : Prop := x.ok ∧ Fs W W.heap.size x.sA x.sn x.sx ∧ x.sn ≤ 9223372036854775807 ∧ (Lit.int .i64 x.k).wf = true ∧ (Lit.int .i64 x.l).wf = true
section
open Go.ChangeShapes Go.WideShapes Go.Deep
variable {H : Type} {enc : TypeId × Value → H} {P : Program} {w : World} {base : Nat}
theorem openEffect_row {t te : TypeId} {f0 f1 f2 : Field} (hs : P.underlying t = some (.struct #[f0, f1, f2])) (hone : oneCellFields P #[f0, f1, f2] = true) (hC : P.cellsOf t = 3) (hte : P.underlying te = some (.float .f32)) (hce : P.cellsOf te = 1) (h0 : P.underlying f0.type = some (.int .i64)) (h1 : P.underlying f1.type = some (.int .i64)) (h2 : P.underlying f2.type = some (.slice te))
    (fuel : Nat) (cs : List Value) (x : DataW H × List MemPlace) (h : DataW.trod enc P w base (fun _ => true) true fuel t cs = some x) : ∃ y : EffectR, y.wf w ∧ y.cells = cs := by
  obtain ⟨hl, hc⟩ := row_cells hs hone hC h
  obtain ⟨c0, y0, n0, e0, t0⟩ := hc 0 f0 rfl
  obtain ⟨x0, hx0, w0⟩ := trod_int h0 t0
  injection hx0 with hx0 _; subst hx0
  obtain ⟨c1, y1, n1, e1, t1⟩ := hc 1 f1 rfl
  obtain ⟨x1, hx1, w1⟩ := trod_int h1 t1
  injection hx1 with hx1 _; subst hx1
  obtain ⟨c2, y2, n2, e2, t2⟩ := hc 2 f2 rfl
  obtain ⟨xA, xn, xc, xx, hx2, w2, wn2⟩ := trod_fs h2 hte hce t2
  subst hx2
  refine ⟨⟨x0, x1, xA, xn, xc, xx⟩, ⟨trivial, w2, wn2, w0, w1⟩, ?_⟩
  unfold EffectR.cells
  match cs, hl with
  | [d0, d1, d2], _ =>
    have g0 : d0 = _ := Option.some.inj e0
    have g1 : d1 = _ := Option.some.inj e1
    have g2 : d2 = _ := Option.some.inj e2
    rw [g0, g1, g2]
end
end Go.Proofs.Ytbgjmmncjmcjfaa
