/- Joined: Sx L8 Mm El Lf Mn Mo Mp Rv Ms Mt Mu Ha Hb Ta Cl Mv Mz Rt Ru Hc Hd He Hf Hg Jk Hh L7 -/
import Derived.Test.YtecgipilamefmaaSr
import Derived.Test.YtecgipilamefmaaFe
import Derived.Test.YtecgipilamefmaaSf
import Derived.Test.YtecgipilamefmaaSb
import Derived.Test.YtecgipilamefmaaZc1
import Derived.Test.YtecgipilamefmaaSc
import Derived.Test.YtecgipilamefmaaLq
import Derived.OrdersHeld
import Derived.Laws.AppendOwnNone
import Derived.Lib.SliceRun
import Derived.Maps.OwnOps
import Derived.Maps.Views
import Derived.Maps.Keyed
import Derived.BigQuiet
import Derived.Test.YtecgipilamefmaaFr
/- GainOf. -/
set_option linter.unusedVariables false
set_option linter.unusedSimpArgs false
namespace Go.Proofs.Ytecgipilamefmaa
open Fl Go.RowKit Ieee

def cGain : Nat := 4577790371455803420
theorem ab_gain : ab .f64 4577790371455803420 = some cGain := by rw [ab64]; rfl
def gain64 (n : Int) : Option Nat := expO (opO .mul .f64 (some (floatOfInt .f64 n)) (some cGain))
def gainNO (n : Int) : Option Nat := convO .f64 .f32 (gain64 n)
theorem tenths_size2 : ∀ a < 64, ∀ b < 64, rung .f64 (floatOfInt .f64 (((64 * a + b : Nat) : Int) - 2048)) ≤ rung .f64 4656722014701092864 := by decide +kernel
theorem tenths_size (n : Nat) (h : n < 4096) : rung .f64 (floatOfInt .f64 ((n : Int) - 2048)) ≤ rung .f64 4656722014701092864 := by
  have := tenths_size2 (n / 64) (by omega) (n % 64) (by omega)
  rw [Nat.div_add_mod] at this
  exact this
theorem fits_gain {n : Int} (h1 : -2000 ≤ n) (h2 : n ≤ 2000) {r : Nat} (h : Fv .f64 r (gain64 n)) : Fits .f64 .f32 r := by
  have hs := tenths_size (n + 2048).toNat (by omega)
  rw [show (((n + 2048).toNat : Nat) : Int) - 2048 = n by omega] at hs
  obtain ⟨m, m', hm, hm', hle⟩ := mul_size .f64 (x := floatOfInt .f64 n) (y := cGain) (c := 4656722014701092864) (d := cGain) (Nat.lt_of_le_of_lt hs (by decide)) (by decide : rung .f64 cGain < _) (by decide : rung .f64 4656722014701092864 < _) (by decide : rung .f64 cGain < _) hs (Nat.le_refl _)
  rw [show floatBits .mul .f64 4656722014701092864 cGain = some 4627329967356878876 by decide +kernel] at hm'
  injection hm' with hm'
  subst hm'
  have h40 : rung .f64 m ≤ rung .f64 w40 := Nat.le_trans hle (by decide)
  have habm : ab .f64 m = some m := (fv_op (op := .mul) (.inr (.inr (.inl rfl))) hm).2
  obtain ⟨q, hq, hql, _⟩ := exp_size habm h40
  have e : gain64 n = some q := by
    unfold gain64
    show expO (floatBits .mul .f64 (floatOfInt .f64 n) cGain) = some q
    rw [hm]; exact hq
  have h3 := h.2
  rw [e] at h3
  obtain rfl := ab_some h3
  exact fits_size hql

def gainS (n : Int) : Option Nat := if inB n (-2000) 2000 = true then gainNO n else some 0
theorem implGainOf_any (n : Int) (w : World) :
    Calls Try.prog 19 #[.int .i64 n] w (RetFB .f32 (gainS n) (inB n (-2000) 2000) w) := by
  unfold gainS
  by_cases h1 : n < -2000
  · rw [show inB n (-2000) 2000 = false by simp [inB]; omega, if_neg (by decide)]
    go_enter Try.func19, Try.ntmps19
    go_wp2
    go_ret2
    exact ⟨0, 0, rfl, fv32z, rfl⟩
  · by_cases h2 : 2000 < n
    · rw [show inB n (-2000) 2000 = false by simp [inB]; omega, if_neg (by decide)]
      go_enter Try.func19, Try.ntmps19
      go_wp2
      go_ret2
      exact ⟨0, 0, rfl, fv32z, rfl⟩
    · rw [show inB n (-2000) 2000 = true by simp [inB]; omega, if_pos rfl]
      go_enter Try.func19, Try.ntmps19
      go_wp2_with (with_reducible_and_instances refine wpList_fop _ rfl .mul _ _ _ _ rfl _ _ _ rfl rfl rfl ?_; intro r1 q1 hr; have V1 := Lib.hid hr; clear hr)
      refine (implExp_any _ _ V1.out.1).mono ?_
      rintro e w' ⟨r2, q2, rfl, hv, rfl⟩
      have hv' : Fv .f64 r2 (gain64 n) := by rw [V1.out.2, ab_gain, ab_int64] at hv; exact hv
      have V2 := Lib.hid hv'
      clear hv hv'
      go_wp2_with fail
      refine (implNarrow_any _ _ V2.out.1 (fits_gain (by omega) (by omega) V2.out)).mono ?_
      rintro e w' ⟨r3, q3, rfl, hv, rfl⟩
      have V3 := Lib.hid hv
      clear hv
      go_wp2
      go_ret2
      exact ⟨r3, _, rfl, by have := V3.out; rw [V2.out.2] at this; exact this, rfl⟩

end Go.Proofs.Ytecgipilamefmaa

/- Tenths come back. -/
set_option linter.unusedVariables false
set_option linter.unusedSimpArgs false
namespace Go.Proofs.Ytecgipilamefmaa
open Fl Go.RowKit
def tenChk (k : Nat) : Bool := match gainNO (5 * (k : Int) - 600) with
  | some b => decide (1 ≤ b ∧ b ≤ 2139095039) && decide (tenI (some b) = 5 * (k : Int) - 600)
  | none => false
set_option maxHeartbeats 1000000000 in
theorem ten_b0 : ∀ b < 16, tenChk (0 + b) = true := by decide +kernel
set_option maxHeartbeats 1000000000 in
theorem ten_b1 : ∀ b < 16, tenChk (16 + b) = true := by decide +kernel
set_option maxHeartbeats 1000000000 in
theorem ten_b2 : ∀ b < 16, tenChk (32 + b) = true := by decide +kernel
set_option maxHeartbeats 1000000000 in
theorem ten_b3 : ∀ b < 16, tenChk (48 + b) = true := by decide +kernel
set_option maxHeartbeats 1000000000 in
theorem ten_b4 : ∀ b < 16, tenChk (64 + b) = true := by decide +kernel
set_option maxHeartbeats 1000000000 in
theorem ten_b5 : ∀ b < 16, tenChk (80 + b) = true := by decide +kernel
set_option maxHeartbeats 1000000000 in
theorem ten_b6 : ∀ b < 16, tenChk (96 + b) = true := by decide +kernel
set_option maxHeartbeats 1000000000 in
theorem ten_b7 : ∀ b < 16, tenChk (112 + b) = true := by decide +kernel
set_option maxHeartbeats 1000000000 in
theorem ten_b8 : ∀ b < 16, tenChk (128 + b) = true := by decide +kernel
set_option maxHeartbeats 1000000000 in
theorem ten_b9 : ∀ b < 16, tenChk (144 + b) = true := by decide +kernel
set_option maxHeartbeats 1000000000 in
theorem ten_b10 : ∀ b < 16, tenChk (160 + b) = true := by decide +kernel
set_option maxHeartbeats 1000000000 in
theorem ten_b11 : ∀ b < 16, tenChk (176 + b) = true := by decide +kernel
set_option maxHeartbeats 1000000000 in
theorem ten_b12 : ∀ b < 16, tenChk (192 + b) = true := by decide +kernel
set_option maxHeartbeats 1000000000 in
theorem ten_b13 : ∀ b < 16, tenChk (208 + b) = true := by decide +kernel
set_option maxHeartbeats 1000000000 in
theorem ten_b14 : ∀ b < 16, tenChk (224 + b) = true := by decide +kernel
set_option maxHeartbeats 1000000000 in
theorem ten_b15 : ∀ b < 1, tenChk (240 + b) = true := by decide +kernel
theorem ten_back (k : Nat) (hk : k < 241) : tenChk k = true := by
  by_cases h0 : k < 16
  · have h := ten_b0 (k - 0) (by omega); rwa [show 0 + (k - 0) = k by omega] at h
  by_cases h1 : k < 32
  · have h := ten_b1 (k - 16) (by omega); rwa [show 16 + (k - 16) = k by omega] at h
  by_cases h2 : k < 48
  · have h := ten_b2 (k - 32) (by omega); rwa [show 32 + (k - 32) = k by omega] at h
  by_cases h3 : k < 64
  · have h := ten_b3 (k - 48) (by omega); rwa [show 48 + (k - 48) = k by omega] at h
  by_cases h4 : k < 80
  · have h := ten_b4 (k - 64) (by omega); rwa [show 64 + (k - 64) = k by omega] at h
  by_cases h5 : k < 96
  · have h := ten_b5 (k - 80) (by omega); rwa [show 80 + (k - 80) = k by omega] at h
  by_cases h6 : k < 112
  · have h := ten_b6 (k - 96) (by omega); rwa [show 96 + (k - 96) = k by omega] at h
  by_cases h7 : k < 128
  · have h := ten_b7 (k - 112) (by omega); rwa [show 112 + (k - 112) = k by omega] at h
  by_cases h8 : k < 144
  · have h := ten_b8 (k - 128) (by omega); rwa [show 128 + (k - 128) = k by omega] at h
  by_cases h9 : k < 160
  · have h := ten_b9 (k - 144) (by omega); rwa [show 144 + (k - 144) = k by omega] at h
  by_cases h10 : k < 176
  · have h := ten_b10 (k - 160) (by omega); rwa [show 160 + (k - 160) = k by omega] at h
  by_cases h11 : k < 192
  · have h := ten_b11 (k - 176) (by omega); rwa [show 176 + (k - 176) = k by omega] at h
  by_cases h12 : k < 208
  · have h := ten_b12 (k - 192) (by omega); rwa [show 192 + (k - 192) = k by omega] at h
  by_cases h13 : k < 224
  · have h := ten_b13 (k - 208) (by omega); rwa [show 208 + (k - 208) = k by omega] at h
  by_cases h14 : k < 240
  · have h := ten_b14 (k - 224) (by omega); rwa [show 224 + (k - 224) = k by omega] at h
  by_cases h15 : k < 241
  · have h := ten_b15 (k - 240) (by omega); rwa [show 240 + (k - 240) = k by omega] at h
  omega
theorem ten_gain {k : Nat} (hk : k < 241) {r : Nat} (hr : Hid (Fv .f32 r (gainS (5 * (k : Int) - 600)))) : tenR r = 5 * (k : Int) - 600 ∧ tenB r = true := by
  have h := ten_back k hk
  have e : gainS (5 * (k : Int) - 600) = gainNO (5 * (k : Int) - 600) := by
    unfold gainS
    rw [if_pos]
    simp only [inB, Bool.and_eq_true, decide_eq_true_eq]
    omega
  have h2 := hr.out.2
  rw [e] at h2
  unfold tenChk at h
  cases hg : gainNO (5 * (k : Int) - 600) with
  | none => rw [hg] at h; cases h
  | some b =>
    rw [hg] at h h2
    obtain rfl := ab_some h2
    rw [Bool.and_eq_true, decide_eq_true_eq, decide_eq_true_eq] at h
    have hB : tenB b = true := decide_eq_true h.1
    exact ⟨by unfold tenR; rw [hB]; exact h.2, hB⟩
end Go.Proofs.Ytecgipilamefmaa

/- Meters: held peaks, both sides. -/
set_option linter.unusedVariables false
set_option linter.unusedSimpArgs false
namespace Go.Proofs.Ytecgipilamefmaa
open Fl Go.RowKit
/-- a size, where a not-a-number counts as nothing -/
def zsO (x : O) : O := if x.isNone then some 0 else sizeO x
def holdH (X : Nat → O) (F : O) (H : O) : Nat → O
  | 0 => H
  | k + 1 => if gtO (zsO (X k)) (mu (holdH X F H k) F) then zsO (X k) else mu (holdH X F H k) F
theorem sizeO_none {x : O} : (sizeO x).isNone = x.isNone := by unfold sizeO; cases x <;> rfl
theorem zs_fv {b : Nat} {X : O} (h : Hid (Fv .f32 b X)) : Hid (Fv .f32 (if X.isNone then 0 else sizeS b) (zsO X)) := by
  unfold zsO
  cases e : X.isNone
  · exact sizeS_fv h
  · exact fv0
theorem self_size {b : Nat} (h : Hid (Fv .f32 b (ab .f32 b))) : FloatKind.f32.format.order (sizeS b) (sizeS b) = if (ab .f32 b).isNone then none else some .eq := by
  rw [order_self, (sizeS_fv h).out.2]; cases ab .f32 b <;> rfl
theorem cell_own {W : World} {a : Addr} {u v : Value} (h : W.cell? a = some u) : (W.setCell a v).cell? a = some v := by simp [go_sem, h]
/-- a box of one cell -/
def B1 (W : World) (g : Nat) (v : Value) (T : TypeId) : Prop := W.heap[g]? = some (.cells #[v] T (0, 0))
theorem B1.at_ {W : World} {g : Nat} {v : Value} {T : TypeId} (h : B1 W g v T) : W.cell? ⟨g, 0, none⟩ = some v := by unfold B1 at h; simp [World.cell?, h]
theorem B1.free {W : World} {g o : Nat} {v : Value} {T : TypeId} (h : B1 W g v T) : W.frozen? ⟨g, o, none⟩ = false := by unfold B1 at h; simp [World.frozen?, h]
theorem B1.lt {W : World} {g : Nat} {v : Value} {T : TypeId} (h : B1 W g v T) : g < W.heap.size := (Array.getElem?_eq_some_iff.1 h).1
theorem B1.set {W : World} {g : Nat} {u v : Value} {T : TypeId} (h : B1 W g u T) : B1 (W.setCell ⟨g, 0, none⟩ v) g v T := by unfold B1 at h ⊢; simp [World.setCell, Array.getElem?_modify, h]
theorem B1.of {W V : World} {g : Nat} {u : Value} {T : TypeId} (h : B1 W g u T) (e : V.heap[g]? = W.heap[g]?) : B1 V g u T := e.trans h
theorem B1.drewN {W : World} {g : Nat} {u : Value} {T : TypeId} (h : B1 W g u T) (n : Nat) : B1 (W.drewN n) g u T := h
theorem B1.new (W : World) (v : Value) (T : TypeId) : B1 (W.alloc (.cells #[v] T)) W.heap.size v T := Go.Deep.blk_alloc_new _ _
end Go.Proofs.Ytecgipilamefmaa

/- Dynamics: the root of the mean of squares. -/
set_option linter.unusedVariables false
set_option linter.unusedSimpArgs false
namespace Go.Proofs.Ytecgipilamefmaa
open Fl Go.RowKit
def meanO (xs : List Nat) (n : Nat) : O := rootO (qu (dotO xs xs n) (some (fI n)))
def meanB (n : Nat) : Bool := decide (n ≤ 256) && decide (0 < n)
def meanR (xs : List Nat) (n : Nat) : O := if meanB n then meanO xs n else some 0
theorem meanR_yes {xs : List Nat} {n : Nat} (h : n ≤ 256) (h0 : 0 < n) : meanR xs n = meanO xs n := by unfold meanR meanB; rw [decide_eq_true h, decide_eq_true h0]; rfl
end Go.Proofs.Ytecgipilamefmaa

/- Loose regions with a tail, whose first operation, a move, is taken first (a row that a loop appends to). -/
set_option linter.unusedVariables false
set_option linter.unusedSimpArgs false
namespace Go.Proofs.Ytecgipilamefmaa
namespace Lo
open Fl Ieee
section
variable {P : Program} {ops : Array Oper} {md : Region.Mode} {C : World → Prop} {D : Nat → Bool}
/-- every operation of the head but the first has one behind it, up to n, that waits for it -/
def sink1 (md : Region.Mode) (ops : Array Oper) (n : Nat) : Bool := (List.range n).all fun i => decide (i = 0) || (List.range (n + 1)).any fun j => decide (i < j) && Region.waitsFor md ops j i
theorem waits1 {n : Nat} {listed : Array Bool} (hs : sink1 md ops n = true) (hc : Region.chainB md ops n = true) (inv : HeadInv md ops n listed) (hn : n < ops.size) :
    ∀ (m i : Nat), n ≤ i + m → 1 ≤ i → i < n → listed.getD i true = false → ∀ t, n ≤ t → t ∉ Region.ready md ops listed := by
  intro m
  induction m with
  | zero => intro i h1 _ h2; omega
  | succ m ih =>
    intro i hm h1 hin hun t ht hr
    have hr2 := hr
    obtain ⟨_, ot, hot, hdep⟩ := mem_ready.1 hr
    have hts : t < ops.size := (Array.getElem?_eq_some_iff.1 hot).1
    have dep : ∀ j, Region.waitsFor md ops t j = true → listed.getD j false = true := fun j hj => by
      obtain ⟨o2, ho2, e, he, hb, hon⟩ := Region.waitsFor_spec hj
      have : o2 = ot := Option.some.inj (ho2.symm.trans hot)
      subst this
      rw [← hon]; exact hdep e he hb
    rcases Nat.lt_or_ge n t with hlt | hge
    · have h3 := List.all_eq_true.1 hc t (List.mem_range.2 hts)
      rw [Bool.or_eq_true, decide_eq_true_eq] at h3
      rcases h3 with h3 | h3
      · omega
      · have h4 := dep _ h3
        have h5 := inv.tail (t - 1) (by omega) (by omega)
        rw [getD_both h5] at h4
        cases h4
    · obtain rfl : t = n := by omega
      have h3 := List.all_eq_true.1 hs i (List.mem_range.2 hin)
      rw [Bool.or_eq_true, decide_eq_true_eq] at h3
      rcases h3 with h3 | h3
      · omega
      obtain ⟨j, hj, hj2⟩ := List.any_eq_true.1 h3
      rw [Bool.and_eq_true, decide_eq_true_eq] at hj2
      have hjt : j ≤ t := by have := List.mem_range.1 hj; omega
      have hi0 := getD_both hun
      rcases Nat.lt_or_ge j t with hjlt | hjge
      · refine ih j (by omega) (by omega) hjlt ?_ t (Nat.le_refl _) hr2
        refine getD_in (by rw [inv.size]; omega) ?_
        cases hl : listed.getD j false with
        | false => rfl
        | true =>
          obtain ⟨oj, hoj, e, he, hb, hon⟩ := Region.waitsFor_spec hj2.2
          have h6 := inv.closed j oj hoj hl e he hb
          rw [hon, hi0] at h6
          cases h6
      · obtain rfl : j = t := by omega
        have h6 := dep i hj2.2
        rw [hi0] at h6
        cases h6
theorem anyM_first1 {n i : Nat} {oi : Oper} {v : Value} {L : Array Bool → Act → Prop} (hi : ops[i]? = some oi) (hsel : ∀ (j : Nat) (o : Oper) cs b, ops[j]? = some o → o.op ≠ .select cs b)
    (hs : sink1 md ops n = true) (hc : Region.chainB md ops n = true) (hn : n < ops.size) (hin : i < n) (hi1 : 1 ≤ i)
    (hdone : ∀ listed a, L listed a → ∀ j ∈ Region.ready md ops listed, n ≤ j) :
    ∀ (f : Nat) (listed : Array Bool) (a : Act), HeadInv md ops n listed →
      (∀ j oj, ops[j]? = some oj → j ≠ i → listed.getD j true = false → (∀ e ∈ oj.after, Region.binds md e = true → e.on ≠ i) → oi.apart ops oj = true) →
      i ∈ Region.ready md ops listed → Yl P ops C D oi v a →
      anyM P md ops C D n L f (listed.setIfInBounds i true) (a.put oi.dst v) → anyM P md ops C D n L (f + 1) listed a := by
  intro f
  induction f with
  | zero =>
    intro listed a inv _ hr hy H
    have hun := (mem_ready.1 hr).1
    refine ⟨fun h => (by rw [h] at hr; cases hr), fun j hj => ?_⟩
    have hjn : j < n := Nat.lt_of_not_le fun h => absurd hj (waits1 hs hc inv hn _ i (Nat.le_add_left _ _) hi1 hin hun j h)
    refine ⟨hjn, ?_⟩
    by_cases e : j = i
    · subst e; exact at1_of_Yl hi hy H
    · have := hdone _ _ H j (ready_mono hj e)
      omega
  | succ f ih =>
    intro listed a inv hfree hr hy H
    have hun := (mem_ready.1 hr).1
    refine ⟨fun h => (by rw [h] at hr; cases hr), fun j hj => ?_⟩
    have hjn : j < n := Nat.lt_of_not_le fun h => absurd hj (waits1 hs hc inv hn _ i (Nat.le_add_left _ _) hi1 hin hun j h)
    refine ⟨hjn, ?_⟩
    by_cases e : j = i
    · subst e; exact at1_of_Yl hi hy H
    · obtain ⟨hjun, oj, hoj, hall⟩ := mem_ready.1 hj
      have hnot : ∀ x ∈ oj.after, Region.binds md x = true → x.on ≠ i := fun x hx hb heq => by
        have g1 := hall x hx hb
        rw [heq, getD_both hun] at g1
        cases g1
      have hsw := at1_swap hoj (hfree j oj hoj e hjun hnot) (fun cs b => hsel i oi cs b hi) (fun cs b => hsel j oj cs b hoj) hy (H.2 j (ready_mono hj e)).2
      refine at1_mono (fun b hb => ih (listed.setIfInBounds j true) b (inv.set hj hjn) (fun k ok hk hki hun2 hno => ?_) (ready_mono hr (Ne.symm e)) hb.1 ?_) hsw
      · refine hfree k ok hk hki ?_ hno
        by_cases hjk : j = k
        · subst hjk; exact hjun
        · rw [getD_set_ne true hjk] at hun2; exact hun2
      · rw [Array.setIfInBounds_comm _ _ e]
        exact hb.2
theorem anyM_text1 {n g : Nat} {Lq : Act → Prop} (hsel : Region.noSelect ops = true) (hs : sink1 md ops n = true) (hc : Region.chainB md ops n = true) (hn : n < ops.size) :
    ∀ (l : List Oper) (k : Nat) (listed : Array Bool) (a : Act), 1 ≤ k → (∀ j, j < l.length → l[j]? = ops[k + j]?) → k + l.length = n → HeadInv md ops n listed →
    Region.lexHead md ops g l.length k listed = true → wpL P ops C D Lq l a →
    anyM P md ops C D n (fun listed2 a2 => Region.seqB md ops g n listed2 = true ∧ Lq a2) l.length listed a
  | [], k, listed, a, _, _, hk, _, hB, h => by
    have : k = n := by simpa using hk
    subst this
    exact ⟨by simpa [Region.lexHead] using hB, h⟩
  | o :: l, k, listed, a, hk1, hl, hk, inv, hB, h => by
    have h0 : ops[k]? = some o := by simpa using (hl 0 (by simp)).symm
    simp only [List.length_cons, Region.lexHead, Bool.and_eq_true] at hB
    obtain ⟨⟨hr, hf⟩, hB2⟩ := hB
    have hkn : k < n := by simp only [List.length_cons] at hk; omega
    have hr2 : k ∈ Region.ready md ops listed := by simpa using hr
    have hst : at1 P ops C D k (wpL P ops C D Lq l) a := by unfold at1; rw [h0]; exact h
    obtain ⟨v, hy, hK⟩ := Yl_of_at1 h0 hst
    exact anyM_first1 h0 (Region.noSelect_spec hsel) hs hc hn hkn hk1 (fun listed2 a2 hL => seqB_ready hL.1) l.length listed a inv (Region.free_spec h0 hf) hr2 hy
      (anyM_text1 hsel hs hc hn l (k + 1) _ _ (by omega) (fun j hj => by have := hl (j + 1) (by simp; omega); simpa [Nat.add_assoc, Nat.add_comm 1 j] using this) (by simp only [List.length_cons] at hk; omega) (inv.set hr2 hkn) hB2 hK)
theorem held_of_any {Q : Exit → Act → World → Prop} : ∀ (fuel : Nat) (listed : Array Bool) (a : Act) (w : World), wpAny P md ops Q fuel listed a w → wpAnyH P md ops Q (fun _ => True) fuel listed a w
  | 0, _, _, _, h => h
  | fuel + 1, _, _, _, h => ⟨h.1, fun i hi => wpOp_mono (fun a' w' h' => ⟨trivial, held_of_any fuel _ a' w' h'⟩) (h.2 i hi)⟩
def lexF (ops : Array Oper) (n : Nat) : Bool :=
  Region.noSelect ops && decide (n < ops.size) && decide (1 ≤ n) && sink1 .any ops n && Region.chainB .any ops n && Region.free .any ops (Array.replicate ops.size false) 0 && (Region.ready .any ops (Array.replicate ops.size false)).contains 0
    && Region.lexHead .any ops (ops.size - n) (n - 1) 1 ((Array.replicate ops.size false).setIfInBounds 0 true)
end
theorem wp_looseF_tail {P : Program} {id : Nat} {Q : Exit → Act → World → Prop} {a : Act} {w : World} {o : Oper} {l : List Oper} (ds : List Nat) (n : Nat) (x : Operand) (hop : o.op = .move x) (hg : o.guard = none) (hm : P.follows .mixedOrders = true) (hB : lexF (o :: l).toArray n = true)
    (hQ : ∀ c b v, Q (.panic c) (b.put o.dst (a.eval x)) v → Q (.panic c) b v)
    (h : wpL P (o :: l).toArray (fun v => ∃ n, v = w.drewN n) (fun i => ds.contains i) (fun a2 => After ds a2 fun b m => wpList P (o :: l).toArray Q ((o :: l).drop n) b (w.drewN m)) (l.take (n - 1)) (a.put o.dst (a.eval x))) : (Code.region id (o :: l).toArray true).wp P Q a w := by
  simp only [lexF, Bool.and_eq_true, decide_eq_true_eq] at hB
  obtain ⟨⟨⟨⟨⟨⟨⟨hsel, hn⟩, hn1⟩, hs⟩, hc⟩, hf⟩, hr⟩, hlex⟩ := hB
  have hn2 : n < l.length + 1 := by simpa using hn
  have htl : (l.take (n - 1)).length = n - 1 := by simp; omega
  have hdl : ((o :: l).drop n).length = (o :: l).toArray.size - n := by simp
  have inv0 : HeadInv .any (o :: l).toArray n (Array.replicate (o :: l).toArray.size false) :=
    ⟨by simp, fun j oj _ hl => (by rw [getD_replicate_false] at hl; cases hl), fun t _ ht => getD_in (by simpa using ht) (getD_replicate_false _ _)⟩
  have inv1 := inv0.set (i := 0) (by simpa using hr) (by omega)
  have H := anyM_text1 (md := .any) (g := (o :: l).toArray.size - n) hsel hs hc hn (l.take (n - 1)) 1 _ _ (Nat.le_refl _) (fun j hj => by
    have hj2 : j < n - 1 := by rw [htl] at hj; exact hj
    rw [Nat.add_comm 1 j]
    simp [hj2]) (by rw [htl]; omega) inv1 (by rw [htl]; exact hlex) h
  refine wp_region_held (S := fun _ => True) hm ?_
  have hsz : (o :: l).toArray.size = (n - 1 + ((o :: l).toArray.size - n)) + 1 := by omega
  rw [hsz]
  refine wpAnyH_take (i := 0) (oi := o) (v := a.eval x) (by simp) hsel (by rw [← hsz]; exact hf) (by rw [← hsz]; exact hr) hQ (.inl ⟨wanted_none hg _, fun w2 _ => BigFrame.run_move x hop w2⟩) trivial (held_of_any _ _ _ _ ?_)
  rw [← hsz]
  have := wpAny_of_anyM (Q2 := Q) (g := (o :: l).toArray.size - n) (fun listed a2 b w2 hw hab hL => by
    obtain ⟨m, rfl⟩ := hw
    have := wpAny_of_seq (md := .any) (Q' := Q) ((o :: l).drop n) n listed b (w.drewN m) (fun j => by simp [List.getElem?_drop]) (by rw [hdl]; exact hL.1) (hL.2 b hab m)
    rwa [hdl] at this) _ _ _ _ { w with drawn := w.drawn + 1 } ⟨1, rfl⟩ (AR.refl _ _) H
  rw [htl] at this
  exact this
end Lo
end Go.Proofs.Ytecgipilamefmaa

/- Meters: the power of differences, both sides. -/
set_option linter.unusedVariables false
set_option linter.unusedSimpArgs false
namespace Go.Proofs.Ytecgipilamefmaa
open Fl Go.RowKit
/-- the dot of values with themselves -/
def dotY (X : Nat → O) : Nat → O
  | 0 => some 0
  | k + 1 => ad (dotY X k) (mu (X k) (X k))
theorem dotO_dotY {xs : List Nat} {X : Nat → O} : ∀ {n : Nat}, (∀ k, k < n → ab .f32 (wd xs k) = X k) → dotO xs xs n = dotY X n
  | 0, _ => rfl
  | n + 1, h => by
    show opO .add .f32 (dotO xs xs n) (opO .mul .f32 (ab .f32 (wd xs n)) (ab .f32 (wd xs n))) = ad (dotY X n) (mu (X n) (X n))
    rw [dotO_dotY (n := n) fun k hk => h k (by omega), h n (by omega)]
def difY (X : Nat → O) (lag k : Nat) : O := su (X k) (X (k + lag))
def lagY (X : Nat → O) (lag count : Nat) : O := dotY (difY X lag) count
theorem lag_in {count lag : Int} {n : Nat} (h1 : inB count 1 n = true) (h2 : inB lag 0 (n - count) = true) : ∃ c l : Nat, count = c ∧ lag = l ∧ 1 ≤ c ∧ c + l ≤ n := by
  simp only [inB, Bool.and_eq_true, decide_eq_true_eq] at h1 h2
  exact ⟨count.toNat, lag.toNat, by omega, by omega, by omega, by omega⟩
def okLag (n : Nat) (lag count : Int) : Bool := decide (n ≤ 256) && inB count 1 n && inB lag 0 (n - count)
end Go.Proofs.Ytecgipilamefmaa

/- Meters: the power of differences, the program. -/
set_option linter.unusedVariables false
set_option linter.unusedSimpArgs false
namespace Go.Proofs.Ytecgipilamefmaa
open Fl Go.RowKit
theorem okLag_impl (n : Nat) (lag count : Int) : okLag n lag count = (decide (n ≤ 256) && inB count 1 256 && inB lag 0 (n - count)) := by
  unfold okLag inB
  rw [Bool.eq_iff_iff]
  simp only [Bool.and_eq_true, decide_eq_true_eq]
  omega
end Go.Proofs.Ytecgipilamefmaa

/- Meters: two channels: how alike, and which is louder. -/
set_option linter.unusedVariables false
set_option linter.unusedSimpArgs false
namespace Go.Proofs.Ytecgipilamefmaa
open Fl Go.RowKit
def okTwo (n m : Nat) : Bool := decide (n ≤ 256) && decide (0 < n) && decide (n = m)
def likeO (xs ys : List Nat) (n : Nat) : O := qu (dotO xs ys n) (rootO (mu (dotO xs xs n) (dotO ys ys n)))
def balO (L R : O) : O := if eqO (ad R L) (some 0) then some 0 else qu (su R L) (ad R L)
theorem okTwo_yes {n m : Nat} (h : okTwo n m = true) : n ≤ 256 ∧ 0 < n ∧ n = m := by unfold okTwo at h; simpa [and_assoc] using h
theorem okTwo_mean {n m : Nat} (h : okTwo n m = true) (xs : List Nat) : meanR xs n = meanO xs n ∧ meanB n = true := by
  obtain ⟨h1, h2, rfl⟩ := okTwo_yes h
  exact ⟨meanR_yes h1 h2, by unfold meanB; rw [decide_eq_true h1, decide_eq_true h2]; rfl⟩
end Go.Proofs.Ytecgipilamefmaa

/- Rows of values of one cell each, of any type, that a loop appends to. -/
set_option linter.unusedVariables false
set_option linter.unusedSimpArgs false
namespace Go.Proofs.Ytecgipilamefmaa
open Fl Go.RowKit
/-- v is a row of the loop's own, from block lo on, whose k values are f -/
def Rv (T : TypeId) (lo : Nat) (w : World) (v : Value) (k : Nat) (f : Nat → Value) : Prop := ∃ os, w.ownsRow lo T 1 v k os ∧ ∀ j, j < k → os[j]? = some (f j)
theorem Rv.start (T : TypeId) (w : World) (lo : Nat) (h : lo ≤ w.heap.size) (f : Nat → Value) : Rv T lo (w.alloc (.cells #[] T)) (.slice (some ⟨w.heap.size, 0, none⟩) 0 0) 0 f :=
  ⟨[], ⟨rfl, .inr ⟨w.heap.size, 0, #[], rfl, h, Go.Deep.blk_alloc_new _ _, Nat.le_refl _, Nat.zero_le _, rfl, rfl⟩⟩, fun j hj => by omega⟩
theorem Rv.nil_ (T : TypeId) (w : World) (lo : Nat) (f : Nat → Value) : Rv T lo w (.slice none 0 0) 0 f := ⟨[], ⟨rfl, .inl ⟨rfl, rfl⟩⟩, fun j hj => by omega⟩
theorem Rv.keep {T : TypeId} {lo : Nat} {w w' : World} {v : Value} {k : Nat} {f : Nat → Value} (h : Rv T lo w v k f) (e : ∀ b, lo ≤ b → b < w.heap.size → w'.heap[b]? = w.heap[b]?) : Rv T lo w' v k f := by
  obtain ⟨os, ⟨h1, h2⟩, hs⟩ := h
  refine ⟨os, ⟨h1, ?_⟩, hs⟩
  rcases h2 with h2 | ⟨g, cap, cur, e1, h3, h4, r⟩
  · exact .inl h2
  · exact .inr ⟨g, cap, cur, e1, h3, (e g h3 (Array.getElem?_eq_some_iff.1 h4).1).trans h4, r⟩
theorem Rv.since {T : TypeId} {lo : Nat} {w w' : World} {v : Value} {k : Nat} {f : Nat → Value} (h : Rv T lo w v k f) (s : w.Since w.heap.size w') : Rv T lo w' v k f := h.keep fun b _ hb => s.block b hb
theorem Rv.drewN {T : TypeId} {lo : Nat} {w : World} {v : Value} {k : Nat} {f : Nat → Value} (h : Rv T lo w v k f) (n : Nat) : Rv T lo (w.drewN n) v k f := h
theorem Rv.alloc {T : TypeId} {lo : Nat} {w : World} {v : Value} {k : Nat} {f : Nat → Value} (h : Rv T lo w v k f) (o : Obj) : Rv T lo (w.alloc o) v k f := h.since ((World.Since.refl _ _).alloc (Nat.le_refl _) _)
/-- what it is in the end -/
theorem Rv.done {T : TypeId} {lo : Nat} {w : World} {v : Value} {k : Nat} {f : Nat → Value} (h : Rv T lo w v k f) :
    ∃ (A : Option Addr) (c : Nat), v = .slice A k c ∧ k ≤ c ∧ (0 < k → ∃ g cs, A = some ⟨g, 0, none⟩ ∧ lo ≤ g ∧ w.heap[g]? = some (.cells cs T (0, 0)) ∧ ∀ j, j < k → cs[j]? = some (f j)) := by
  obtain ⟨os, ⟨h1, h2⟩, hf⟩ := h
  rcases h2 with ⟨rfl, rfl⟩ | ⟨g, cap, cur, rfl, hg, hb, hnc, _, hsz, htk⟩
  · exact ⟨none, 0, rfl, Nat.le_refl _, fun h => by omega⟩
  · refine ⟨_, cap, rfl, hnc, fun _ => ⟨g, cur, rfl, hg, hb, fun j hj => ?_⟩⟩
    rw [← hf j hj, ← htk, List.getElem?_take_of_lt (by omega), Array.getElem?_toList]
theorem own_loV {T : TypeId} {w : World} {lo n s : Nat} {v : Value} {xs : List Value} (h : w.ownsRow lo T s v n xs) : ∀ b, v.ownBlock = some b → lo ≤ b := by
  intro b hb
  rcases h.2 with ⟨rfl, _⟩ | ⟨g, cap, cur, rfl, hg, _⟩
  · simp [Value.ownBlock] at hb
  · simp [Value.ownBlock] at hb; omega
theorem wpList_appV {ops : Array Oper} {rest : List Oper} {o : Oper} {a : Act} {Q : Exit → Act → World → Prop} {w : World} (hgd : o.guard = none) (s x : Operand) (S T : TypeId) (z : Value) (bytes : Nat)
    (ho : o.op = .call { callee := .builtin .append, args := #[s, x], argTypes := #[S, S] }) (hund : Try.prog.underlying S = some (.slice T)) (hinfo : (Try.prog.info? T).map (fun i => (i.zero, i.size, i.bytes)) = some (some z, 1, bytes)) (hz : z.cells.size = 1) (hb64 : bytes ≤ 64)
    (lo : Nat) (v : Value) (k : Nat) (f : Nat → Value) (hs : a.eval s = v) (b : Nat) (u : Value)
    (hx : a.eval x = .slice (some ⟨b, 0, none⟩) 1 1) (hc : w.cell? ⟨b, 0, none⟩ = some u) (h1 : u.oneCell' = true) (hk : k < 1048576) (hlo : lo ≤ w.heap.size) (hf : u = f k) (hR : Rv T lo w v k f)
    (h : ∀ v' w', Hid (Rv T lo w' v' (k + 1) f) → Hid (w.Since lo w') → wpList Try.prog ops Q rest (a.put o.dst v') w') : wpList Try.prog ops Q (o :: rest) a w := by
  obtain ⟨os, hown, hj⟩ := hR
  obtain ⟨i0, hi, hz0, hz1, hz2⟩ := info_parts hinfo
  have hlen : os.length = k := by simpa using hown.1
  refine wpList_append_own (P := Try.prog) w hgd s x S ho lo T i0 z 1 bytes hund hi hz0 hz1 hz2 hz (by omega) v k os hs hown ⟨b, 0, none⟩ 1 1 [u] hx rfl ?_ ?_ ?_ ?_ hlo ?_
  · intro j y hjj
    rcases j with _ | j
    · simp at hjj; subst hjj; simpa [Addr.add] using hc
    · simp at hjj
  · intro y hy; simp at hy; subst hy; exact h1
  · unfold maxLen; omega
  · have : (k + 1) * bytes ≤ 1048576 * 64 := Nat.mul_le_mul (by omega) hb64
    omega
  · intro v' w' hown' hg _
    refine h v' w' (Lib.hid ⟨os ++ [u], hown', fun j hjk => ?_⟩) (Lib.hid ⟨hg.os, hg.tape, hg.output, hg.size, fun i hi => ?_⟩)
    · by_cases e : j < k
      · rw [List.getElem?_append_left (by omega)]; exact hj j e
      · obtain rfl : j = k := by omega
        rw [List.getElem?_append_right (by omega), hlen, Nat.sub_self]; simpa using hf
    · refine hg.block i (by omega) fun e => ?_
      have := own_loV hown i e.symm
      omega
end Go.Proofs.Ytecgipilamefmaa

/- Meters: powers of windows: the model. -/
set_option linter.unusedVariables false
set_option linter.unusedSimpArgs false
namespace Go.Proofs.Ytecgipilamefmaa
open Fl Go.RowKit
theorem wd_part {xs : List Nat} {k t j : Nat} (hj : j < t) : wd ((xs.drop k).take t) j = wd xs (k + j) := by
  unfold wd
  simp only [List.getD_eq_getElem?_getD]
  rw [List.getElem?_take_of_lt hj, List.getElem?_drop]
theorem Fs.part {w : World} {B N k t : Nat} {g off : Nat} {xs : List Nat} (h : Fs w B (some ⟨g, off, none⟩) N xs) (hk : k + t ≤ N) : Fs w B (some ⟨g, off + k, none⟩) t ((xs.drop k).take t) := by
  obtain ⟨hl, hs, hc⟩ := h
  refine ⟨by rw [List.length_take, List.length_drop]; omega, fun x hx => hs x (List.mem_of_mem_drop (List.mem_of_mem_take hx)), fun ht => ?_⟩
  obtain ⟨g', off', e, hg, hcc⟩ := hc (by omega)
  cases e
  refine ⟨g, off + k, rfl, hg, fun j hj => ?_⟩
  have := hcc (k + j) (by omega)
  rw [← Nat.add_assoc] at this
  rw [this]
  unfold fv; rw [wd_part hj]
/-- how many windows there are -/
def winN (n size hop : Nat) : Nat := if size ≤ n then (n - size) / hop + 1 else 0
theorem win_iff {n size hop k : Nat} (hh : 1 ≤ hop) : k * hop + size ≤ n ↔ k < winN n size hop := by
  unfold winN
  by_cases h : size ≤ n
  · rw [if_pos h]
    have h1 := Nat.le_div_iff_mul_le (x := k) (y := n - size) (k := hop) (by omega)
    constructor
    · intro h2
      have := h1.2 (by omega)
      omega
    · intro h2
      have := h1.1 (by omega)
      omega
  · rw [if_neg h]
    constructor
    · intro h2; have := Nat.zero_le (k * hop); omega
    · intro h2; omega
theorem winN_le {n size hop : Nat} (hs : 1 ≤ size) : winN n size hop ≤ n := by
  unfold winN
  split
  · have := Nat.div_le_self (n - size) hop
    omega
  · omega
def powY (X : Nat → O) (size hop k : Nat) : O := qu (dotY (fun j => X (k * hop + j)) size) (some (fI size))
def okWin (n : Nat) (size hop : Int) : Bool := decide (n ≤ 256) && inB size 1 256 && inB hop 1 256
theorem okWin_yes {n : Nat} {size hop : Int} (h : okWin n size hop = true) : n ≤ 256 ∧ ∃ s p : Nat, size = s ∧ hop = p ∧ 1 ≤ s ∧ s ≤ 256 ∧ 1 ≤ p ∧ p ≤ 256 := by
  unfold okWin inB at h
  simp only [Bool.and_eq_true, decide_eq_true_eq] at h
  exact ⟨by omega, size.toNat, hop.toNat, by omega, by omega, by omega, by omega, by omega, by omega⟩
end Go.Proofs.Ytecgipilamefmaa

/- Meters: powers of windows: the program. -/
set_option linter.unusedVariables false
set_option linter.unusedSimpArgs false
namespace Go.Proofs.Ytecgipilamefmaa
open Fl Go.RowKit
theorem Try.infoSl : (Try.prog.info? 36).map (fun i => (i.zero, i.size, i.bytes)) = some (some (.slice none 0 0), 1, 24) := by kernel_rfl
/-- the window j of a list that lies at A -/
def fwin (A : Option Addr) (size hop j : Nat) : Value := .slice (A.map fun a => ⟨a.block, a.off + j * hop, none⟩) size size
theorem dotO_ex (xs ys : List Nat) (hx : Small xs) (hy : Small ys) : ∀ n, ∃ q, Fv .f32 q (dotO xs ys n)
  | 0 => ⟨0, fv32z⟩
  | n + 1 => by
    obtain ⟨q, hq⟩ := dotO_ex xs ys hx hy n
    obtain ⟨r, hr⟩ := Lo.fv_ex (op := .mul) rfl .f32 _ _ _ _ ⟨hx.at_ n, rfl⟩ ⟨hy.at_ n, rfl⟩
    exact Lo.fv_ex (op := .add) rfl .f32 _ _ _ _ hq hr
end Go.Proofs.Ytecgipilamefmaa

/- Meters: WindowPowers, the program. -/
set_option linter.unusedVariables false
set_option linter.unusedSimpArgs false
namespace Go.Proofs.Ytecgipilamefmaa
open Fl Go.RowKit
theorem Fs.fwin {w : World} {B n size hop k : Nat} {A : Option Addr} {xs : List Nat} (h : Fs w B A n xs) (hk : k * hop + size ≤ n) (hs : 1 ≤ size) : ∃ A', fwin A size hop k = .slice A' size size ∧ Fs w B A' size ((xs.drop (k * hop)).take size) := by
  obtain ⟨g, off, rfl, _, _⟩ := h.2.2 (by omega)
  exact ⟨_, rfl, Fs.part h hk⟩
end Go.Proofs.Ytecgipilamefmaa

/- What a law holds: entries, each with the blocks it lies in, apart from one another. Lists of floats and of integers anywhere in a block. -/
set_option linter.unusedVariables false
set_option linter.unusedSimpArgs false
namespace Go.Proofs.Ytecgipilamefmaa
namespace Fl
/-- an entry: what it says of a world, and the blocks that it speaks of -/
structure En where
  P : World → Prop
  S : Nat → Prop
/-- it lies in blocks of the law's own, from B on, and speaks of these alone -/
def Ge (B : Nat) (w : World) (e : En) : Prop := e.P w ∧ (∀ w w' : World, (∀ g, e.S g → w'.heap[g]? = w.heap[g]?) → e.P w → e.P w') ∧ ∀ g, e.S g → B ≤ g ∧ g < w.heap.size
section
variable {B : Nat} {v v' : World} {p q : En} {r : List En}
theorem Ge.keep (h : Ge B v p) (hs : ∀ g, p.S g → v'.heap[g]? = v.heap[g]?) (hz : v.heap.size ≤ v'.heap.size) : Ge B v' p :=
  ⟨h.2.1 v v' hs h.1, h.2.1, fun g hg => ⟨(h.2.2 g hg).1, Nat.lt_of_lt_of_le (h.2.2 g hg).2 hz⟩⟩
theorem Ge.since (h : Ge B v p) (hs : v.Since v.heap.size v') : Ge B v' p := h.keep (fun g hg => hs.block g (h.2.2 g hg).2) hs.size
theorem Ge.less {b : Nat} (h : Ge B v p) (hb : b ≤ B) : Ge b v p := ⟨h.1, h.2.1, fun g hg => ⟨Nat.le_trans hb (h.2.2 g hg).1, (h.2.2 g hg).2⟩⟩
/-- two entries lie in different blocks -/
def De (p q : En) : Prop := ∀ g, p.S g → q.S g → False
theorem De.symm (h : De p q) : De q p := fun g a b => h g b a
def He (B : Nat) (v : World) : List En → Prop
  | [] => True
  | p :: r => (Ge B v p ∧ ∀ q ∈ r, De p q) ∧ He B v r
theorem He.at_ : ∀ {r : List En} (h : He B v r) {p : En}, p ∈ r → Ge B v p
  | _ :: _, h, _, .head _ => h.1.1
  | _ :: _, h, _, .tail _ hp => He.at_ h.2 hp
theorem He.since : ∀ {r : List En} (h : He B v r) (hs : v.Since v.heap.size v'), He B v' r
  | [], _, _ => trivial
  | _ :: _, h, hs => ⟨⟨h.1.1.since hs, h.1.2⟩, He.since h.2 hs⟩
theorem He.less {b : Nat} : ∀ {r : List En} (h : He B v r) (hb : b ≤ B), He b v r
  | [], _, _ => trivial
  | _ :: _, h, hb => ⟨⟨h.1.1.less hb, h.1.2⟩, He.less h.2 hb⟩
theorem He.new (h : He B v r) (hs : v.Since v.heap.size v') (g : Ge v.heap.size v' p) (hB : B ≤ v.heap.size) : He B v' (p :: r) :=
  ⟨⟨g.less hB, fun q hq b h1 h2 => by
    have h3 := (g.2.2 b h1).1
    have h4 := ((h.at_ hq).2.2 b h2).2
    omega⟩, h.since hs⟩
theorem He.new2 (h : He B v r) (hs : v.Since v.heap.size v') (g : Ge v.heap.size v' p) (k : Ge v.heap.size v' q) (hd : De p q) (hB : B ≤ v.heap.size) : He B v' (p :: q :: r) := by
  have h1 := h.new hs g hB
  have h2 := h.new hs k hB
  refine ⟨⟨h1.1.1, fun s hs => ?_⟩, h2⟩
  rcases List.mem_cons.1 hs with rfl | hs
  · exact hd
  · exact h1.1.2 s hs
theorem He.mark_hd {p' : En} (h : He B v (p :: r)) (g : Ge B v' p') (hS : p'.S = p.S) (ho : ∀ g, ¬ p.S g → v'.heap[g]? = v.heap[g]?) (hz : v.heap.size ≤ v'.heap.size) : He B v' (p' :: r) := by
  refine ⟨⟨g, fun q hq b h1 h2 => h.1.2 q hq b (hS ▸ h1) h2⟩, ?_⟩
  have hd := h.1.2
  have ht := h.2
  clear h
  induction r with
  | nil => trivial
  | cons q r ih =>
    refine ⟨⟨?_, ht.1.2⟩, ih (fun q' hq' => hd q' (.tail _ hq')) ht.2⟩
    exact ht.1.1.keep (fun b hb => ho b fun hp => hd q (.head _) b hp hb) hz
theorem He.swap (h : He B v (p :: q :: r)) : He B v (q :: p :: r) := by
  obtain ⟨⟨h1, h2⟩, ⟨h3, h4⟩, h5⟩ := h
  refine ⟨⟨h3, fun s hs => ?_⟩, ⟨h1, fun s hs => h2 s (.tail _ hs)⟩, h5⟩
  rcases List.mem_cons.1 hs with rfl | hs
  · exact (h2 q (.head _)).symm
  · exact h4 s hs
theorem He.front {l : List En} : ∀ (k : List En), He B v (k ++ p :: l) → He B v (p :: (k ++ l))
  | [], h => h
  | q :: k, h => by
    have h2 : He B v (p :: (k ++ l)) := He.front k h.2
    have h3 : He B v (q :: p :: (k ++ l)) := ⟨⟨h.1.1, fun s hs => h.1.2 s (by
      rcases List.mem_cons.1 hs with rfl | hs
      · simp
      · rcases List.mem_append.1 hs with h4 | h4
        · simp [h4]
        · simp [h4])⟩, h2⟩
    exact h3.swap
end
/-- cells of one block: their type, where they begin, how many, what they are -/
def ce (T : TypeId) (A : Option Addr) (n : Nat) (f : Nat → Value) (ok : Prop) : En :=
  ⟨fun w => ok ∧ (0 < n → ∃ g off cs, A = some ⟨g, off, none⟩ ∧ w.heap[g]? = some (.cells cs T (0, 0)) ∧ ∀ k, k < n → cs[off + k]? = some (f k)), fun g => 0 < n ∧ ∃ off, A = some ⟨g, off, none⟩⟩
theorem ce_frame {T : TypeId} {A : Option Addr} {n : Nat} {f : Nat → Value} {ok : Prop} (w w' : World) (h : ∀ g, (ce T A n f ok).S g → w'.heap[g]? = w.heap[g]?) (hp : (ce T A n f ok).P w) : (ce T A n f ok).P w' :=
  ⟨hp.1, fun hn => by
    obtain ⟨g, off, cs, e, hb, hc⟩ := hp.2 hn
    exact ⟨g, off, cs, e, (h g ⟨hn, off, e⟩).trans hb, hc⟩⟩
theorem ce_ge {T : TypeId} {A : Option Addr} {n B : Nat} {f : Nat → Value} {ok : Prop} {w : World} (ho : ok) (h : 0 < n → ∃ g off cs, A = some ⟨g, off, none⟩ ∧ B ≤ g ∧ w.heap[g]? = some (.cells cs T (0, 0)) ∧ ∀ k, k < n → cs[off + k]? = some (f k)) : Ge B w (ce T A n f ok) :=
  ⟨⟨ho, fun hn => by obtain ⟨g, off, cs, e, _, hb, hc⟩ := h hn; exact ⟨g, off, cs, e, hb, hc⟩⟩, ce_frame, fun g ⟨hn, off, e⟩ => by
    obtain ⟨g', off', cs, e', hB, hb, hc⟩ := h hn
    rw [e] at e'
    injection e' with e'
    injection e' with e' _ _
    subst e'
    exact ⟨hB, (Array.getElem?_eq_some_iff.1 hb).1⟩⟩
theorem Ge.ce {T : TypeId} {A : Option Addr} {n B : Nat} {f : Nat → Value} {ok : Prop} {w : World} (h : Ge B w (ce T A n f ok)) (hn : 0 < n) : ∃ g off cs, A = some ⟨g, off, none⟩ ∧ B ≤ g ∧ g < w.heap.size ∧ w.heap[g]? = some (.cells cs T (0, 0)) ∧ ∀ k, k < n → cs[off + k]? = some (f k) := by
  obtain ⟨g, off, cs, e, hb, hc⟩ := h.1.2 hn
  have := h.2.2 g ⟨hn, off, e⟩
  exact ⟨g, off, cs, e, this.1, this.2, hb, hc⟩
def fe (A : Option Addr) (n : Nat) (xs : List Nat) : En := ce 22 A n (fv xs) (xs.length = n ∧ Small xs)
def ie (A : Option Addr) (n : Nat) (xs : List Int) : En := ce 2 A n (iv xs) (xs.length = n)
theorem Gs.toE {w : World} {lo n : Nat} {A : Option Addr} {xs : List Nat} (h : Gs 22 w lo A n xs) : Ge lo w (fe A n xs) :=
  ce_ge ⟨h.1, h.2.1⟩ fun hn => by
    obtain ⟨g, cs, e, hg, hb, hc⟩ := h.2.2 hn
    exact ⟨g, 0, cs, e, hg, hb, fun k hk => by rw [Nat.zero_add]; exact hc k hk⟩
theorem IGs.toE {w : World} {lo n : Nat} {A : Option Addr} {xs : List Int} (h : IGs 2 w lo A n xs) : Ge lo w (ie A n xs) :=
  ce_ge h.1 fun hn => by
    obtain ⟨g, cs, e, hg, hb, hc⟩ := h.2 hn
    exact ⟨g, 0, cs, e, hg, hb, fun k hk => by rw [Nat.zero_add]; exact hc k hk⟩
theorem Ge.readF {w : World} {lo n : Nat} {A : Option Addr} {xs : List Nat} (h : Ge lo w (fe A n xs)) : Fs w w.heap.size A n xs :=
  ⟨h.1.1.1, h.1.1.2, fun hn => by
    obtain ⟨g, off, cs, e, hg, hl, hb, hc⟩ := h.ce hn
    refine ⟨g, off, e, hl, fun k hk => ?_⟩
    simp only [World.cell?, hb]
    simpa using hc k hk⟩
theorem Ge.readI {w : World} {lo n : Nat} {A : Option Addr} {xs : List Int} (h : Ge lo w (ie A n xs)) : Is w w.heap.size A n xs :=
  ⟨h.1.1, fun hn => by
    obtain ⟨g, off, cs, e, hg, hl, hb, hc⟩ := h.ce hn
    refine ⟨g, off, e, hl, fun k hk => ?_⟩
    simp only [World.cell?, hb]
    simpa using hc k hk⟩
end Fl
open Fl Go.RowKit
end Go.Proofs.Ytecgipilamefmaa

/- Boxes of a law; two lists given back. -/
set_option linter.unusedVariables false
set_option linter.unusedSimpArgs false
namespace Go.Proofs.Ytecgipilamefmaa
open Fl Go.RowKit
/-- a struct in a box of its own -/
def bxv (T : TypeId) (g : Nat) (vs : List Value) : En := ⟨fun w => w.heap[g]? = some (.cells vs.toArray T (0, 0)), fun b => b = g⟩
def bxf (T : TypeId) (g : Nat) (xs : List Nat) : En := bxv T g (xs.map fun x => Value.float .f32 x)
theorem Fl.Ge.boxv {w : World} {T : TypeId} {lo g : Nat} {vs : List Value} (h : Ge lo w (bxv T g vs)) (i : Nat) (v : Value) (hi : vs[i]? = some v) : w.cell? ⟨g, i, none⟩ = some v := by
  have h1 : w.heap[g]? = some (.cells vs.toArray T (0, 0)) := h.1
  simp only [World.cell?, h1]
  simpa using hi
theorem Fl.Ge.box {w : World} {T : TypeId} {lo g : Nat} {xs : List Nat} (h : Ge lo w (bxf T g xs)) (i : Nat) (hi : i < xs.length) : w.cell? ⟨g, i, none⟩ = some (.float .f32 (wd xs i)) :=
  Ge.boxv h i _ (by rw [List.getElem?_map, List.getElem?_eq_getElem hi]; simp [wd, List.getD_eq_getElem?_getD, List.getElem?_eq_getElem hi])
theorem boxv_ge (v : World) (T : TypeId) (vs : List Value) : Ge v.heap.size (v.alloc (.cells vs.toArray T)) (bxv T v.heap.size vs) :=
  ⟨Go.Deep.blk_alloc_new _ _, fun w w' h hp => (h _ rfl).trans hp, fun g hg => by
    have hg' : g = v.heap.size := hg
    subst hg'
    exact ⟨Nat.le_refl _, by simp⟩⟩
theorem boxw (v : World) (T : TypeId) (vs : List Value) : ∃ V, V = v.alloc (.cells vs.toArray T) ∧ v.Since v.heap.size V ∧ Ge v.heap.size V (bxv T v.heap.size vs) :=
  ⟨_, rfl, (World.Since.refl _ _).alloc (Nat.le_refl _) _, boxv_ge v T vs⟩
theorem boxe (v : World) (T : TypeId) (xs : List Nat) : ∃ V, V = v.alloc (.cells (xs.map fun x => Value.float .f32 x).toArray T) ∧ v.Since v.heap.size V ∧ Ge v.heap.size V (bxf T v.heap.size xs) :=
  boxw v T _
def PEB (n0 : Nat) (f0 : Nat → O) (b : Bool) (w : World) (e : Ending) (w' : World) : Prop :=
  ∃ (p : Ls) (c : Nat), e = .returned (.tuple #[.slice p.A p.n c, .bool b]) ∧ p.n = n0 ∧ Ge w.heap.size w' (fe p.A p.n p.xs) ∧ Are p f0 ∧ w.Since w.heap.size w'
theorem PEB.none_ {w w' : World} (s : w.Since w.heap.size w') (f0 : Nat → O) : PEB 0 f0 false w (.returned (.tuple #[.slice none 0 0, .bool false])) w' :=
  ⟨⟨none, 0, []⟩, 0, rfl, rfl, Gs.nil_.toE, (fun k hk => by simp at hk), s⟩
theorem PLB.toE {n0 : Nat} {f0 : Nat → O} {b : Bool} {w w' : World} {e : Ending} (h : PLB n0 f0 b w e w') : PEB n0 f0 b w e w' := by
  obtain ⟨p, c, h1, h2, h3, h4, h5⟩ := h
  exact ⟨p, c, h1, h2, h3.toE, h4, h5⟩
/-- two lists and a yes or no -/
def PEEB (n0 : Nat) (f0 : Nat → O) (n1 : Nat) (f1 : Nat → O) (b : Bool) (w : World) (e : Ending) (w' : World) : Prop :=
  ∃ (p q : Ls) (c d : Nat), e = .returned (.tuple #[.slice p.A p.n c, .slice q.A q.n d, .bool b]) ∧ p.n = n0 ∧ q.n = n1 ∧ Ge w.heap.size w' (fe p.A p.n p.xs) ∧ Ge w.heap.size w' (fe q.A q.n q.xs) ∧ Are p f0 ∧ Are q f1 ∧ De (fe p.A p.n p.xs) (fe q.A q.n q.xs) ∧ w.Since w.heap.size w'
theorem PEEB.none_ {w w' : World} (s : w.Since w.heap.size w') (f0 f1 : Nat → O) : PEEB 0 f0 0 f1 false w (.returned (.tuple #[.slice none 0 0, .slice none 0 0, .bool false])) w' :=
  ⟨⟨none, 0, []⟩, ⟨none, 0, []⟩, 0, 0, rfl, rfl, rfl, Gs.nil_.toE, Gs.nil_.toE, (fun k hk => by simp at hk), (fun k hk => by simp at hk), (fun g h _ => by simp [fe, ce] at h), s⟩
end Go.Proofs.Ytecgipilamefmaa

/- Folds: rows of floats that whole lists are appended to; the model's fold. -/
set_option linter.unusedVariables false
set_option linter.unusedSimpArgs false
namespace Go.Proofs.Ytecgipilamefmaa
open Fl Go.RowKit
theorem fvl_app (xs ys : List Nat) : fvl xs ++ fvl ys = fvl (xs ++ ys) := by unfold fvl; simp
theorem wd_app (xs ys : List Nat) (j : Nat) : wd (xs ++ ys) j = if j < xs.length then wd xs j else wd ys (j - xs.length) := by
  unfold wd
  split
  · next h => simp [List.getD_eq_getElem?_getD, List.getElem?_append_left h]
  · next h => simp [List.getD_eq_getElem?_getD, List.getElem?_append_right (Nat.le_of_not_lt h)]
set_option maxRecDepth 100000 in
theorem wpList_appN {ops : Array Oper} {rest : List Oper} {o : Oper} {a : Act} {Q : Exit → Act → World → Prop} {w : World} (hgd : o.guard = none) (s x : Operand)
    (ho : o.op = .call { callee := .builtin .append, args := #[s, x], argTypes := #[36, 36] }) (lo : Nat) (v : Value) (k : Nat) (F : Nat → O) (hs : a.eval s = v) (A : Option Addr) (m c : Nat) (xs : List Nat) (B : Nat)
    (hx : a.eval x = .slice A m c) (hnone : A = none → m = 0 ∧ c = 0) (hA : Hid (Fs w B A m xs)) (hF : ∀ j, j < m → F (k + j) = ab .f32 (wd xs j)) (hk : k + m ≤ 1048576) (hlo : lo ≤ w.heap.size) (hR : Rw lo w v k F)
    (h : ∀ v' w', Hid (Rw lo w' v' (k + m) F) → Hid (w.Since lo w') → wpList Try.prog ops Q rest (a.put o.dst v') w') : wpList Try.prog ops Q (o :: rest) a w := by
  obtain ⟨os, h1, h2, h3⟩ := hR
  obtain ⟨i0, hi, hz0, hz1, hz2⟩ := info_parts Try.infoF
  have HA := hA.out
  cases A with
  | none =>
    obtain ⟨rfl, rfl⟩ := hnone rfl
    exact wpList_append_own_none (P := Try.prog) hgd s x 36 ho lo 22 i0 1 Try.underlying36 hi v k (fvl os) (by rw [hs]) h1 hx (h v w (Lib.hid ⟨os, h1, h2, h3⟩) (Lib.hid (World.Since.refl _ _)))
  | some ad =>
  refine wpList_append_own (P := Try.prog) w hgd s x 36 ho lo 22 i0 (.float .f32 0) 1 4 Try.underlying36 hi hz0 hz1 hz2 rfl (by omega) v k (fvl os) hs h1 ad m c (fvl xs) hx ?_ ?_ ?_ ?_ ?_ hlo ?_
  · rw [fvl, List.length_map, HA.1, Nat.mul_one]
  · intro j u hj
    have hlt : j < m := by
      have := (List.getElem?_eq_some_iff.1 hj).1
      rw [fvl, List.length_map, HA.1] at this; exact this
    obtain ⟨g, off, e, _, hc⟩ := HA.2.2 (by omega)
    injection e with e
    subst e
    have := hc j hlt
    rw [show (Addr.mk g off none).add j = ⟨g, off + j, none⟩ by simp [Addr.add], this]
    rw [← hj]
    unfold fvl fv wd
    simp [List.getD_eq_getElem?_getD, List.getElem?_eq_getElem (show j < xs.length by rw [HA.1]; exact hlt)]
  · intro u hu
    obtain ⟨x, _, rfl⟩ := List.mem_map.1 hu
    rfl
  · unfold maxLen; omega
  · omega
  · intro v' w' hown hg _
    have hyl : os.length = k := by simpa [fvl] using h1.1
    refine h v' w' (Lib.hid ⟨os ++ xs, ?_, fun x hx => ?_, fun j hj => ?_⟩) (Lib.hid ⟨hg.os, hg.tape, hg.output, hg.size, fun i hi => ?_⟩)
    · rw [← fvl_app]; exact hown
    · rcases List.mem_append.1 hx with h4 | h4
      · exact h2 x h4
      · exact HA.2.1 x h4
    · rw [wd_app, hyl]
      by_cases e : j < k
      · rw [if_pos e]; exact h3 j e
      · rw [if_neg e, ← hF (j - k) (by omega)]; congr 1; omega
    · refine hg.block i (by omega) fun e => ?_
      have := own_lo h1 i e.symm
      omega
theorem Rw.end_ {lo : Nat} {w : World} {v : Value} {k : Nat} {F : Nat → O} (h : Rw lo w v k F) : ∃ (A : Option Addr) (c : Nat) (xs : List Nat), v = .slice A k c ∧ k ≤ c ∧ (A = none → k = 0 ∧ c = 0) ∧ (∀ a, A = some a → ∃ g, a = ⟨g, 0, none⟩ ∧ lo ≤ g) ∧ Gs 22 w lo A k xs ∧ Are ⟨A, k, xs⟩ F := by
  obtain ⟨os, h1, hs, hf⟩ := h
  rcases h1.2 with ⟨rfl, rfl⟩ | ⟨g, cap, cur, rfl, hg, _, hk, _⟩
  · exact ⟨none, 0, os, rfl, Nat.le_refl _, fun _ => ⟨rfl, rfl⟩, (fun a h => by cases h), Gs.of_own h1 hs, hf⟩
  · exact ⟨some ⟨g, 0, none⟩, cap, os, rfl, hk, (fun h => by cases h), fun a h => by cases h; exact ⟨g, rfl, hg⟩, Gs.of_own h1 hs, hf⟩
theorem Fs.nil_ {w : World} {A : Option Addr} : Fs w 0 A 0 [] := ⟨rfl, (fun x hx => by cases hx), (fun h => by omega)⟩
/-- the last ones of a list -/
theorem Fs.tail {w : World} {B n m : Nat} {g off : Nat} {xs : List Nat} (h : Fs w B (some ⟨g, off, none⟩) (n + m) xs) : Fs w B (some ⟨g, off + n, none⟩) m (xs.drop n) :=
  ⟨by rw [List.length_drop, h.1]; omega, fun x hx => h.2.1 x (List.mem_of_mem_drop hx), fun hm => by
    obtain ⟨g', off', e, hg, hc⟩ := h.2.2 (by omega)
    injection e with e
    injection e with e1 e2 _
    subst e1; subst e2
    refine ⟨g, off + n, rfl, hg, fun k hk => ?_⟩
    have := hc (n + k) (by omega)
    rw [← Nat.add_assoc] at this
    rw [this]
    unfold fv wd
    simp [List.getD_eq_getElem?_getD]⟩
theorem wd_drop (xs : List Nat) (n k : Nat) : wd (xs.drop n) k = wd xs (n + k) := by unfold wd; simp [List.getD_eq_getElem?_getD]
def apO (xs ys : List Nat) (n j : Nat) : O := if j < n then ab .f32 (wd xs j) else ab .f32 (wd ys (j - n))
def fsum (T Z : Nat → O) (p : Nat) : Nat → O
  | 0 => some 0
  | k + 1 => opO .add .f32 (fsum T Z p k) (opO .mul .f32 (T k) (Z (p - k)))
def foldF (T Z : Nat → O) (l t i : Nat) : O := fsum T Z (l + i) t
def offO (Z : Nat → O) (n j : Nat) : O := Z (n + j)
def PEE (n0 : Nat) (f0 : Nat → O) (n1 : Nat) (f1 : Nat → O) (w : World) (e : Ending) (w' : World) : Prop :=
  ∃ (p q : Ls) (c d : Nat), e = .returned (.tuple #[.slice p.A p.n c, .slice q.A q.n d]) ∧ Hid (p.n = n0) ∧ Hid (q.n = n1) ∧ Hid (Ge w.heap.size w' (fe p.A p.n p.xs)) ∧ Hid (Ge w.heap.size w' (fe q.A q.n q.xs)) ∧ Hid (Are p f0) ∧ Hid (Are q f1) ∧ Hid (De (fe p.A p.n p.xs) (fe q.A q.n q.xs)) ∧ Hid (w.Since w.heap.size w')
end Go.Proofs.Ytecgipilamefmaa

/- slices.Clone, slices.IndexFunc, slices.DeleteFunc of floats. -/
set_option linter.unusedVariables false
set_option linter.unusedSimpArgs false
namespace Go.Proofs.Ytecgipilamefmaa
open Fl Go.RowKit
/-- the words that are kept of the first ones -/
def keptN (keep : Nat → Bool) (ys : List Nat) : Nat → List Nat
  | 0 => []
  | k + 1 => if keep k then keptN keep ys k ++ [wd ys k] else keptN keep ys k
theorem kept_len (keep : Nat → Bool) (ys : List Nat) : ∀ k, (keptN keep ys k).length ≤ k
  | 0 => Nat.le_refl _
  | k + 1 => by
    have := kept_len keep ys k
    unfold keptN
    split
    · simp; omega
    · omega
theorem kept_all {keep : Nat → Bool} {ys : List Nat} : ∀ {k : Nat}, (∀ j, j < k → keep j = true) → keptN keep ys k = (List.range k).map (wd ys)
  | 0, _ => rfl
  | k + 1, h => by
    unfold keptN
    rw [if_pos (h k (by omega)), kept_all fun j hj => h j (by omega), List.range_succ, List.map_append]; rfl
theorem kept_small {keep : Nat → Bool} {ys : List Nat} (h : Small ys) : ∀ k, Small (keptN keep ys k)
  | 0 => fun x hx => by cases hx
  | k + 1 => by
    unfold keptN
    split
    · exact (kept_small h k).snoc (h.at_ k)
    · exact kept_small h k
theorem wd_range {ys : List Nat} {k t : Nat} (h : t < k) : wd ((List.range k).map (wd ys)) t = wd ys t := by
  unfold wd; simp [List.getD_eq_getElem?_getD, h]
theorem GCells.setN {g : Nat} {f : Nat → Value} {m : Nat} : ∀ (vs : List Value) (o : Nat) (w : World), GCells w g m f → m ≤ o → GCells (w.setCells g o vs) g m f
  | [], _, _, h, _ => h
  | v :: r, o, w, h, ho => GCells.setN r (o + 1) _ ((h.set o v).congr fun j hj => by show (if j = o then v else f j) = f j; rw [if_neg (by omega)]) (by omega)
theorem On.setN {g : Nat} {a : World} : ∀ (vs : List Value) (o : Nat) (b : World), On g a b → On g a (b.setCells g o vs)
  | [], _, _, h => h
  | v :: r, o, b, h => On.setN r (o + 1) _ (h.set o v)
theorem GCells.less {w : World} {g n m : Nat} {f : Nat → Value} (h : GCells w g n f) (hm : m ≤ n) : GCells w g m f := by
  obtain ⟨cs, h1, h2⟩ := h
  exact ⟨cs, h1, fun j hj => h2 j (by omega)⟩
theorem GCells.toGs {w : World} {g n lo : Nat} {ys : List Nat} (h : GCells w g n (fv ys)) (hl : ys.length = n) (hs : Small ys) (hg : lo ≤ g) : Gs 22 w lo (some ⟨g, 0, none⟩) n ys :=
  ⟨hl, hs, fun _ => by obtain ⟨cs, h1, h2⟩ := h; exact ⟨g, cs, rfl, hg, h1, h2⟩⟩
end Go.Proofs.Ytecgipilamefmaa

/- Meters: loudness: numbers that are at least a floor, and means. -/
set_option linter.unusedVariables false
set_option linter.unusedSimpArgs false
namespace Go.Proofs.Ytecgipilamefmaa
open Fl Go.RowKit
def absL (xs : List Nat) : List O := xs.map (ab .f32)
def keptO (T : O) (Y : List O) : List O := Y.filter fun y => geO y T
def sumL (Y : List O) : O := Y.foldl (fun s y => ad s y) (some 0)
def keepT (xs : List Nat) (T : O) (k : Nat) : Bool := geO (ab .f32 (wd xs k)) T
theorem take_snoc {xs : List Nat} {k : Nat} (h : k < xs.length) : xs.take (k + 1) = xs.take k ++ [wd xs k] := by
  rw [List.take_succ_eq_append_getElem h]
  unfold wd; simp [List.getD_eq_getElem?_getD, h]
theorem kept_abs (xs : List Nat) (T : O) : ∀ k, k ≤ xs.length → absL (keptN (keepT xs T) xs k) = keptO T (absL (xs.take k))
  | 0, _ => rfl
  | k + 1, h => by
    have ih := kept_abs xs T k (by omega)
    rw [take_snoc (by omega)]
    unfold keptN
    unfold absL keptO at ih ⊢
    rw [List.map_append, List.filter_append, ← ih]
    unfold keepT
    cases e : geO (ab .f32 (wd xs k)) T
    · simp [e]
    · simp [e]
theorem kept_absn {xs : List Nat} {n : Nat} (h : xs.length = n) (T : O) : absL (keptN (keepT xs T) xs n) = keptO T (absL xs) := by
  rw [kept_abs xs T n (by omega), List.take_of_length_le (by omega)]
theorem sumO_sumL {xs : List Nat} : ∀ k, k ≤ xs.length → sumO xs k = sumL (absL (xs.take k))
  | 0, _ => rfl
  | k + 1, h => by
    rw [take_snoc (by omega)]
    unfold absL sumL
    rw [List.map_append, List.foldl_append]
    show opO .add .f32 (sumO xs k) (ab .f32 (wd xs k)) = _
    rw [sumO_sumL k (by omega)]; rfl
theorem sumO_sumLn {xs : List Nat} {n : Nat} (h : xs.length = n) : sumO xs n = sumL (absL xs) := by rw [sumO_sumL n (by omega), List.take_of_length_le (by omega)]
theorem absL_are {p : Ls} {n : Nat} {Y : Nat → O} (h : p.xs.length = n) (hn : p.n = n) (ha : Are p Y) : absL p.xs = (List.range n).map Y := by
  apply List.ext_getElem
  · simp [absL, h]
  · intro i h1 h2
    simp only [absL, List.getElem_map, List.getElem_range]
    have := ha i (by simp [absL] at h1; omega)
    unfold wd at this
    rw [List.getD_eq_getElem?_getD, List.getElem?_eq_getElem (by simp [absL] at h1; exact h1)] at this
    exact this
theorem geO_fv {p q : Nat} {P Q : O} (hp : Hid (Fv .f32 p P)) (hq : Hid (Fv .f32 q Q)) : (FloatKind.f32.format.order p q == some .gt || FloatKind.f32.format.order p q == some .eq) = geO P Q := by rw [gt_fv hp hq, eq_fv hp hq]; rfl
/-- numbers that are kept, in memory of the call's own -/
def PKept (T : O) (xs : List Nat) (w : World) (e : Ending) (w' : World) : Prop :=
  ∃ (p : Ls) (c : Nat), e = .returned (.slice p.A p.n c) ∧ Gs 22 w' w.heap.size p.A p.n p.xs ∧ absL p.xs = keptO T (absL xs) ∧ w.Since w.heap.size w'
theorem Gs.zero_ {T : TypeId} {w : World} {lo : Nat} {A : Option Addr} : Gs T w lo A 0 [] := ⟨rfl, (fun x hx => by cases hx), fun h => by omega⟩
end Go.Proofs.Ytecgipilamefmaa

/- Meters: crossings. -/
set_option linter.unusedVariables false
set_option linter.unusedSimpArgs false
namespace Go.Proofs.Ytecgipilamefmaa
open Fl Go.RowKit
def sideO (x : O) : Nat := if ltO x (some 0) then 1 else if geO x (some 0) then 2 else 0
def crossB (a b : O) : Bool := (geO a (some 0) && ltO b (some 0)) || (ltO a (some 0) && geO b (some 0))
def crN (X : Nat → O) : Nat → Nat
  | 0 => 0
  | k + 1 => if crossB (X k) (X (k + 1)) then crN X k + 1 else crN X k
theorem crN_le (X : Nat → O) : ∀ k, crN X k ≤ k
  | 0 => Nat.le_refl _
  | k + 1 => by have := crN_le X k; unfold crN; split <;> omega
theorem side_cases (x : O) : (sideO x = 1 ∧ ltO x (some 0) = true ∧ geO x (some 0) = false) ∨ (sideO x = 2 ∧ ltO x (some 0) = false ∧ geO x (some 0) = true) ∨ (sideO x = 0 ∧ ltO x (some 0) = false ∧ geO x (some 0) = false) := by
  unfold sideO geO gtO eqO ltO
  cases ordO .f32 x (some 0) with
  | none => simp
  | some c => cases c <;> simp
theorem side_le (x : O) : sideO x ≤ 2 := by unfold sideO; split; omega; split <;> omega
theorem cross_side (a b : O) : crossB a b = (!(sideO a == sideO b) && !(sideO a == 0 || sideO b == 0)) := by
  unfold crossB
  rcases side_cases a with ⟨h1, h2, h3⟩ | ⟨h1, h2, h3⟩ | ⟨h1, h2, h3⟩ <;> rcases side_cases b with ⟨k1, k2, k3⟩ | ⟨k1, k2, k3⟩ | ⟨k1, k2, k3⟩ <;> rw [h1, h2, h3, k1, k2, k3] <;> rfl
/-- cells of any type in one block, from its beginning on -/
def VCells (T : TypeId) (w : World) (g : Nat) (n : Nat) (f : Nat → Value) : Prop := ∃ cs, w.heap[g]? = some (.cells cs T (0, 0)) ∧ ∀ j, j < n → cs[j]? = some (f j)
theorem VCells.cell {T : TypeId} {w : World} {g n : Nat} {f : Nat → Value} (h : VCells T w g n f) {j : Nat} (hj : j < n) : w.cell? ⟨g, j, none⟩ = some (f j) := by
  obtain ⟨cs, hb, hc⟩ := h
  simp only [World.cell?, hb]; simpa using hc j hj
theorem VCells.free {T : TypeId} {w : World} {g n : Nat} {f : Nat → Value} (h : VCells T w g n f) (j : Nat) : w.frozen? ⟨g, j, none⟩ = false := by
  obtain ⟨cs, hb, _⟩ := h
  simp [World.frozen?, hb]
theorem VCells.lt {T : TypeId} {w : World} {g n : Nat} {f : Nat → Value} (h : VCells T w g n f) : g < w.heap.size := by
  obtain ⟨cs, hb, _⟩ := h
  exact (Array.getElem?_eq_some_iff.1 hb).1
theorem VCells.of {T : TypeId} {w v : World} {g n : Nat} {f : Nat → Value} (h : VCells T w g n f) (e : v.heap[g]? = w.heap[g]?) : VCells T v g n f := by
  obtain ⟨cs, hb, hc⟩ := h
  exact ⟨cs, e.trans hb, hc⟩
theorem VCells.congr {T : TypeId} {w : World} {g n : Nat} {f f' : Nat → Value} (h : VCells T w g n f) (e : ∀ j, j < n → f j = f' j) : VCells T w g n f' := by
  obtain ⟨cs, hb, hc⟩ := h
  exact ⟨cs, hb, fun j hj => by rw [hc j hj, e j hj]⟩
theorem VCells.set {T : TypeId} {w : World} {g n : Nat} {f : Nat → Value} (h : VCells T w g n f) (k : Nat) (v : Value) : VCells T (w.setCell ⟨g, k, none⟩ v) g n (fun j => if j = k then v else f j) := by
  obtain ⟨cs, hb, hc⟩ := h
  refine ⟨cs.setIfInBounds k v, by simp [World.setCell, Array.getElem?_modify, hb], fun j hj => ?_⟩
  rw [Array.getElem?_setIfInBounds]
  have hl : j < cs.size := (Array.getElem?_eq_some_iff.1 (hc j hj)).1
  by_cases e : k = j
  · subst e; rw [if_pos rfl, if_pos hl]; show some v = some (if k = k then v else f k); rw [if_pos rfl]
  · rw [if_neg e, hc j hj]; show some (f j) = some (if j = k then v else f j); rw [if_neg fun (h : j = k) => e h.symm]
def sideV (X : Nat → O) (k j : Nat) : Value := .int .i64 (if j < k then (sideO (X j) : Int) else 0)
end Go.Proofs.Ytecgipilamefmaa

/- Meters: spreads: the model. -/
set_option linter.unusedVariables false
set_option linter.unusedSimpArgs false
namespace Go.Proofs.Ytecgipilamefmaa
open Fl Go.RowKit
def partW (x : O) (p : Nat) : O := opO .mul .f64 (opO .quo .f64 (opO .add .f64 (wide x) (some 4607182418800017408)) (some 4611686018427387904)) (some (fd (p : Nat)))
def partO (x : O) (p : Nat) : Option Int := match partW x p with
  | some m => floatToIntVal .f64 m .i64
  | none => none
def inP (x : O) : Bool := geO x (some 3212836864) && ltO x (some 1065353216)
def cntS (xs : List Nat) (p : Nat) : Nat → Nat → Nat
  | 0, _ => 0
  | k + 1, j => if inP (ab .f32 (wd xs k)) = true ∧ partO (ab .f32 (wd xs k)) p = some (j : Int) then cntS xs p k j + 1 else cntS xs p k j
theorem cntS_le (xs : List Nat) (p : Nat) : ∀ k j, cntS xs p k j ≤ k
  | 0, _ => Nat.le_refl _
  | k + 1, j => by have := cntS_le xs p k j; unfold cntS; split <;> omega
theorem partO_of {b p : Nat} (hb : b < 4294967296) (h : inP (ab .f32 b) = true) (hp : 1 ≤ p) (hp2 : p ≤ 64) : ∃ m q : Nat, partW (ab .f32 b) p = some m ∧ floatToIntVal .f64 m .i64 = some (q : Int) ∧ q < p ∧ ∀ j : Nat, partO (ab .f32 b) p = some (j : Int) ↔ j = q := by
  unfold inP at h
  rw [Bool.and_eq_true] at h
  obtain ⟨s, h', m, q, h3, h4, h5, h6, h7⟩ := part_of hb h.1 h.2 hp hp2
  have e : partW (ab .f32 b) p = some m := by
    unfold partW
    rw [show (some 4607182418800017408 : O) = some cO from rfl, show (some 4611686018427387904 : O) = some cT from rfl, h3, h4, h5]
  refine ⟨m, q, e, h6, h7, fun j => ?_⟩
  unfold partO
  rw [e]
  dsimp only
  rw [h6]
  constructor
  · intro h; injection h with h; omega
  · rintro rfl; rfl
theorem fvc64 {b : Nat} (h : b < 18446744073709551616) (h2 : b % 9223372036854775808 ≤ 9218868437227405312) : Hid (Fv .f64 b (some b)) := Lib.hid ⟨by rw [w64]; exact h, by rw [ab64, if_neg (by omega)]⟩
theorem Try.infoInt : (Try.prog.info? 2).map (fun i => (i.zero, i.size, i.bytes)) = some (some (.int .i64 0), 1, 8) := by kernel_rfl
def okSpread (n : Nat) (p : Int) : Bool := decide (n ≤ 256) && inB p 1 64
theorem fd_fv (p : Nat) (hp : p ≤ 64) : Hid (Fv .f64 (floatOfInt .f64 (p : Nat)) (some (fd (p : Nat)))) := Lib.hid (fv_write .f64 (d := .number (decide ((p : Int) < 0)) (p : Int).natAbs 0) rfl)
theorem fv_is {k : FloatKind} {r m : Nat} {X : O} (h : Hid (Fv k r X)) (e : X = some m) : r = m := by
  subst e
  exact (ab_some h.out.2).symm
end Go.Proofs.Ytecgipilamefmaa

/- Meters: spreads: the program (a map of counts). -/
set_option linter.unusedVariables false
set_option linter.unusedSimpArgs false
namespace Go.Proofs.Ytecgipilamefmaa
open Fl Go.RowKit Go.WideShapes
/-- block b is a map of counts -/
def CntM (W : World) (b k : Nat) (cnt : Nat → Nat) : Prop :=
  ∃ D : DataW Unit, W.ownsMap Try.prog 2 (plainElem Try.prog 2) b k D ∧ Go.Maps.IsMap D ∧ ∀ j : Nat, j < 64 → D.atKey (.int .i64 (j : Int)) (.lit (.int .i64 0)) = .lit (.int .i64 ((cnt j : Nat) : Int))
theorem CntM.start (W : World) : CntM (W.alloc (.map #[] 0)) W.heap.size 0 (fun _ => 0) := ⟨.map [], World.ownsMap_made _ _ _ _, Go.Maps.isMap_empty, fun j _ => rfl⟩
theorem CntM.lt {W : World} {b k : Nat} {cnt : Nat → Nat} (h : CntM W b k cnt) : b < W.heap.size := by obtain ⟨D, h1, _⟩ := h; exact h1.lt
theorem CntM.of {W V : World} {b k : Nat} {cnt : Nat → Nat} (h : CntM W b k cnt) (e : V.heap[b]? = W.heap[b]?) : CntM V b k cnt := by
  obtain ⟨D, ⟨es, cl, h1, h2⟩, h3⟩ := h
  exact ⟨D, ⟨es, cl, e.trans h1, h2⟩, h3⟩
theorem wf64 {a : Int} (h : 0 ≤ a) (h2 : a < 9223372036854775808) : (Lit.int .i64 a).wf = true := by
  simp only [Lit.wf, IntKind.min, IntKind.max, IntKind.signed, IntKind.bits, Bool.and_eq_true, decide_eq_true_eq, if_true]
  omega
theorem law64 : Go.Maps.Keyed Try.prog 2 := Go.Maps.int_keyed Try.underlying2
theorem key64 {a : Int} (h : 0 ≤ a) (h2 : a < 9223372036854775808) : keyOf Try.prog 2 (.int .i64 a) = some (.int .i64 a) := Go.Maps.keyOf_int_mk Try.underlying2 (wf64 h h2)
theorem zero64 (w : World) : (zeroValue 2).run Try.prog w = .ok (.int .i64 0) w := by kernel_rfl
theorem CntM.look {W : World} {b k j : Nat} {cnt : Nat → Nat} (h : CntM W b k cnt) (hj : j < 64) : (Instr.lookup 57 (.map (some b)) (.int .i64 (j : Int)) false).run Try.prog W = .ok (.int .i64 ((cnt j : Nat) : Int)) W := by
  obtain ⟨D, h1, h2, h3⟩ := h
  obtain ⟨c, hr, hat, _⟩ := h1.lookup_int law64 Try.underlying57 Try.underlying2 (zero64 W) (key64 (a := (j : Int)) (by omega) (by omega))
  rw [h3 j hj] at hat
  simp only [DataW.lit.injEq, Lit.int.injEq, true_and] at hat
  rw [hr, ← hat]
theorem implPartOf_any (b p m q : Nat) (w : World) (hb : b < 4294967296) (hp2 : p ≤ 64) (EM : Hid (opO .mul .f64 (opO .quo .f64 (opO .add .f64 (wide (ab .f32 b)) (some 4607182418800017408)) (some 4611686018427387904)) (some (fd (p : Nat))) = some m)) (h2 : floatToIntVal .f64 m .i64 = some (q : Int)) :
    Calls Try.prog 55 #[.float .f32 b, .int .i64 p] w fun e w' => e = .returned (.int .i64 (q : Int)) ∧ ∃ n, w' = w.drewN n := by
  have fO := fvc64 (b := 4607182418800017408) (by decide) (by decide)
  have fT := fvc64 (b := 4611686018427387904) (by decide) (by decide)
  have fP := fd_fv p hp2
  have hx : Hid (Fv .f32 b (ab .f32 b)) := Lib.hid ⟨hb, rfl⟩
  have hcv := fun (W : World) => run_convert_float_int (P := Try.prog) (w := W) 25 2 .f64 .i64 m q (by kernel_rfl) Try.underlying2 h2
  go_enter Try.func55, Try.ntmps55
  go_wp2_with (first | (with_reducible_and_instances refine Lo.wpList_fo _ rfl .mul _ _ _ _ rfl _ _ _ _ _ rfl rfl rfl (by assumption) (by assumption) ?_; intro rm nm hrm; obtain rfl : rm = m := fv_is hrm EM.out) | (with_reducible_and_instances refine Lo.wpList_fo _ rfl _ _ _ _ _ rfl _ _ _ _ _ rfl rfl rfl (by assumption) (by assumption) ?_; intro rr nn hrr) | (with_reducible_and_instances refine Lo.wpList_wi _ rfl _ _ _ rfl _ _ rfl (by kernel_rfl) (by kernel_rfl) (by assumption) ?_; intro rr nn hrr))
  go_ret
  exact ⟨rfl, _, rfl⟩
theorem CntM.put {W : World} {b k q : Nat} {cnt : Nat → Nat} (h : CntM W b k cnt) (hq : q < 64) (hk : k < 1000) (c : Nat) (hc : c < 1000) (v : Int) (hv : v = (c : Int)) :
    ∃ w', (Instr.mapUpdate 57 (.map (some b)) (.int .i64 (q : Int)) (.int .i64 v)).run Try.prog W = .ok () w' ∧ CntM w' b (k + 1) (fun j => if j = q then c else cnt j) ∧ W.grownBy w' (some b) := by
  subst hv
  obtain ⟨D, h1, h2, h3⟩ := h
  obtain ⟨w', r1, r2, r3⟩ := h1.update law64 Try.underlying57 (by unfold maxLen; omega) (key64 (a := (q : Int)) (by omega) (by omega)) (plainElem_int Try.underlying2 (wf64 (a := (c : Int)) (by omega) (by omega)))
  refine ⟨w', r1, ⟨_, r2, h2.put _ _, fun j hj => ?_⟩, r3⟩
  by_cases e : j = q
  · subst e
    show _ = DataW.lit (Lit.int .i64 (((if j = j then c else cnt j : Nat)) : Int))
    rw [if_pos rfl]
    exact Go.Maps.atKey_put_same h2 (law64.key (key64 (a := (j : Int)) (by omega) (by omega))) _ _
  · show _ = DataW.lit (Lit.int .i64 (((if j = q then c else cnt j : Nat)) : Int))
    rw [if_neg e, Go.Maps.atKey_put_other (by intro h; simp only [Lit.int.injEq, true_and] at h; omega)]
    exact h3 j hj
set_option maxHeartbeats 8000000 in
set_option maxRecDepth 100000 in
theorem implSpread_ok (A : Option Addr) (n c : Nat) (xs : List Nat) (p : Nat) (w : World) (hA : Fs w w.heap.size A n xs) (hn : n ≤ 256) (hp : 1 ≤ p) (hp2 : p ≤ 64) :
    Calls Try.prog 26 #[.slice A n c, .int .i64 p] w (PJB p ((List.range p).map fun j => (cntS xs p n j : Int)) true w) := by
  have hfew : decide ((n : Int) ≤ 256) = true := decide_eq_true (by omega)
  have hin : inB p 1 64 = true := by unfold inB; simp; omega
  have HA := Lib.hid hA
  have hmk := fun W => run_make_row' (P := Try.prog) 38 2 (.int .i64 0) 8 Try.underlying38 Try.infoInt rfl .i64 .i64 p (by omega) (by omega) W
  have hmm := @run_makeMap Try.prog
  have fm1 : Hid (Fv .f32 3212836864 (some 3212836864)) := fvm1
  have f1 : Hid (Fv .f32 1065353216 (some 1065353216)) := fv1
  clear hA
  go_enter Try.func26, Try.ntmps26
  go_wp2_with (first | (go_at_call 53; refine (implSamples_b _ _ _ _ _ hfew).mono ?_; rintro e w' ⟨rfl, rfl⟩) | fail)
  refine (allow_any _ _ _ _).mono ?_
  rintro e w1 ⟨rfl, hs⟩
  rw [hin]
  have S1 := Lib.hid hs; clear hs
  go_wp2_with fail
  have hM0 := CntM.start w1
  generalize hW2 : World.alloc w1 (.map #[] 0) = w2 at *
  have s2 : w1.Since w1.heap.size w2 := by rw [← hW2]; exact (World.Since.refl _ _).alloc (Nat.le_refl _) _
  have z2 : w1.heap.size < w2.heap.size := hM0.lt
  obtain ⟨bm, hbm⟩ : ∃ q, q = w1.heap.size := ⟨_, rfl⟩
  have S2 := Lib.hid (since_step S1.out s2)
  have hlo : w.heap.size ≤ bm := by rw [hbm]; exact S1.out.size
  rw [← hbm] at hM0 z2 ⊢
  have HM0 := Lib.hid hM0
  clear hW2 s2 hM0 hbm S1
  go_loopw [8, 23] (fun _ i wr => ∃ k : Nat, k ≤ n ∧ i = .int .i64 k ∧ CntM wr bm k (fun j => cntS xs p k j) ∧ w.Since w.heap.size wr) (fun _ i _ => n - (intOf i).toNat)
  case atStart => exact ⟨0, Nat.zero_le _, rfl, HM0.out, S2.out⟩
  case round =>
    obtain ⟨k, hk, rfl, hcm, hs⟩ := hrel
    have HC := Lib.hid hcm; have HS := Lib.hid hs
    clear hcm hs
    by_cases hlt : k < n
    · obtain ⟨g, off, rfl, hg, hc⟩ := HA.out.2.2 (by omega)
      have hcell : wr.cell? ⟨g, off + k, none⟩ = some (.float .f32 (wd xs k)) := (HS.out.cell (a := ⟨g, off + k, none⟩) hg).trans (hc k hlt)
      have hx : Hid (Fv .f32 (wd xs k) (ab .f32 (wd xs k))) := Lib.hid ⟨HA.out.2.1.at_ k, rfl⟩
      have hxl := HA.out.2.1.at_ k
      have g1 := geO_fv hx fm1; have g2 := lt_fv hx f1
      clear hc
      have eC : Hid (∀ j, cntS xs p (k + 1) j = if inP (ab .f32 (wd xs k)) = true ∧ partO (ab .f32 (wd xs k)) p = some (j : Int) then cntS xs p k j + 1 else cntS xs p k j) := Lib.hid fun j => rfl
      cases e1 : geO (ab .f32 (wd xs k)) (some 3212836864) <;> cases e2 : ltO (ab .f32 (wd xs k)) (some 1065353216)
      case true.true =>
        rw [e1] at g1; rw [e2] at g2
        have hi : inP (ab .f32 (wd xs k)) = true := by unfold inP; rw [e1, e2]; rfl
        obtain ⟨m, q, h1, h2, h3, h4⟩ := partO_of hxl hi hp hp2
        have EM : Hid (opO .mul .f64 (opO .quo .f64 (opO .add .f64 (wide (ab .f32 (wd xs k))) (some 4607182418800017408)) (some 4611686018427387904)) (some (fd (p : Nat))) = some m) := Lib.hid h1
        have eN : Hid (∀ j, cntS xs p (k + 1) j = if j = q then cntS xs p k q + 1 else cntS xs p k j) := Lib.hid fun j => by
          rw [eC.out j]
          by_cases hj : j = q
          · subst hj; rw [if_pos ⟨hi, (h4 j).2 rfl⟩, if_pos rfl]
          · rw [if_neg fun h => hj ((h4 j).1 h.2), if_neg hj]
        have hcb := cntS_le xs p k q
        have HP := Lib.hid (implPartOf_any (wd xs k) p m q wr hxl hp2 EM h2)
        clear e1 e2 hi h1 h2 h4 eC EM
        go_wp2_with fail
        refine HP.out.mono ?_
        rintro e w3 ⟨rfl, dr, rfl⟩
        clear HP
        have HC3 : CntM (wr.drewN dr) bm k (fun j => cntS xs p k j) := HC.out
        have hlk := HC3.look (j := q) (by omega)
        obtain ⟨w5, hup, hc5, hg5⟩ := HC3.put (q := q) (by omega) (by omega) (cntS xs p k q + 1) (by omega) ((cntS xs p k q : Nat) + 1 : Int) (by omega)
        have HC5 := Lib.hid hc5; have HG5 := Lib.hid hg5
        clear hc5 hg5 HC3
        go_wp2
        go_roundw
        case rel =>
          refine ⟨k + 1, by omega, by go_num, ?_, ?_⟩
          · have h9 := HC5.out
            have e9 : (fun j => cntS xs p (k + 1) j) = (fun j => if j = q then cntS xs p k q + 1 else cntS xs p k j) := funext eN.out
            rw [e9]; exact h9
          · exact (since_drewN HS.out dr).grown HG5.out HS.out.size (fun b hb => by injection hb with hb; omega)
        case measure => simp [intOf]; omega
      all_goals
        rw [e1] at g1; rw [e2] at g2
        have hi : inP (ab .f32 (wd xs k)) = false := by unfold inP; rw [e1, e2]; rfl
        have eN : Hid ((fun j => cntS xs p (k + 1) j) = fun j => cntS xs p k j) := Lib.hid (funext fun j => by
          rw [eC.out j, if_neg (by rw [hi]; simp)])
        clear e1 e2 hi eC
        go_wp2
        go_roundw
        case rel =>
          refine ⟨k + 1, by omega, by go_num, ?_, HS.out⟩
          rw [eN.out]
          obtain ⟨D, ⟨es, cl, m1, m2, m3, m4⟩, m5⟩ := HC.out
          exact ⟨D, ⟨es, cl, m1, m2, by omega, m4⟩, m5⟩
        case measure => simp [intOf]; omega
    · obtain rfl : k = n := by omega
      obtain ⟨V, hV⟩ : ∃ V, V = wr := ⟨_, rfl⟩
      subst hV
      go_wp2
      go_loopw [10, 43] (fun _ i wi => ∃ j : Nat, j ≤ p ∧ i = .int .i64 j ∧ VCells 2 wi V.heap.size p (fun t => .int .i64 (if t < j then (cntS xs p k t : Int) else 0)) ∧ CntM wi bm k (fun j => cntS xs p k j) ∧ w.Since w.heap.size wi) (fun _ i _ => p - (intOf i).toNat)
      case atStart =>
        obtain ⟨cs, hb, _, hc⟩ := (World.rowIs_made V (.int .i64 0) p 2)
        exact ⟨0, Nat.zero_le _, rfl, ⟨cs, hb, fun j hj => by rw [hc j hj]; rfl⟩, HC.out.of (blk_keep _ HC.out.lt), HS.out.alloc HS.out.size _⟩
      case round =>
        obtain ⟨j, hj, rfl, hv, hcm, hs2⟩ := hrel
        have HV := Lib.hid hv; have HCM := Lib.hid hcm; have HS2 := Lib.hid hs2
        clear hv hcm hs2
        by_cases hjl : j < p
        · have hlk := HCM.out.look (j := j) (by omega)
          have d1 : wr.cell? ⟨V.heap.size, j, none⟩ = some (.int .i64 (if j < j then (cntS xs p k j : Int) else 0)) := HV.out.cell hjl
          have d2 : wr.frozen? ⟨V.heap.size, j, none⟩ = false := HV.out.free _
          have hbw := HC.out.lt
          have hsz := HS.out.size
          go_wp2
          go_roundw
          case rel =>
            refine ⟨j + 1, by omega, by go_num, (HV.out.set j _).congr (fun t ht => ?_), HCM.out.of (Go.Deep.blk_setCell_other _ _ _ _ (show bm ≠ V.heap.size by omega)), HS2.out.setCell (by omega) _⟩
            by_cases e : t = j
            · subst e; rw [if_pos rfl, if_pos (by omega)]
            · rw [if_neg e]
              by_cases e2 : t < j
              · rw [if_pos e2, if_pos (by omega)]
              · rw [if_neg e2, if_neg (by omega)]
          case measure => simp [intOf]; omega
        · obtain rfl : j = p := by omega
          have hsz := HS.out.size
          go_wp2
          go_ret2
          refine ⟨⟨some ⟨V.heap.size, 0, none⟩, j, (List.range j).map fun t => (cntS xs j k t : Int)⟩, j, rfl, rfl, ⟨by simp, fun _ => ?_⟩, rfl, HS2.out⟩
          obtain ⟨cs, hb, hc⟩ := HV.out
          exact ⟨V.heap.size, cs, rfl, hsz, hb, fun t ht => by rw [hc t ht]; unfold iv wi; simp [List.getD_eq_getElem?_getD, ht]⟩
theorem implSpread_no (A : Option Addr) (n c : Nat) (p : Int) (w : World) (h : okSpread n p = false) : Calls Try.prog 26 #[.slice A n c, .int .i64 p] w (PJB 0 [] false w) := by
  unfold okSpread at h
  cases h0 : decide (n ≤ 256)
  · have hfew : decide ((n : Int) ≤ 256) = false := decide_eq_false (by have := of_decide_eq_false h0; omega)
    go_enter Try.func26, Try.ntmps26
    go_wp2_with (first | (go_at_call 53; refine (implSamples_b _ _ _ _ _ hfew).mono ?_; rintro e w' ⟨rfl, rfl⟩))
    go_ret2
    exact PJB.none_ (World.Since.refl _ _)
  · have hfew : decide ((n : Int) ≤ 256) = true := decide_eq_true (by have := of_decide_eq_true h0; omega)
    have h1 : inB p 1 64 = false := by rw [h0] at h; simpa using h
    go_enter Try.func26, Try.ntmps26
    go_wp2_with (first | (go_at_call 53; refine (implSamples_b _ _ _ _ _ hfew).mono ?_; rintro e w' ⟨rfl, rfl⟩) | fail)
    refine (allow_any _ _ _ _).mono ?_
    rintro e w1 ⟨rfl, hs⟩
    rw [h1]
    have S1 := Lib.hid hs; clear hs
    go_wp2
    go_ret2
    exact PJB.none_ S1.out
end Go.Proofs.Ytecgipilamefmaa

/- Draws: bytes that can be read, and the source of draws. -/
set_option linter.unusedVariables false
set_option linter.unusedSimpArgs false
namespace Go.Proofs.Ytecgipilamefmaa
open Fl Go.RowKit
theorem and255u (z : Int) : 0 ≤ wrap64 (bits BinOp.and IntKind.u64 z 255) ∧ wrap64 (bits BinOp.and IntKind.u64 z 255) < 256 := by
  have h : bits BinOp.and IntKind.u64 z 255 = z % 256 := by
    have hb : (BitVec.ofInt 64 255).toNat = 255 := by decide
    have ha : (BitVec.ofInt 64 z).toNat = (z % 18446744073709551616).toNat := by rw [BitVec.toNat_ofInt]; rfl
    have hw : ∀ n : Nat, n < 256 → IntKind.u64.wrap (n : Int) = n := fun n h => by rw [IntKind.wrap_u64]; omega
    show IntKind.u64.wrap (((BitVec.ofInt 64 z &&& BitVec.ofInt 64 255).toNat : Nat) : Int) = _
    rw [BitVec.toNat_and, ha, hb]
    have e : ∀ n : Nat, n &&& 255 = n % 256 := fun n => Nat.and_two_pow_sub_one_eq_mod n 8
    rw [e, hw _ (Nat.mod_lt _ (by decide))]
    omega
  rw [h]
  unfold wrap64
  omega
/-- bytes that can be read -/
def Bs (w : World) (B : Nat) (A : Option Addr) (n : Nat) (xs : List Int) : Prop :=
  xs.length = n ∧ (∀ k, 0 ≤ wi xs k ∧ wi xs k < 256) ∧ (0 < n → ∃ g off, A = some ⟨g, off, none⟩ ∧ g < B ∧ ∀ k, k < n → w.cell? ⟨g, off + k, none⟩ = some (.int .u8 (wi xs k)))
theorem Bs.keep {w w' : World} {B : Nat} {A : Option Addr} {n : Nat} {xs : List Int} (h : Bs w B A n xs) (hk : ∀ g o, g < B → w'.cell? ⟨g, o, none⟩ = w.cell? ⟨g, o, none⟩) : Bs w' B A n xs :=
  ⟨h.1, h.2.1, fun hn => by
    obtain ⟨g, off, e, hg, hc⟩ := h.2.2 hn
    exact ⟨g, off, e, hg, fun k hk' => (hk g _ hg).trans (hc k hk')⟩⟩
theorem Bs.more {w : World} {B B' : Nat} {A : Option Addr} {n : Nat} {xs : List Int} (h : Bs w B A n xs) (hB : B ≤ B') : Bs w B' A n xs :=
  ⟨h.1, h.2.1, fun hn => by
    obtain ⟨g, off, e, hg, hc⟩ := h.2.2 hn
    exact ⟨g, off, e, by omega, hc⟩⟩
theorem Bs.since {w w' : World} {B B' : Nat} {A : Option Addr} {n : Nat} {xs : List Int} (h : Bs w B A n xs) (hs : w.Since B' w') (hB : B ≤ B') : Bs w' B A n xs :=
  h.keep fun g o hg => hs.cell (a := ⟨g, o, none⟩) (by show g < B'; omega)
theorem Bs.drewN {w : World} {B : Nat} {A : Option Addr} {n : Nat} {xs : List Int} (h : Bs w B A n xs) (m : Nat) : Bs (w.drewN m) B A n xs := h.keep fun _ _ _ => rfl
/-- a source's block -/
def SrcB (w : World) (b : Nat) (A : Option Addr) (n c : Nat) (i sd : Int) : Prop := w.heap[b]? = some (.cells #[.slice A n c, .int .i64 i, .int .u64 sd] 74 (0, 0))
theorem SrcB.lt {w : World} {b n c : Nat} {A : Option Addr} {i sd : Int} (h : SrcB w b A n c i sd) : b < w.heap.size := (Array.getElem?_eq_some_iff.1 h).1
theorem SrcB.c0 {w : World} {b n c : Nat} {A : Option Addr} {i sd : Int} (h : SrcB w b A n c i sd) : w.cell? ⟨b, 0, none⟩ = some (.slice A n c) := by unfold SrcB at h; simp [World.cell?, h]
theorem SrcB.c1 {w : World} {b n c : Nat} {A : Option Addr} {i sd : Int} (h : SrcB w b A n c i sd) : w.cell? ⟨b, 1, none⟩ = some (.int .i64 i) := by unfold SrcB at h; simp [World.cell?, h]
theorem SrcB.c2 {w : World} {b n c : Nat} {A : Option Addr} {i sd : Int} (h : SrcB w b A n c i sd) : w.cell? ⟨b, 2, none⟩ = some (.int .u64 sd) := by unfold SrcB at h; simp [World.cell?, h]
theorem SrcB.free {w : World} {b n c q : Nat} {A : Option Addr} {i sd : Int} (h : SrcB w b A n c i sd) : w.frozen? ⟨b, q, none⟩ = false := by unfold SrcB at h; simp [World.frozen?, h]
theorem SrcB.of {w w' : World} {b n c : Nat} {A : Option Addr} {i sd : Int} (h : SrcB w b A n c i sd) (e : w'.heap[b]? = w.heap[b]?) : SrcB w' b A n c i sd := e.trans h
theorem SrcB.set1 {w : World} {b n c : Nat} {A : Option Addr} {i sd i' : Int} (h : SrcB w b A n c i sd) : SrcB (w.setCell ⟨b, 1, none⟩ (.int .i64 i')) b A n c i' sd := by
  unfold SrcB at h ⊢
  simp [World.setCell, Array.getElem?_modify, h]
theorem SrcB.set2 {w : World} {b n c : Nat} {A : Option Addr} {i sd sd' : Int} (h : SrcB w b A n c i sd) : SrcB (w.setCell ⟨b, 2, none⟩ (.int .u64 sd')) b A n c i sd' := by
  unfold SrcB at h ⊢
  simp [World.setCell, Array.getElem?_modify, h]
/-- a source in block b that has drawn at most K times, whose bytes lie in blocks before B -/
def Src (B b K : Nat) (w : World) : Prop := ∃ (A : Option Addr) (n c : Nat) (xs : List Int) (i sd : Int), SrcB w b A n c i sd ∧ Bs w B A n xs ∧ B ≤ b ∧ n ≤ 1048576 ∧ 0 ≤ i ∧ i ≤ (K : Int)
theorem Src.on {B b K : Nat} {w w' : World} (h : Src B b K w) (hs : w.Since (b + 1) w') : Src B b K w' := by
  obtain ⟨A, n, c, xs, i, sd, h1, h2, h3, h4, h5⟩ := h
  exact ⟨A, n, c, xs, i, sd, h1.of (hs.block b (by omega)), h2.since hs (by omega), h3, h4, h5⟩
theorem Src.up {B b K K' : Nat} {w : World} (h : Src B b K w) (hK : K ≤ K') : Src B b K' w := by
  obtain ⟨A, n, c, xs, i, sd, h1, h2, h3, h4, h5, h6⟩ := h
  exact ⟨A, n, c, xs, i, sd, h1, h2, h3, h4, h5, by omega⟩
theorem Src.lt {B b K : Nat} {w : World} (h : Src B b K w) : b < w.heap.size := by
  obtain ⟨A, n, c, xs, i, sd, h1, h2, h3, h4, h5, h6⟩ := h
  exact h1.lt
theorem Src.drewN {B b K : Nat} {w : World} (h : Src B b K w) (m : Nat) : Src B b K (w.drewN m) := h.on (since_drewN (World.Since.refl _ _) m)
theorem on_post {b lo : Nat} {w a c : World} (h : On b w a) (s : a.Since lo c) (hl : w.heap.size ≤ lo) (hb : b < w.heap.size) : On b w c :=
  ⟨h.1.trans (since_mono s (by omega)), fun x hx hn => (s.block x (by omega)).trans (h.2 x hx hn)⟩
theorem Src.low {B b K : Nat} {w : World} (h : Src B b K w) : B ≤ b := by
  obtain ⟨A, n, c, xs, i, sd, h1, h2, h3, h4, h5, h6⟩ := h
  exact h3
set_option maxHeartbeats 4000000 in
set_option maxRecDepth 100000 in
theorem next_any (B b K : Nat) (w : World) (h : Src B b K w) (hK : K ≤ 1000000000) :
    Calls Try.prog 76 #[.pointer (some ⟨b, 0, none⟩)] w fun e w' => ∃ v : Int, e = .returned (.int .i64 v) ∧ 0 ≤ v ∧ v < 256 ∧ Src B b (K + 1) w' ∧ On b w w' := by
  obtain ⟨A, n, c, xs, i, sd, h1, h2, h3, h4, h5, h6⟩ := h
  have H1 := Lib.hid h1; have H2 := Lib.hid h2
  have c0 := h1.c0; have c1 := h1.c1; have c2 := h1.c2
  have f1 := h1.free (q := 1); have f2 := h1.free (q := 2)
  clear h1 h2
  by_cases hi : i < (n : Int)
  · have hd : decide (i < (n : Int)) = true := decide_eq_true hi
    have hd2 : decide (i + 1 ≤ (n : Int)) = true := decide_eq_true (by omega)
    obtain ⟨j, rfl⟩ := Int.eq_ofNat_of_zero_le h5
    obtain ⟨g, off, rfl, hg, hc⟩ := H2.out.2.2 (by omega)
    have hcell := hc j (by omega)
    have hv := H2.out.2.1 j
    clear hc
    go_enter Try.func76, Try.ntmps76
    go_wp2_with fail
    go_quiet (fail)
    go_wp2_with fail
    go_quiet (fail)
    go_wp2_with fail
    generalize IntKind.wrap .u64 (IntKind.wrap .u64 (_ + _) + 1442695040888963407) = sd'
    generalize hW : World.setCell _ _ _ = W
    have B1 : Hid (SrcB W b (some ⟨g, off, none⟩) n c ((j : Int) + 1) sd') := Lib.hid (by rw [← hW]; exact H1.out.set1.set2)
    have O1 : Hid (On b w W) := Lib.hid (by rw [← hW]; exact ((On.refl _ _).set _ _).set _ _)
    have d0 := B1.out.c0; have d1 := B1.out.c1; have d2 := B1.out.c2
    clear hW
    go_quiet (fail)
    go_wp2
    go_ret
    exact ⟨_, rfl, hv.1, hv.2, ⟨_, n, c, xs, _, sd', B1.out, by first | exact (H2.out.since O1.out.1 h3).drewN _ | exact ((H2.out.since O1.out.1 h3).drewN _).drewN _, h3, h4, by omega, by omega⟩, by first | exact O1.out.drewN _ | exact (O1.out.drewN _).drewN _⟩
  · have hd : decide (i < (n : Int)) = false := decide_eq_false hi
    have hd2 : decide (i + 1 ≤ (n : Int)) = false := decide_eq_false (by omega)
    go_enter Try.func76, Try.ntmps76
    go_wp2_with fail
    go_quiet (fail)
    go_wp2_with fail
    generalize IntKind.wrap .u64 (IntKind.wrap .u64 _ + 1442695040888963407) = sd'
    generalize hW : World.setCell _ _ _ = W
    have B1 : Hid (SrcB W b A n c (i + 1) sd') := Lib.hid (by rw [← hW]; exact H1.out.set1.set2)
    have O1 : Hid (On b w W) := Lib.hid (by rw [← hW]; exact ((On.refl _ _).set _ _).set _ _)
    have d0 := B1.out.c0; have d1 := B1.out.c1; have d2 := B1.out.c2
    clear hW
    go_quiet (fail)
    go_wp2
    go_ret
    have h255 := and255u (sd' / 1099511627776)
    exact ⟨_, rfl, h255.1, h255.2, ⟨_, n, c, xs, _, sd', B1.out, by first | exact (H2.out.since O1.out.1 h3).drewN _ | exact ((H2.out.since O1.out.1 h3).drewN _).drewN _, h3, h4, by omega, by omega⟩, by first | exact O1.out.drewN _ | exact (O1.out.drewN _).drewN _⟩
end Go.Proofs.Ytecgipilamefmaa

/- Draws: picks of numbers. -/
set_option linter.unusedVariables false
set_option linter.unusedSimpArgs false
namespace Go.Proofs.Ytecgipilamefmaa
open Fl Go.RowKit
set_option maxHeartbeats 4000000 in
set_option maxRecDepth 100000 in
theorem pick_any (B b K : Nat) (n : Int) (w : World) (h : Src B b K w) (hK : K ≤ 1000000) (hn : n ≤ 1000000000) :
    Calls Try.prog 51 #[.pointer (some ⟨b, 0, none⟩), .int .i64 n] w fun e w' => ∃ v : Int, e = .returned (.int .i64 v) ∧ 0 ≤ v ∧ (1 ≤ n → v < n) ∧ Src B b (K + 2) w' ∧ On b w w' := by
  by_cases h1 : n ≤ 1
  · have hd : decide (n ≤ 1) = true := decide_eq_true h1
    go_enter Try.func51, Try.ntmps51
    go_wp2
    go_ret
    exact ⟨0, rfl, by omega, fun _ => by omega, h.up (by omega), On.refl _ _⟩
  · have hd : decide (n ≤ 1) = false := decide_eq_false h1
    have hz : n ≠ 0 := by omega
    have HH := Lib.hid h; clear h
    by_cases h2 : 200 < n
    · have hd2 : decide (200 < n) = true := decide_eq_true h2
      go_enter Try.func51, Try.ntmps51
      go_wp2_with fail
      refine (next_any B b K w HH.out (by omega)).mono ?_
      rintro e w1 ⟨v1, rfl, a1, a2, s1, o1⟩
      have S1 := Lib.hid s1; have O1 := Lib.hid o1; clear s1 o1
      go_wp2_with fail
      refine (next_any B b (K + 1) w1 S1.out (by omega)).mono ?_
      rintro e w2 ⟨v2, rfl, a3, a4, s2, o2⟩
      have S2 := Lib.hid s2; have O2 := Lib.hid o2; clear s2 o2
      go_wp2
      go_ret
      exact ⟨_, rfl, by exact Int.emod_nonneg _ hz, fun _ => by exact Int.emod_lt_of_pos _ (by omega), S2.out, O1.out.trans O2.out⟩
    · have hd2 : decide (200 < n) = false := decide_eq_false h2
      go_enter Try.func51, Try.ntmps51
      go_wp2_with fail
      refine (next_any B b K w HH.out (by omega)).mono ?_
      rintro e w1 ⟨v1, rfl, a1, a2, s1, o1⟩
      have S1 := Lib.hid s1; have O1 := Lib.hid o1; clear s1 o1
      go_wp2
      go_ret
      exact ⟨_, rfl, by exact Int.emod_nonneg _ hz, fun _ => by exact Int.emod_lt_of_pos _ (by omega), S1.out.up (by omega), O1.out⟩
theorem one_any (B b K : Nat) (n : Int) (w : World) (h : Src B b K w) (hK : K ≤ 1000000) (hn : n ≤ 1000000000) :
    Calls Try.prog 56 #[.pointer (some ⟨b, 0, none⟩), .int .i64 n] w fun e w' => ∃ v : Bool, e = .returned (.bool v) ∧ Src B b (K + 2) w' ∧ On b w w' := by
  have HH := Lib.hid h; clear h
  go_enter Try.func56, Try.ntmps56
  go_wp2_with fail
  refine (pick_any B b K n w HH.out hK hn).mono ?_
  rintro e w1 ⟨v1, rfl, a1, a2, s1, o1⟩
  have S1 := Lib.hid s1; have O1 := Lib.hid o1; clear s1 o1
  go_wp2
  go_ret
  exact ⟨_, rfl, S1.out, O1.out⟩
/-- one of a list of numbers that lie in a block of their own -/
theorem among_any (B b K g n : Nat) (xs : List Int) (w : World) (h : Src B b K w) (hK : K ≤ 1000000) (hx : Is w w.heap.size (some ⟨g, 0, none⟩) n xs) (h0 : 0 < n) (hn : n ≤ 1000000) (hg : b < g) (hlt : g < w.heap.size) :
    Calls Try.prog 78 #[.pointer (some ⟨b, 0, none⟩), .slice (some ⟨g, 0, none⟩) n n] w fun e w' => ∃ k : Nat, e = .returned (.int .i64 (wi xs k)) ∧ k < n ∧ Src B b (K + 2) w' ∧ On b w w' := by
  have HH := Lib.hid h; have HX := Lib.hid hx; clear h hx
  go_enter Try.func78, Try.ntmps78
  go_wp2_with fail
  refine (pick_any B b K n w HH.out hK (by omega)).mono ?_
  rintro e w1 ⟨v1, rfl, a1, a2, s1, o1⟩
  have S1 := Lib.hid s1; have O1 := Lib.hid o1; clear s1 o1
  obtain ⟨k, rfl⟩ := Int.eq_ofNat_of_zero_le a1
  have hk : k < n := by have := a2 (by omega); omega
  have hcell : w1.cell? ⟨g, k, none⟩ = some (.int .i64 (wi xs k)) := by
    obtain ⟨g', off, e, hg', hc⟩ := HX.out.2 h0
    injection e with e
    injection e with e1 e2
    subst e1; subst e2
    have := hc k hk
    rw [Nat.zero_add] at this
    exact (cell_of_block (O1.out.2 g hlt (by omega)) _).trans this
  go_wp2
  go_ret
  exact ⟨k, rfl, hk, S1.out, O1.out⟩
end Go.Proofs.Ytecgipilamefmaa

/- Draws: numbers and lists of numbers, of any bits. -/
set_option linter.unusedVariables false
set_option linter.unusedSimpArgs false
namespace Go.Proofs.Ytecgipilamefmaa
open Fl Go.RowKit
set_option maxHeartbeats 4000000 in
set_option maxRecDepth 100000 in
theorem plain_any (B b K : Nat) (w : World) (h : Src B b K w) (hK : K ≤ 900000) :
    Calls Try.prog 46 #[.pointer (some ⟨b, 0, none⟩)] w fun e w' => ∃ q Q, e = .returned (.float .f32 q) ∧ Hid (Fv .f32 q Q) ∧ Src B b (K + 4) w' ∧ On b w w' := by
  have HH := Lib.hid h; clear h
  go_enter Try.func46, Try.ntmps46
  go_wp2_with fail
  refine (pick_any B b K 129 w HH.out (by omega) (by omega)).mono ?_
  rintro e w1 ⟨v1, rfl, a1, a2, s1, o1⟩
  have a3 := a2 (by omega)
  have S1 := Lib.hid s1; have O1 := Lib.hid o1; clear s1 o1 a2
  go_wp2_with fail
  refine (one_any B b (K + 2) 4 w1 S1.out (by omega) (by omega)).mono ?_
  rintro e w2 ⟨v2, rfl, s2, o2⟩
  have S2 := Lib.hid s2; have O2 := Lib.hid o2; clear s2 o2
  have q1 := fI_fv (v1 - 64)
  have q7 : Hid (Fv .f32 1088421888 (some 1088421888)) := fvc (by decide) (by decide)
  have q16 : Hid (Fv .f32 1098907648 (some 1098907648)) := fvc (by decide) (by decide)
  cases v2
  all_goals
    go_wp2_with (with_reducible_and_instances refine Lo.wpList_fo _ rfl _ _ _ _ _ rfl _ _ _ _ _ rfl rfl rfl (by assumption) (by assumption) ?_; intro rr nn hrr)
    go_ret
    exact ⟨_, _, rfl, hrr, S2.out.drewN _, (O1.out.trans O2.out).drewN _⟩
theorem is_alloc (w : World) (T : TypeId) (xs : List Int) : Is (w.alloc (.cells (xs.map (Value.int .i64)).toArray T)) (w.alloc (.cells (xs.map (Value.int .i64)).toArray T)).heap.size (some ⟨w.heap.size, 0, none⟩) xs.length xs :=
  ⟨rfl, fun _ => ⟨w.heap.size, 0, rfl, by simp, fun k hk => by
    have h := Go.Deep.blk_alloc_new w (.cells (xs.map (Value.int .i64)).toArray T)
    rw [Nat.zero_add]
    unfold World.cell?
    simp only [h]
    simp [hk, iv, wi]⟩⟩
def numsA : List Int := [0, 2147483648, 2139095040, 4286578688, 2143289344, 1, 2139095039, 8388608, 8388607, 2147483649]
def numsB : List Int := [8388608, 2130706432, 1610612736, 536870912]
theorem numsA_in : ∀ k, k < 10 → 0 ≤ wi numsA k ∧ wi numsA k < 4294967296 := by decide
theorem numsB_in : ∀ k, k < 4 → 0 ≤ wi numsB k ∧ wi numsB k < 4294967296 := by decide
theorem from_int (z : Int) (h0 : 0 ≤ z) (h1 : z < 4294967296) (w : World) : Calls Try.prog 57 #[.int .i64 z] w fun e w' => ∃ q, e = .returned (.float .f32 q) ∧ Hid (Fv .f32 q (ab .f32 q)) ∧ w = w' := by
  obtain ⟨m, rfl⟩ := Int.eq_ofNat_of_zero_le h0
  have hm : m < 4294967296 := by omega
  exact (l01From_any m w hm).mono fun e w' ⟨h1, h2⟩ => ⟨m, h1, Lib.hid ⟨hm, rfl⟩, h2⟩
set_option maxHeartbeats 4000000 in
set_option maxRecDepth 100000 in
theorem float_any (B b K : Nat) (w : World) (h : Src B b K w) (hK : K ≤ 800000) :
    Calls Try.prog 58 #[.pointer (some ⟨b, 0, none⟩)] w fun e w' => ∃ q Q, e = .returned (.float .f32 q) ∧ Hid (Fv .f32 q Q) ∧ Src B b (K + 12) w' ∧ On b w w' := by
  have HH := Lib.hid h
  have hlt := h.lt
  clear h
  go_enter Try.func58, Try.ntmps58
  go_wp2_with fail
  refine (one_any B b K 12 w HH.out (by omega) (by omega)).mono ?_
  rintro e w1 ⟨v1, rfl, s1, o1⟩
  have S1 := Lib.hid s1; have O1 := Lib.hid o1; clear s1 o1
  cases v1
  · go_wp2_with fail
    refine (plain_any B b (K + 2) w1 S1.out (by omega)).mono ?_
    rintro e w2 ⟨q, Q, rfl, hq, s2, o2⟩
    have S2 := Lib.hid s2; have O2 := Lib.hid o2; clear s2 o2
    go_wp2
    go_ret
    exact ⟨_, _, rfl, hq, S2.out.up (by omega), O1.out.trans O2.out⟩
  · go_wp2_with fail
    refine (pick_any B b (K + 2) 4 w1 S1.out (by omega) (by omega)).mono ?_
    rintro e w2 ⟨v, rfl, a1, a2, s2, o2⟩
    have a3 := a2 (by omega)
    have S2 := Lib.hid s2; have O2 := Lib.hid (O1.out.trans o2); clear s2 o2 a2
    have hlt2 : b < w2.heap.size := S2.out.lt
    by_cases h0 : v = 0
    · subst h0
      go_wp2_with fail
      generalize hW : World.alloc _ _ = W
      have X1 : Hid (Is W W.heap.size (some ⟨w2.heap.size, 0, none⟩) 10 numsA) := Lib.hid (by rw [← hW]; exact is_alloc w2 2 numsA)
      have Z1 : Hid (W.heap.size = w2.heap.size + 1) := Lib.hid (by rw [← hW]; simp)
      have O3 : Hid (On b w W) := Lib.hid (by rw [← hW]; exact O2.out.alloc (by omega) _)
      have S3 : Hid (Src B b (K + 4) W) := Lib.hid (S2.out.on (by rw [← hW]; exact (World.Since.refl _ _).alloc (by omega) _))
      clear hW
      have hz := Z1.out
      refine (among_any B b (K + 4) w2.heap.size 10 numsA W S3.out (by omega) X1.out (by omega) (by omega) hlt2 (by omega)).mono ?_
      rintro e w3 ⟨k, rfl, hk, s4, o4⟩
      have S4 := Lib.hid s4; have O4 := Lib.hid (O3.out.trans o4); clear s4 o4
      have hm := numsA_in k hk
      generalize wi numsA k = m at *
      go_wp2_with fail
      refine (from_int m hm.1 hm.2 _).mono ?_
      rintro e w5 ⟨q, rfl, hq, rfl⟩
      go_wp2
      go_ret
      exact ⟨_, _, rfl, hq, S4.out.up (by omega), O4.out⟩
    · by_cases h1 : v = 1
      · subst h1
        go_wp2_with fail
        refine (pick_any B b (K + 4) 65536 w2 S2.out (by omega) (by omega)).mono ?_
        rintro e w3 ⟨v3, rfl, b1, b2, s3, o3⟩
        have b3 := b2 (by omega)
        have S3 := Lib.hid s3; have O3 := Lib.hid (O2.out.trans o3); clear s3 o3 b2
        go_wp2_with fail
        refine (pick_any B b (K + 4 + 2) 65536 w3 S3.out (by omega) (by omega)).mono ?_
        rintro e w4 ⟨v4, rfl, c1, c2, s4, o4⟩
        have c3 := c2 (by omega)
        have S4 := Lib.hid s4; have O4 := Lib.hid (O3.out.trans o4); clear s4 o4 c2
        go_wp2_with fail
        refine (from_int (v3 * 65536 + v4) (by omega) (by omega) _).mono ?_
        rintro e w5 ⟨q, rfl, hq, rfl⟩
        go_wp2
        go_ret
        exact ⟨_, _, rfl, hq, S4.out.up (by omega), O4.out⟩
      · by_cases h2 : v = 2
        · subst h2
          go_wp2_with fail
          refine (pick_any B b (K + 4) 65536 w2 S2.out (by omega) (by omega)).mono ?_
          rintro e w3 ⟨v3, rfl, b1, b2, s3, o3⟩
          have b3 := b2 (by omega)
          have S3 := Lib.hid s3; have O3 := Lib.hid (O2.out.trans o3); clear s3 o3 b2
          go_wp2_with fail
          refine (from_int (v3 * 65536) (by omega) (by omega) _).mono ?_
          rintro e w5 ⟨q, rfl, hq, rfl⟩
          go_wp2
          go_ret
          exact ⟨_, _, rfl, hq, S3.out.up (by omega), O3.out⟩
        · have e0 : decide (v = 0) = false := decide_eq_false h0
          have e1 : decide (v = 1) = false := decide_eq_false h1
          have e2 : decide (v = 2) = false := decide_eq_false h2
          have g0 : (v == 0) = false := by simpa using h0
          have g1 : (v == 1) = false := by simpa using h1
          have g2 : (v == 2) = false := by simpa using h2
          go_wp2_with fail
          refine (plain_any B b (K + 4) w2 S2.out (by omega)).mono ?_
          rintro e w3 ⟨q, Q, rfl, hq, s3, o3⟩
          have S3 := Lib.hid s3; have O3 := Lib.hid (O2.out.trans o3); clear s3 o3
          have hlt3 : b < w3.heap.size := S3.out.lt
          go_wp2_with fail
          generalize hW : World.alloc _ _ = W
          have X1 : Hid (Is W W.heap.size (some ⟨w3.heap.size, 0, none⟩) 4 numsB) := Lib.hid (by rw [← hW]; exact is_alloc w3 2 numsB)
          have Z1 : Hid (W.heap.size = w3.heap.size + 1) := Lib.hid (by rw [← hW]; simp)
          have O5 : Hid (On b w W) := Lib.hid (by rw [← hW]; exact O3.out.alloc (by omega) _)
          have S5 : Hid (Src B b (K + 4 + 4) W) := Lib.hid (S3.out.on (by rw [← hW]; exact (World.Since.refl _ _).alloc (by omega) _))
          clear hW
          have hz := Z1.out
          refine (among_any B b (K + 4 + 4) w3.heap.size 4 numsB W S5.out (by omega) X1.out (by omega) (by omega) hlt3 (by omega)).mono ?_
          rintro e w6 ⟨k, rfl, hk, s6, o6⟩
          have S6 := Lib.hid s6; have O6 := Lib.hid (O5.out.trans o6); clear s6 o6
          have hm := numsB_in k hk
          generalize wi numsB k = m at *
          go_wp2_with fail
          refine (from_int m hm.1 hm.2 _).mono ?_
          rintro e w7 ⟨q2, rfl, hq2, rfl⟩
          go_wp2_with (with_reducible_and_instances refine Lo.wpList_fo _ rfl _ _ _ _ _ rfl _ _ _ _ _ rfl rfl rfl (by assumption) (by assumption) ?_; intro rr nn hrr)
          go_ret
          exact ⟨_, _, rfl, hrr, (S6.out.up (by omega)).drewN _, O6.out.drewN _⟩
end Go.Proofs.Ytecgipilamefmaa

/- Draws: lists of numbers, and what chooses by a byte. -/
set_option linter.unusedVariables false
set_option linter.unusedSimpArgs false
namespace Go.Proofs.Ytecgipilamefmaa
open Fl Go.RowKit
/-- a row of numbers whatever they are -/
def RwA (lo : Nat) (w : World) (v : Value) (k : Nat) : Prop := (∃ F, Rw lo w v k F) ∧ ∃ g c, v = .slice (some ⟨g, 0, none⟩) k c
theorem Rw.like {lo : Nat} {w : World} {v : Value} {k : Nat} {F G : Nat → O} (h : Rw lo w v k F) (e : ∀ j, j < k → F j = G j) : Rw lo w v k G := by
  obtain ⟨os, h1, h2, h3⟩ := h
  exact ⟨os, h1, h2, fun j hj => (h3 j hj).trans (e j hj)⟩
theorem Rw.fin {lo : Nat} {w : World} {v : Value} {k : Nat} {F : Nat → O} (h : Rw lo w v k F) : ∃ (A : Option Addr) (c : Nat) (xs : List Nat), v = .slice A k c ∧ k ≤ c ∧ (A = none → k = 0 ∧ c = 0) ∧ (∀ a, A = some a → ∃ g, a = ⟨g, 0, none⟩ ∧ lo ≤ g) ∧ Gs 22 w lo A k xs ∧ Are ⟨A, k, xs⟩ F := by
  obtain ⟨os, h1, hs, hf⟩ := h
  rcases h1.2 with ⟨rfl, rfl⟩ | ⟨g, cap, cur, rfl, hg, _, hk, _⟩
  · exact ⟨none, 0, os, rfl, Nat.le_refl _, fun _ => ⟨rfl, rfl⟩, (fun a h => by cases h), Gs.of_own h1 hs, hf⟩
  · exact ⟨some ⟨g, 0, none⟩, cap, os, rfl, hk, (fun h => by cases h), fun a h => by cases h; exact ⟨g, rfl, hg⟩, Gs.of_own h1 hs, hf⟩
theorem RwA.grown {lo : Nat} {w : World} {v : Value} {k : Nat} {F : Nat → O} (h : Rw lo w v (k + 1) F) : RwA lo w v (k + 1) := by
  refine ⟨⟨F, h⟩, ?_⟩
  obtain ⟨A, c, xs, rfl, _, hn, hs, _⟩ := h.fin
  cases A with
  | none => exact absurd (hn rfl).1 (by omega)
  | some a =>
    obtain ⟨g, rfl, _⟩ := hs a rfl
    exact ⟨g, c, rfl⟩
theorem RwA.end_ {lo : Nat} {w : World} {v : Value} {k : Nat} (h : RwA lo w v k) : ∃ g c xs, v = .slice (some ⟨g, 0, none⟩) k c ∧ k ≤ c ∧ Gs 22 w lo (some ⟨g, 0, none⟩) k xs := by
  obtain ⟨⟨F, hF⟩, g, c, rfl⟩ := h
  obtain ⟨A, c', xs, e, hc, _, _, hg, _⟩ := hF.fin
  injection e with e1 e2 e3
  subst e1; subst e3
  exact ⟨g, c, xs, rfl, hc, hg⟩
theorem RwA.pick {lo : Nat} {w : World} {v : Value} {k : Nat} (h : RwA lo w v k) (Q : O) : ∃ F, Rw lo w v k F ∧ F k = Q := by
  obtain ⟨⟨F, hF⟩, _⟩ := h
  exact ⟨fun j => if j = k then Q else F j, hF.like fun j hj => by simp [show j ≠ k by omega], by simp⟩
theorem RwA.on {lo g : Nat} {w w' : World} {v : Value} {k : Nat} (h : RwA lo w v k) (o : On g w w') (hg : g < lo) : RwA lo w' v k := by
  obtain ⟨⟨F, hF⟩, hv⟩ := h
  exact ⟨⟨F, hF.on o hg⟩, hv⟩
/-- numbers that a call has drawn: a list in memory of its own -/
def PDr (n : Nat) (w : World) (e : Ending) (w' : World) : Prop := ∃ (g c : Nat) (xs : List Nat), e = .returned (.slice (some ⟨g, 0, none⟩) n c) ∧ n ≤ c ∧ Gs 22 w' w.heap.size (some ⟨g, 0, none⟩) n xs ∧ w.Since w.heap.size w'
set_option maxHeartbeats 4000000 in
set_option maxRecDepth 100000 in
theorem floats_any (B b K N : Nat) (w : World) (h : Src B b K w) (hK : K ≤ 100000) (hN : N ≤ 10000) :
    Calls Try.prog 52 #[.pointer (some ⟨b, 0, none⟩), .int .i64 (N : Int)] w fun e w' => ∃ (g c : Nat) (xs : List Nat), e = .returned (.slice (some ⟨g, 0, none⟩) N c) ∧ N ≤ c ∧ Gs 22 w' w.heap.size (some ⟨g, 0, none⟩) N xs ∧ Src B b (K + 2 + 12 * N) w' ∧ On b w w' := by
  have HH := Lib.hid h
  have hlt := h.lt
  clear h
  go_enter Try.func52, Try.ntmps52
  go_wp2_with fail
  generalize hW : World.alloc _ _ = W
  have R1 : Hid (RwA w.heap.size W (.slice (some ⟨w.heap.size, 0, none⟩) 0 0) 0) := Lib.hid (by rw [← hW]; exact ⟨⟨fun _ => none, Rw.start w _ (Nat.le_refl _) _⟩, _, _, rfl⟩)
  have O1 : Hid (On b w W) := Lib.hid (by rw [← hW]; exact (On.refl _ _).alloc (by omega) _)
  have S1 : Hid (Src B b K W) := Lib.hid (HH.out.on (by rw [← hW]; exact (World.Since.refl _ _).alloc (by omega) _))
  clear hW
  refine (one_any B b K 4 W S1.out (by omega) (by omega)).mono ?_
  rintro e w1 ⟨st, rfl, s2, o2⟩
  have S2 := Lib.hid s2; have O2 := Lib.hid (O1.out.trans o2); have R2 := Lib.hid (R1.out.on o2 hlt); clear s2 o2 R1 O1 S1
  cases st
  all_goals
    go_wp2_with fail
    go_loopw [1, 5] (fun i v wr => ∃ k : Nat, k ≤ N ∧ i = .int .i64 ((N : Int) - k) ∧ RwA w.heap.size wr v k ∧ Src B b (K + 2 + 12 * k) wr ∧ On b w wr) (fun i _ _ => (intOf i).toNat)
    case atStart => exact ⟨0, Nat.zero_le _, by simp, R2.out, S2.out, O2.out⟩
    case round =>
      obtain ⟨k, hk, rfl, hr, hs, ho⟩ := hrel
      have HR := Lib.hid hr; have HS := Lib.hid hs; have HO := Lib.hid ho
      clear hr hs ho
      by_cases hlt2 : k < N
      · have hd : decide (0 < (N : Int) - k) = true := decide_eq_true (by omega)
        go_wp2_with fail
        first
        | refine (plain_any B b (K + 2 + 12 * k) wr HS.out (by omega)).mono ?_
        | refine (float_any B b (K + 2 + 12 * k) wr HS.out (by omega)).mono ?_
        rintro e w3 ⟨q, Q, rfl, hq, s3, o3⟩
        have S3 : Hid (Src B b (K + 2 + 12 * (k + 1)) w3) := Lib.hid (s3.up (by omega))
        have O3 := Lib.hid (HO.out.trans o3); have R3 := Lib.hid (HR.out.on o3 hlt)
        clear s3 o3
        obtain ⟨F, hF, hFk⟩ := R3.out.pick Q
        have hlo : w.heap.size ≤ w3.heap.size := O3.out.1.size
        have HF := Lib.hid hF; clear hF
        have hz : Hid (Fv .f32 q (F k)) := by rw [hFk]; exact hq
        have hlt3 : b < w3.heap.size := by omega
        go_wp2_with (first | (at_builtin; refine wpList_app1 rfl (.tmp 20) (.tmp 23) rfl w.heap.size _ k _ rfl _ _ rfl (by simp [go_sem]) (by omega) (by simp; omega) hz (HF.out.alloc _) ?_; intro v' w4 hR4 hS4) | (at_builtin; refine wpList_app1 rfl (.tmp 15) (.tmp 18) rfl w.heap.size _ k _ rfl _ _ rfl (by simp [go_sem]) (by omega) (by simp; omega) hz (HF.out.alloc _) ?_; intro v' w4 hR4 hS4))
        have hs4 : w3.Since w.heap.size w4 := ((World.Since.refl _ _).alloc hlo _).trans hS4.out
        have HS4 := Lib.hid hs4; clear hs4
        go_roundw
        case rel => exact ⟨k + 1, by omega, by go_num, RwA.grown hR4.out, S3.out.on (since_mono HS4.out (by omega)), on_post O3.out HS4.out (Nat.le_refl _) hlt⟩
        case measure => simp [intOf]; omega
      · have hd : decide (0 < (N : Int) - k) = false := decide_eq_false (by omega)
        obtain rfl : k = N := by omega
        obtain ⟨g, cp, zs, rfl, hcp, hg⟩ := HR.out.end_
        have HG := Lib.hid hg; clear hg
        go_wp2
        go_ret
        exact ⟨g, cp, zs, rfl, hcp, HG.out, HS.out, HO.out⟩
end Go.Proofs.Ytecgipilamefmaa

/- Draws: what laws draw of their bytes. -/
set_option linter.unusedVariables false
set_option linter.unusedSimpArgs false
namespace Go.Proofs.Ytecgipilamefmaa
open Fl Go.RowKit
theorem source_any (A : Option Addr) (n c : Nat) (xs : List Int) (w : World) (h : Bs w w.heap.size A n xs) (hn : n ≤ 1048576) :
    Calls Try.prog 45 #[.slice A n c] w fun e w' => e = .returned (.pointer (some ⟨w.heap.size, 0, none⟩)) ∧ Src w.heap.size w.heap.size 0 w' ∧ w.Since w.heap.size w' := by
  have HH := Lib.hid h; clear h
  go_enter Try.func45, Try.ntmps45
  go_wp2
  go_ret
  refine ⟨rfl, ⟨A, n, c, xs, 0, 0, Go.Deep.blk_alloc_new _ _, HH.out.since ((World.Since.refl _ _).alloc (Nat.le_refl _) _) (Nat.le_refl _), Nat.le_refl _, hn, by omega, by omega⟩, (World.Since.refl _ _).alloc (Nat.le_refl _) _⟩
set_option maxHeartbeats 4000000 in
set_option maxRecDepth 100000 in
theorem samples_any (A : Option Addr) (n c : Nat) (xs : List Int) (m : Nat) (w : World) (h : Bs w w.heap.size A n xs) (hn : n ≤ 1048576) (hm : m ≤ 9000) :
    Calls Try.prog 24 #[.slice A n c, .int .i64 (m : Int)] w fun e w' => ∃ k, k ≤ m ∧ PDr k w e w' := by
  have HH := Lib.hid h; clear h
  go_enter Try.func24, Try.ntmps24
  go_wp2_with fail
  refine (source_any A n c xs w HH.out hn).mono ?_
  rintro e w1 ⟨rfl, s1, t1⟩
  have S1 := Lib.hid s1; have T1 := Lib.hid t1; clear s1 t1
  go_wp2_with fail
  refine (pick_any w.heap.size w.heap.size 0 ((m : Int) + 1) w1 S1.out (by omega) (by omega)).mono ?_
  rintro e w2 ⟨v, rfl, a1, a2, s2, o2⟩
  have a3 := a2 (by omega)
  obtain ⟨k, rfl⟩ := Int.eq_ofNat_of_zero_le a1
  have S2 := Lib.hid s2; have T2 := Lib.hid (T1.out.trans (o2.since (Nat.le_refl _))); clear s2 o2
  go_wp2_with fail
  refine (floats_any w.heap.size w.heap.size 2 k w2 S2.out (by omega) (by omega)).mono ?_
  rintro e w3 ⟨g, cp, zs, rfl, hp, hg, s3, o3⟩
  have hz := T2.out.size
  have G3 := Lib.hid (hg.less hz); have T3 := Lib.hid (T2.out.trans (o3.since (Nat.le_refl _))); clear hg s3 o3
  go_wp2
  go_ret
  exact ⟨k, by omega, g, cp, zs, rfl, hp, G3.out, T3.out⟩
set_option maxHeartbeats 4000000 in
set_option maxRecDepth 100000 in
theorem numbers_any (A : Option Addr) (n c : Nat) (xs : List Int) (m : Nat) (w : World) (h : Bs w w.heap.size A n xs) (hn : n ≤ 1048576) (hm : m ≤ 9000) :
    Calls Try.prog 33 #[.slice A n c, .int .i64 (m : Int)] w (PDr m w) := by
  have HH := Lib.hid h; clear h
  go_enter Try.func33, Try.ntmps33
  go_wp2_with fail
  refine (source_any A n c xs w HH.out hn).mono ?_
  rintro e w1 ⟨rfl, s1, t1⟩
  have S1 := Lib.hid s1; have T1 := Lib.hid t1; clear s1 t1
  go_wp2_with fail
  refine (floats_any w.heap.size w.heap.size 0 m w1 S1.out (by omega) (by omega)).mono ?_
  rintro e w3 ⟨g, cp, zs, rfl, hp, hg, s3, o3⟩
  have hz := T1.out.size
  have G3 := Lib.hid (hg.less hz); have T3 := Lib.hid (T1.out.trans (o3.since (Nat.le_refl _))); clear hg s3 o3
  go_wp2
  go_ret
  exact ⟨g, cp, zs, rfl, hp, G3.out, T3.out⟩
set_option maxHeartbeats 4000000 in
set_option maxRecDepth 100000 in
theorem numberD_any (A : Option Addr) (n c : Nat) (xs : List Int) (w : World) (h : Bs w w.heap.size A n xs) (hn : n ≤ 1048576) :
    Calls Try.prog 27 #[.slice A n c] w fun e w' => ∃ q Q, e = .returned (.float .f32 q) ∧ Hid (Fv .f32 q Q) ∧ w.Since w.heap.size w' := by
  have HH := Lib.hid h; clear h
  go_enter Try.func27, Try.ntmps27
  go_wp2_with fail
  refine (source_any A n c xs w HH.out hn).mono ?_
  rintro e w1 ⟨rfl, s1, t1⟩
  have S1 := Lib.hid s1; have T1 := Lib.hid t1; clear s1 t1
  go_wp2_with fail
  refine (one_any w.heap.size w.heap.size 0 2 w1 S1.out (by omega) (by omega)).mono ?_
  rintro e w2 ⟨v, rfl, s2, o2⟩
  have S2 := Lib.hid s2; have T2 := Lib.hid (T1.out.trans (o2.since (Nat.le_refl _))); clear s2 o2
  cases v
  · go_wp2_with fail
    refine (float_any w.heap.size w.heap.size 2 w2 S2.out (by omega)).mono ?_
    rintro e w3 ⟨q, Q, rfl, hq, s3, o3⟩
    have T3 := Lib.hid (T2.out.trans (o3.since (Nat.le_refl _))); clear s3 o3
    go_wp2
    go_ret
    exact ⟨_, _, rfl, hq, T3.out⟩
  · go_wp2_with fail
    refine (pick_any w.heap.size w.heap.size 2 65536 w2 S2.out (by omega) (by omega)).mono ?_
    rintro e w3 ⟨v3, rfl, b1, b2, s3, o3⟩
    have b3 := b2 (by omega)
    have S3 := Lib.hid s3; have T3 := Lib.hid (T2.out.trans (o3.since (Nat.le_refl _))); clear s3 o3 b2
    go_wp2_with fail
    refine (pick_any w.heap.size w.heap.size (2 + 2) 65536 w3 S3.out (by omega) (by omega)).mono ?_
    rintro e w4 ⟨v4, rfl, c1, c2, s4, o4⟩
    have c3 := c2 (by omega)
    have T4 := Lib.hid (T3.out.trans (o4.since (Nat.le_refl _))); clear s4 o4 c2
    go_wp2_with fail
    refine (from_int (v3 * 65536 + v4) (by omega) (by omega) _).mono ?_
    rintro e w5 ⟨q, rfl, hq, rfl⟩
    go_wp2
    go_ret
    exact ⟨_, _, rfl, hq, T4.out⟩
/-- a number below m that a byte chooses -/
theorem r8At_any (A : Option Addr) (n c : Nat) (xs : List Int) (k m : Int) (w : World) (h : Bs w w.heap.size A n xs) (hk : 0 ≤ k) (hk2 : k ≤ 1000000000) :
    Calls Try.prog 25 #[.slice A n c, .int .i64 k, .int .i64 m] w fun e w' => ∃ v : Int, e = .returned (.int .i64 v) ∧ 0 ≤ v ∧ (1 ≤ m → v < m) ∧ w.Since w.heap.size w' := by
  have HH := Lib.hid h; clear h
  obtain ⟨j, rfl⟩ := Int.eq_ofNat_of_zero_le hk
  by_cases h1 : m ≤ 1
  · have hd : decide (m ≤ 1) = true := decide_eq_true h1
    go_enter Try.func25, Try.ntmps25
    go_wp2
    go_ret
    exact ⟨0, rfl, by omega, fun _ => by omega, by (repeat (first | (with_reducible refine Fl.sinDrew ?_) | (with_reducible refine World.Since.drew ?_) | (with_reducible refine Fl.sinSet ?_ ?_; rotate_left) | (with_reducible refine Fl.sinAlloc ?_ ?_; rotate_left) | with_reducible exact World.Since.refl _ _ | with_reducible assumption | (with_reducible refine Fl.sinStep (by with_reducible assumption) ?_))); all_goals (first | omega | (simp; done) | (simp; omega) | (simp [go_sem]; done) | (simp [go_sem]; omega))⟩
  · have hd : decide (m ≤ 1) = false := decide_eq_false h1
    by_cases h2 : (n : Int) ≤ (j : Int)
    · have hd2 : decide ((n : Int) ≤ (j : Int)) = true := decide_eq_true h2
      go_enter Try.func25, Try.ntmps25
      go_wp2
      go_ret
      exact ⟨0, rfl, by omega, fun _ => by omega, by (repeat (first | (with_reducible refine Fl.sinDrew ?_) | (with_reducible refine World.Since.drew ?_) | (with_reducible refine Fl.sinSet ?_ ?_; rotate_left) | (with_reducible refine Fl.sinAlloc ?_ ?_; rotate_left) | with_reducible exact World.Since.refl _ _ | with_reducible assumption | (with_reducible refine Fl.sinStep (by with_reducible assumption) ?_))); all_goals (first | omega | (simp; done) | (simp; omega) | (simp [go_sem]; done) | (simp [go_sem]; omega))⟩
    · have hd2 : decide ((n : Int) ≤ (j : Int)) = false := decide_eq_false h2
      obtain ⟨g, off, rfl, hg, hc⟩ := HH.out.2.2 (by omega)
      have hcell := hc j (by omega)
      have hv := HH.out.2.1 j
      have hz : m ≠ 0 := by omega
      clear hc
      go_enter Try.func25, Try.ntmps25
      go_wp2
      go_ret
      exact ⟨_, rfl, Int.emod_nonneg _ hz, fun _ => Int.emod_lt_of_pos _ (by omega), by (repeat (first | (with_reducible refine Fl.sinDrew ?_) | (with_reducible refine World.Since.drew ?_) | (with_reducible refine Fl.sinSet ?_ ?_; rotate_left) | (with_reducible refine Fl.sinAlloc ?_ ?_; rotate_left) | with_reducible exact World.Since.refl _ _ | with_reducible assumption | (with_reducible refine Fl.sinStep (by with_reducible assumption) ?_))); all_goals (first | omega | (simp; done) | (simp; omega) | (simp [go_sem]; done) | (simp [go_sem]; omega))⟩
theorem b10At_any (A : Option Addr) (n c : Nat) (xs : List Int) (k m : Int) (w : World) (h : Bs w w.heap.size A n xs) (hk : 0 ≤ k) (hk2 : k ≤ 1000000000) :
    Calls Try.prog 18 #[.slice A n c, .int .i64 k, .int .i64 m] w fun e w' => ∃ v : Int, e = .returned (.int .i64 v) ∧ 0 ≤ v ∧ (1 ≤ m → v < m) ∧ w.Since w.heap.size w' := by
  have HH := Lib.hid h; clear h
  obtain ⟨j, rfl⟩ := Int.eq_ofNat_of_zero_le hk
  by_cases h1 : m ≤ 1
  · have hd : decide (m ≤ 1) = true := decide_eq_true h1
    go_enter Try.func18, Try.ntmps18
    go_wp2
    go_ret
    exact ⟨0, rfl, by omega, fun _ => by omega, by (repeat (first | (with_reducible refine Fl.sinDrew ?_) | (with_reducible refine World.Since.drew ?_) | (with_reducible refine Fl.sinSet ?_ ?_; rotate_left) | (with_reducible refine Fl.sinAlloc ?_ ?_; rotate_left) | with_reducible exact World.Since.refl _ _ | with_reducible assumption | (with_reducible refine Fl.sinStep (by with_reducible assumption) ?_))); all_goals (first | omega | (simp; done) | (simp; omega) | (simp [go_sem]; done) | (simp [go_sem]; omega))⟩
  · have hd : decide (m ≤ 1) = false := decide_eq_false h1
    have hz : m ≠ 0 := by omega
    by_cases h2 : (j : Int) < (n : Int)
    · have hd2 : decide ((j : Int) < (n : Int)) = true := decide_eq_true h2
      obtain ⟨g, off, rfl, hg, hc⟩ := HH.out.2.2 (by omega)
      have hcell := hc j (by omega)
      have hv := HH.out.2.1 j
      clear hc
      go_enter Try.func18, Try.ntmps18
      go_wp2
      go_ret
      exact ⟨_, rfl, Int.emod_nonneg _ hz, fun _ => Int.emod_lt_of_pos _ (by omega), by (repeat (first | (with_reducible refine Fl.sinDrew ?_) | (with_reducible refine World.Since.drew ?_) | (with_reducible refine Fl.sinSet ?_ ?_; rotate_left) | (with_reducible refine Fl.sinAlloc ?_ ?_; rotate_left) | with_reducible exact World.Since.refl _ _ | with_reducible assumption | (with_reducible refine Fl.sinStep (by with_reducible assumption) ?_))); all_goals (first | omega | (simp; done) | (simp; omega) | (simp [go_sem]; done) | (simp [go_sem]; omega))⟩
    · have hd2 : decide ((j : Int) < (n : Int)) = false := decide_eq_false h2
      go_enter Try.func18, Try.ntmps18
      go_wp2
      go_ret
      exact ⟨_, rfl, Int.emod_nonneg _ hz, fun _ => Int.emod_lt_of_pos _ (by omega), by (repeat (first | (with_reducible refine Fl.sinDrew ?_) | (with_reducible refine World.Since.drew ?_) | (with_reducible refine Fl.sinSet ?_ ?_; rotate_left) | (with_reducible refine Fl.sinAlloc ?_ ?_; rotate_left) | with_reducible exact World.Since.refl _ _ | with_reducible assumption | (with_reducible refine Fl.sinStep (by with_reducible assumption) ?_))); all_goals (first | omega | (simp; done) | (simp; omega) | (simp [go_sem]; done) | (simp [go_sem]; omega))⟩
theorem b10Long_any (A B : Option Addr) (n c m d : Nat) (b : Bool) (w : World) (h : (decide ((1048576 : Int) < n) || decide ((1048576 : Int) < m)) = b) :
    Calls Try.prog 14 #[.slice A n c, .slice B m d] w fun e w' => e = .returned (.bool b) ∧ w.Since w.heap.size w' := by
  subst h
  cases h1 : decide ((1048576 : Int) < n)
  all_goals
    go_enter Try.func14, Try.ntmps14
    go_wp2
    go_ret
    exact ⟨ret_bool (by simp), by (repeat (first | (with_reducible refine Fl.sinDrew ?_) | (with_reducible refine World.Since.drew ?_) | (with_reducible refine Fl.sinSet ?_ ?_; rotate_left) | (with_reducible refine Fl.sinAlloc ?_ ?_; rotate_left) | with_reducible exact World.Since.refl _ _ | with_reducible assumption | (with_reducible refine Fl.sinStep (by with_reducible assumption) ?_))); all_goals (first | omega | (simp; done) | (simp; omega) | (simp [go_sem]; done) | (simp [go_sem]; omega))⟩
theorem r8Long_any (A B : Option Addr) (n c m d : Nat) (b : Bool) (w : World) (h : (decide ((48 : Int) < n) || decide ((48 : Int) < m)) = b) :
    Calls Try.prog 23 #[.slice A n c, .slice B m d] w fun e w' => e = .returned (.bool b) ∧ w.Since w.heap.size w' := by
  subst h
  cases h1 : decide ((48 : Int) < n)
  all_goals
    go_enter Try.func23, Try.ntmps23
    go_wp2
    go_ret
    exact ⟨ret_bool (by simp), by (repeat (first | (with_reducible refine Fl.sinDrew ?_) | (with_reducible refine World.Since.drew ?_) | (with_reducible refine Fl.sinSet ?_ ?_; rotate_left) | (with_reducible refine Fl.sinAlloc ?_ ?_; rotate_left) | with_reducible exact World.Since.refl _ _ | with_reducible assumption | (with_reducible refine Fl.sinStep (by with_reducible assumption) ?_))); all_goals (first | omega | (simp; done) | (simp; omega) | (simp [go_sem]; done) | (simp [go_sem]; omega))⟩
end Go.Proofs.Ytecgipilamefmaa

/- A slice of integers that came in. -/
set_option linter.unusedVariables false
set_option linter.unusedSimpArgs false
namespace Go.Proofs.Ytecgipilamefmaa
namespace Fl
open Go.ChangeShapes Go.WideShapes Go.RowKit Go.WideMaps Go.WideElems
section
variable {H : Type} {enc : TypeId × Value → H} {P : Program}
theorem trod_in {w : World} {base : Nat} {spare : Nat → Bool} {held : Bool} {fuel : Nat} {t : TypeId} {k : IntKind} {cs : List Value} {x : DataW H × List MemPlace} (ht : P.underlying t = some (.int k))
    (h : DataW.trod enc P w base spare held fuel t cs = some x) : ∃ b, cs = [.int k b] ∧ (Lit.int k b).wf = true := by
  cases fuel with
  | zero => simp [DataW.trod] at h
  | succ n =>
    unfold DataW.trod at h
    rw [ht] at h
    split at h <;> simp_all
theorem open_is {W : World} {base b0 : Nat} {r : Reach} {t e : TypeId} {v : Value} {d : DataW H} {ps : List MemPlace} (ht : P.underlying t = some (.slice e)) (he : P.underlying e = some (.int .i64)) (hc : P.cellsOf e = 1)
    (hval : Value.okWide P W r b0 t v) (h : DataW.Trod enc P W base (fun _ => true) true t v d ps) :
    ∃ (A : Option Addr) (n c : Nat) (xs : List Int), v = .slice A n c ∧ (Is W W.heap.size A n xs ∧ ∀ k, k < n → (Lit.int .i64 (wi xs k)).wf = true) ∧ n ≤ 9223372036854775807 := by
  obtain ⟨A, n, c, rfl⟩ := okWide_slice ht hval
  obtain ⟨fuel, hf⟩ := h
  rcases Go.Deep.open_slice ht hf with ⟨hcs, _⟩ | ⟨a, len, cap, m, k, D, Pl, hcs, _, hl, hm, hmm, _, hi⟩
  · simp only [Value.cells, Array.toList] at hcs
    injection hcs with hcs _
    injection hcs with h1 h2 h3
    subst h1; subst h2; subst h3
    exact ⟨none, 0, 0, [], rfl, ⟨⟨rfl, (fun h => by omega)⟩, (fun k h => by omega)⟩, by omega⟩
  · simp only [Value.cells, Array.toList] at hcs
    injection hcs with hcs _
    injection hcs with h1 h2 h3
    subst h1; subst h2; subst h3
    rw [if_pos rfl] at hmm
    subst hmm
    have hcell : ∀ i, i < m → ∃ b : Int, W.cell? (a.add i) = some (.int .i64 b) ∧ (Lit.int .i64 b).wf = true := by
      intro i him
      obtain ⟨cs', hcs', htr⟩ := hi i him
      rw [hc, Nat.mul_one] at hcs'
      obtain ⟨_, hlen, hat⟩ := World.cells?_some hcs'
      obtain ⟨b, hb, hw⟩ := trod_in he htr
      have h0 := hat 0 (by omega)
      rw [hb] at h0
      refine ⟨b, ?_, hw⟩
      have e : (a.add i).add 0 = a.add i := by simp [Addr.add]
      rw [e] at h0
      exact h0
    let f : Nat → Int := fun i => if h : i < m then Classical.choose (hcell i h) else 0
    have hfs : ∀ i (h : i < m), W.cell? (a.add i) = some (.int .i64 (f i)) ∧ (Lit.int .i64 (f i)).wf = true := by
      intro i h
      have := Classical.choose_spec (hcell i h)
      simp only [f, dif_pos h]
      exact this
    refine ⟨some a, n, m, (List.range n).map f, rfl, ⟨⟨by simp, ?_⟩, ?_⟩, by unfold maxLen at hm; omega⟩
    · intro hn
      obtain ⟨g, off, spot⟩ := a
      have h0 := (hfs 0 (by omega)).1
      have hspot : spot = none := by simpa [Addr.add] using World.cell?_spot h0
      subst hspot
      refine ⟨g, off, rfl, ?_, fun k hk => ?_⟩
      · have h1 : W.cell? ⟨g, off, none⟩ = some (.int .i64 (f 0)) := by simpa [Addr.add] using h0
        rcases Nat.lt_or_ge g W.heap.size with h2 | h2
        · exact h2
        · simp [World.cell?, Array.getElem?_eq_none h2] at h1
      · have h1 := (hfs k (by omega)).1
        rw [Go.WideShapes.add_plain] at h1
        rw [h1]
        unfold iv wi
        simp [hk]
    · intro k hk
      have h1 := (hfs k (by omega)).2
      unfold wi
      simpa [hk] using h1
end
end Fl
end Go.Proofs.Ytecgipilamefmaa

/- Draws: lists that a law compares, and the bytes of a law. -/
set_option linter.unusedVariables false
set_option linter.unusedSimpArgs false
namespace Go.Proofs.Ytecgipilamefmaa
open Fl Go.RowKit
namespace Fl
open Go.ChangeShapes Go.WideShapes Go.RowKit Go.WideMaps Go.WideElems
section
variable {H : Type} {enc : TypeId × Value → H} {P : Program}
theorem open_bs {W : World} {base b0 : Nat} {r : Reach} {t e : TypeId} {v : Value} {d : DataW H} {ps : List MemPlace} (ht : P.underlying t = some (.slice e)) (he : P.underlying e = some (.int .u8)) (hc : P.cellsOf e = 1)
    (hval : Value.okWide P W r b0 t v) (h : DataW.Trod enc P W base (fun _ => true) true t v d ps) :
    ∃ (A : Option Addr) (n c : Nat) (xs : List Int), v = .slice A n c ∧ Bs W W.heap.size A n xs ∧ n ≤ 9223372036854775807 := by
  obtain ⟨A, n, c, rfl⟩ := okWide_slice ht hval
  obtain ⟨fuel, hf⟩ := h
  rcases Go.Deep.open_slice ht hf with ⟨hcs, _⟩ | ⟨a, len, cap, m, k, D, Pl, hcs, _, hl, hm, hmm, _, hi⟩
  · simp only [Value.cells, Array.toList] at hcs
    injection hcs with hcs _
    injection hcs with h1 h2 h3
    subst h1; subst h2; subst h3
    exact ⟨none, 0, 0, [], rfl, ⟨rfl, (fun k => by simp [wi]), (fun h => by omega)⟩, by omega⟩
  · simp only [Value.cells, Array.toList] at hcs
    injection hcs with hcs _
    injection hcs with h1 h2 h3
    subst h1; subst h2; subst h3
    rw [if_pos rfl] at hmm
    subst hmm
    have hcell : ∀ i, i < m → ∃ b : Int, W.cell? (a.add i) = some (.int .u8 b) ∧ (Lit.int .u8 b).wf = true := by
      intro i him
      obtain ⟨cs', hcs', htr⟩ := hi i him
      rw [hc, Nat.mul_one] at hcs'
      obtain ⟨_, hlen, hat⟩ := World.cells?_some hcs'
      obtain ⟨b, hb, hw⟩ := trod_in he htr
      have h0 := hat 0 (by omega)
      rw [hb] at h0
      refine ⟨b, ?_, hw⟩
      have e : (a.add i).add 0 = a.add i := by simp [Addr.add]
      rw [e] at h0
      exact h0
    let f : Nat → Int := fun i => if h : i < m then Classical.choose (hcell i h) else 0
    have hfs : ∀ i (h : i < m), W.cell? (a.add i) = some (.int .u8 (f i)) ∧ (Lit.int .u8 (f i)).wf = true := by
      intro i h
      have := Classical.choose_spec (hcell i h)
      simp only [f, dif_pos h]
      exact this
    have hw8 : ∀ i, 0 ≤ f i ∧ f i < 256 := by
      intro i
      by_cases h : i < m
      · have h1 := (hfs i h).2
        simp only [Lit.wf, Bool.and_eq_true, decide_eq_true_eq] at h1
        have e1 : IntKind.min .u8 = 0 := by kernel_rfl
        have e2 : IntKind.max .u8 = 255 := by kernel_rfl
        rw [e1, e2] at h1
        omega
      · simp [f, h]
    refine ⟨some a, n, m, (List.range n).map f, rfl, ⟨by simp, ?_, ?_⟩, by unfold maxLen at hm; omega⟩
    · intro k
      unfold wi
      by_cases hk : k < n
      · simpa [hk] using hw8 k
      · simp [hk]
    · intro hn
      obtain ⟨g, off, spot⟩ := a
      have h0 := (hfs 0 (by omega)).1
      have hspot : spot = none := by simpa [Addr.add] using World.cell?_spot h0
      subst hspot
      refine ⟨g, off, rfl, ?_, fun k hk => ?_⟩
      · have h1 : W.cell? ⟨g, off, none⟩ = some (.int .u8 (f 0)) := by simpa [Addr.add] using h0
        rcases Nat.lt_or_ge g W.heap.size with h2 | h2
        · exact h2
        · simp [World.cell?, Array.getElem?_eq_none h2] at h1
      · have h1 := (hfs k (by omega)).1
        rw [Go.WideShapes.add_plain] at h1
        rw [h1]
        unfold wi
        simp [hk]
end
end Fl
end Go.Proofs.Ytecgipilamefmaa

/- The law of spreads. -/
set_option linter.unusedVariables false
set_option linter.unusedSimpArgs false
namespace Go.Proofs.Ytecgipilamefmaa
open Fl Go.RowKit
theorem fs_cellL {w : World} {B n g k : Nat} {xs : List Nat} (h : Fs w B (some ⟨g, 0, none⟩) n xs) (hk : k < n) : w.cell? ⟨g, k, none⟩ = some (.float .f32 (wd xs k)) ∧ g < B := by
  obtain ⟨g', off, e, hg, hc⟩ := h.2.2 (by omega)
  injection e with e
  injection e with e1 e2 _
  subst e1; subst e2
  have := hc k hk
  rw [Nat.zero_add] at this
  exact ⟨this, hg⟩
def sumC (xs : List Nat) (p n : Nat) : Nat → Nat
  | 0 => 0
  | k + 1 => sumC xs p n k + cntS xs p n k
def allS (xs : List Nat) : Nat → Nat
  | 0 => 0
  | k + 1 => if inP (ab .f32 (wd xs k)) = true then allS xs k + 1 else allS xs k
theorem sumC_zero (xs : List Nat) (p : Nat) : ∀ k, sumC xs p 0 k = 0
  | 0 => rfl
  | k + 1 => by unfold sumC; rw [sumC_zero xs p k]; rfl
theorem sumC_out {xs : List Nat} {p n : Nat} (h : inP (ab .f32 (wd xs n)) = false) : ∀ k, sumC xs p (n + 1) k = sumC xs p n k
  | 0 => rfl
  | k + 1 => by
    unfold sumC
    rw [sumC_out h k]
    congr 1
    show (if inP (ab .f32 (wd xs n)) = true ∧ _ then _ else _) = _
    rw [if_neg (by rw [h]; simp)]
theorem sumC_in {xs : List Nat} {p n q : Nat} (h : inP (ab .f32 (wd xs n)) = true) (hq : ∀ j : Nat, partO (ab .f32 (wd xs n)) p = some (j : Int) ↔ j = q) : ∀ k, sumC xs p (n + 1) k = sumC xs p n k + if q < k then 1 else 0
  | 0 => rfl
  | k + 1 => by
    unfold sumC
    rw [sumC_in h hq k]
    have e : cntS xs p (n + 1) k = if k = q then cntS xs p n k + 1 else cntS xs p n k := by
      show (if inP (ab .f32 (wd xs n)) = true ∧ partO (ab .f32 (wd xs n)) p = some (k : Int) then _ else _) = _
      by_cases hk : k = q
      · rw [if_pos ⟨h, (hq k).2 hk⟩, if_pos hk]
      · rw [if_neg (fun h2 => hk ((hq k).1 h2.2)), if_neg hk]
    rw [e]
    by_cases h1 : k = q
    · rw [if_pos h1, if_neg (by omega), if_pos (by omega)]; omega
    · rw [if_neg h1]
      by_cases h2 : q < k
      · rw [if_pos h2, if_pos (by omega)]; omega
      · rw [if_neg h2, if_neg (by omega)]; omega
theorem sum_all (xs : List Nat) (hx : ∀ j, wd xs j < 4294967296) (p : Nat) (hp : 1 ≤ p) (hp2 : p ≤ 64) : ∀ n, sumC xs p n p = allS xs n
  | 0 => sumC_zero xs p p
  | n + 1 => by
    unfold allS
    cases h : inP (ab .f32 (wd xs n))
    · rw [if_neg (by decide), sumC_out h, sum_all xs hx p hp hp2 n]
    · obtain ⟨m, q, _, _, hq, hj⟩ := partO_of (hx n) h hp hp2
      rw [if_pos rfl, sumC_in h hj, if_pos hq, sum_all xs hx p hp hp2 n]
theorem sumC_le (xs : List Nat) (p n : Nat) : ∀ k, sumC xs p n k ≤ n * k
  | 0 => Nat.le_refl _
  | k + 1 => by have := sumC_le xs p n k; have := cntS_le xs p n k; unfold sumC; rw [Nat.mul_succ]; omega
theorem allS_le (xs : List Nat) : ∀ k, allS xs k ≤ k
  | 0 => Nat.le_refl _
  | k + 1 => by have := allS_le xs k; unfold allS; split <;> omega
set_option maxHeartbeats 16000000 in
set_option maxRecDepth 100000 in
theorem lawSpreads_any (A : Option Addr) (n c : Nat) (xs : List Int) (B : Option Addr) (m d : Nat) (ys : List Int) (w : World) (hA : Bs w w.heap.size A n xs) (hB : Bs w w.heap.size B m ys) :
    Calls Try.prog 6 #[.slice A n c, .slice B m d] w fun e w' => e = .returned (.bool true) ∧ w.Since w.heap.size w' := by
  have HA := Lib.hid hA; have HB := Lib.hid hB; clear hA hB
  cases hl : (decide ((48 : Int) < n) || decide ((48 : Int) < m))
  case true =>
    go_enter Try.func6, Try.ntmps6
    go_wp2_with fail
    refine (r8Long_any A B n c m d true w hl).mono ?_
    rintro e w1 ⟨rfl, hs⟩
    have S1 := Lib.hid hs; clear hs
    go_wp2
    go_ret
    exact ⟨rfl, S1.out⟩
  case false =>
    have hnm : n ≤ 48 ∧ m ≤ 48 := by simp only [Bool.or_eq_false_iff, decide_eq_false_iff_not] at hl; omega
    go_enter Try.func6, Try.ntmps6
    go_wp2_with fail
    refine (r8Long_any A B n c m d false w hl).mono ?_
    rintro e w1 ⟨rfl, hs⟩
    have S1 := Lib.hid hs; clear hs hl
    go_wp2_with fail
    refine (samples_any B m d ys 14 w1 ((HB.out.since S1.out (Nat.le_refl _)).more S1.out.size) (by omega) (by omega)).mono ?_
    rintro e w2 ⟨k, hk, g, cp, zs, rfl, hcp, hg, hs⟩
    have G2 : Hid (Fs w2 w2.heap.size (some ⟨g, 0, none⟩) k zs) := Lib.hid hg.read
    have S2 := Lib.hid (since_step S1.out hs)
    clear hg hs
    go_wp2_with fail
    refine (r8At_any A n c xs 40 9 w2 ((HA.out.since S2.out (Nat.le_refl _)).more S2.out.size) (by omega) (by omega)).mono ?_
    rintro e w3 ⟨v3, rfl, a1, a2, hs⟩
    have a3 := a2 (by omega)
    have S3 := Lib.hid (since_step S2.out hs)
    have G3 := Lib.hid ((G2.out.since hs).more hs.size)
    clear hs a2
    obtain ⟨p0, rfl⟩ := Int.eq_ofNat_of_zero_le a1
    have hp1 : Hid (1 ≤ p0 + 1 ∧ p0 + 1 ≤ 9) := Lib.hid (by omega)
    go_wp2_with fail
    have epp : (1 : Int) + (p0 : Int) = ((p0 + 1 : Nat) : Int) := by omega
    rw [epp]
    clear a1 a3 epp
    generalize p0 + 1 = p at *
    refine (implSpread_ok (some ⟨g, 0, none⟩) k cp zs p w3 G3.out (by omega) hp1.out.1 (by have := hp1.out; omega)).mono ?_
    rintro e w4 ⟨⟨A4, n4, x4⟩, c4, rfl, hn4, hg4, hx4, hs⟩
    simp only at hn4 hx4 hg4
    subst hn4
    have P4 : Hid (Is w4 w4.heap.size A4 n4 x4) := Lib.hid hg4.read
    have S4 := Lib.hid (since_step S3.out hs)
    have G4 := Lib.hid ((G3.out.since hs).more hs.size)
    have X4 : Hid (∀ j, j < n4 → wi x4 j = (cntS zs n4 k j : Int)) := Lib.hid (by
      intro j hj
      rw [hx4]
      unfold wi
      simp [hj])
    clear hg4 hx4 hs
    go_wp2
    go_loopw [9, 10] (fun o i wr => ∃ (j : Nat) (S : Int), j ≤ n4 ∧ i = .int .i64 (j : Int) ∧ o = .int .i64 S ∧ Hid (S = (sumC zs n4 k j : Int)) ∧ wr = w4) (fun _ i _ => n4 - (intOf i).toNat)
    case atStart => exact ⟨0, 0, Nat.zero_le _, rfl, rfl, Lib.hid rfl, rfl⟩
    case round =>
      obtain ⟨j, S, hj, rfl, rfl, hS, rfl⟩ := hrel
      have hle := sumC_le zs n4 k j
      have hSb : 0 ≤ S ∧ S < 10000 := by
        have h1 := hS.out
        have h2 : k * j ≤ 14 * 9 := Nat.mul_le_mul hk (by have := hp1.out; omega)
        omega
      obtain ⟨sb1, sb2⟩ := hSb
      clear hle
      by_cases hlt : j < n4
      · obtain ⟨g4, off, rfl, hgl, hc4⟩ := P4.out.2 (by omega)
        have kc := hc4 j hlt
        rw [show iv x4 j = .int .i64 (wi x4 j) from rfl, X4.out j hlt] at kc
        have hcj := cntS_le zs n4 k j
        have hj3 : j < 9 := by have := hp1.out; omega
        obtain ⟨C, hC⟩ : ∃ C : Int, Hid (C = (cntS zs n4 k j : Int)) := ⟨_, Lib.hid rfl⟩
        rw [← hC.out] at kc
        have hC0 : 0 ≤ C ∧ C ≤ 14 := by have := hC.out; omega
        obtain ⟨c0, c1⟩ := hC0
        have hneg : decide (C < 0) = false := decide_eq_false (by omega)
        clear hcj hc4
        go_wp2
        go_roundw
        case rel =>
          refine ⟨j + 1, S + C, by omega, by go_num, by go_num, Lib.hid ?_, trivial⟩
          rw [hS.out, hC.out]
          show _ = ((sumC zs n4 k j + cntS zs n4 k j : Nat) : Int)
          omega
        case measure => simp [intOf]; omega
      · obtain rfl : j = n4 := by omega
        go_wp2
        go_loopw [11, 12] (fun o i wq => ∃ (i0 : Nat) (T : Int), i0 ≤ k ∧ i = .int .i64 (i0 : Int) ∧ o = .int .i64 T ∧ Hid (T = (allS zs i0 : Int)) ∧ wq = wr) (fun _ i _ => k - (intOf i).toNat)
        case atStart => exact ⟨0, 0, Nat.zero_le _, rfl, rfl, Lib.hid rfl, rfl⟩
        case round =>
          obtain ⟨i0, T, hi0, rfl, rfl, hT, rfl⟩ := hrel
          have hTl := allS_le zs i0
          have hTb : 0 ≤ T ∧ T < 10000 := by have := hT.out; omega
          obtain ⟨tb1, tb2⟩ := hTb
          clear hTl
          by_cases hlt : i0 < k
          · obtain ⟨kz, bz⟩ := fs_cellL G4.out hlt
            have hx : Hid (Fv .f32 (wd zs i0) (ab .f32 (wd zs i0))) := Lib.hid ⟨G4.out.2.1.at_ i0, rfl⟩
            have m1 : Hid (Fv .f32 3212836864 (some 3212836864)) := fvc (by decide) (by decide)
            have o1 : Hid (Fv .f32 1065353216 (some 1065353216)) := fvc (by decide) (by decide)
            have g1_ := gt_fv hx m1
            have g2_ := eq_fv hx m1
            have g3_ := lt_fv hx o1
            have hP : Hid (allS zs (i0 + 1) = if ((gtO (ab .f32 (wd zs i0)) (some 3212836864) || eqO (ab .f32 (wd zs i0)) (some 3212836864)) && ltO (ab .f32 (wd zs i0)) (some 1065353216)) = true then allS zs i0 + 1 else allS zs i0) := Lib.hid rfl
            have done : ∀ T' : Int, T' = (allS zs (i0 + 1) : Int) → ∃ (i1 : Nat) (T2 : Int), i1 ≤ k ∧ Value.int .i64 ((i0 : Int) + 1) = .int .i64 (i1 : Int) ∧ Value.int .i64 T' = .int .i64 T2 ∧ Hid (T2 = (allS zs i1 : Int)) ∧ True := fun T' h => ⟨i0 + 1, T', by omega, rfl, rfl, Lib.hid h, trivial⟩
            have hi14 : i0 < 14 := by omega
            cases e1 : gtO (ab .f32 (wd zs i0)) (some 3212836864) <;> cases e2 : eqO (ab .f32 (wd zs i0)) (some 3212836864) <;> cases e3 : ltO (ab .f32 (wd zs i0)) (some 1065353216) <;> rw [e1] at g1_ hP <;> rw [e2] at g2_ hP <;> rw [e3] at g3_ hP
            all_goals
              have hP2 := hP.out
              simp only [Bool.or_false, Bool.or_true, Bool.true_or, Bool.false_or, Bool.and_true, Bool.and_false, Bool.false_eq_true, if_false, if_true] at hP2
              have HP := Lib.hid hP2
              clear hP hP2 e1 e2 e3
              have D := Lib.hid done
              clear done
              go_wp2
              go_roundw
              case rel =>
                refine D.out _ ?_
                rw [HP.out, hT.out] <;> omega
              case measure => simp [intOf]; omega
          · obtain rfl : i0 = k := by omega
            have hsum : S = T := by rw [hS.out, hT.out, sum_all zs (fun j => G4.out.2.1.at_ j) j hp1.out.1 (by have := hp1.out; omega)]
            subst hsum
            clear hS hT
            go_wp2_with fail
            refine (r8At_any A n c xs 41 241 wr ((HA.out.since S4.out (Nat.le_refl _)).more S4.out.size) (by omega) (by omega)).mono ?_
            rintro e w5 ⟨v5, rfl, b1, b2, hs⟩
            have b3 := b2 (by omega)
            obtain ⟨t, rfl⟩ := Int.eq_ofNat_of_zero_le b1
            have ht : t < 241 := by omega
            have S5 := Lib.hid (since_step S4.out hs)
            clear hs b1 b2 b3
            go_wp2_with fail
            refine (implGainOf_any _ w5).mono ?_
            rintro e w6 ⟨r6, m6, rfl, hr6, rfl⟩
            have hT6 := ten_gain ht (Lib.hid hr6)
            have hr32 : r6 < 4294967296 := hr6.1
            have hin : inB (5 * (t : Int) - 600) (-2000) 2000 = true := by simp only [inB, Bool.and_eq_true, decide_eq_true_eq]; omega
            rw [hin]
            clear hr6 hin
            go_wp2_with fail
            refine (implTenths_any r6 _ hr32).mono ?_
            rintro e w7 ⟨rfl, m7, rfl⟩
            rw [hT6.1, hT6.2]
            clear hT6
            go_wp2_with fail
            refine (implTenths_any 0 _ (by decide)).mono ?_
            rintro e w8 ⟨rfl, m8, rfl⟩
            rw [show tenR 0 = 0 by decide, show tenB 0 = false by decide]
            go_wp2
            go_ret
            exact ⟨rfl, since_drewN S5.out _⟩
end Go.Proofs.Ytecgipilamefmaa

