/- Loose regions with a tail, whose first operation, a move, is taken first (a row that a loop appends to). -/
import Derived.Test.YtfgebggfoboalaaLq
import Derived.OrdersHeld
set_option linter.unusedVariables false
set_option linter.unusedSimpArgs false
namespace Go.Proofs.Ytfgebggfoboalaa
namespace Lo
open Fl Ieee
section
variable {P : Program} {ops : Array Oper} {md : Region.Mode} {C : World → Prop} {D : Nat → Bool}
/-- every operation of the head but the first has one behind it, up to n, that waits for it -/
def sink1 (md : Region.Mode) (ops : Array Oper) (n : Nat) : Bool := (List.range n).all fun i => decide (i = 0) || (List.range (n + 1)).any fun j => decide (i < j) && Region.waitsFor md ops j i
theorem waits1 {n : Nat} {listed : Array Bool} (hs : sink1 md ops n = true) (hc : Region.chainB md ops n = true) (inv : HeadInv md ops n listed) (hn : n < ops.size) :
    ∀ (m i : Nat), n ≤ i + m → 1 ≤ i → i < n → listed.getD i true = false → ∀ t, n ≤ t → t ∉ Region.ready md ops listed := by
  intro m
  induction m with
  | zero => intro i h1 _ h2; omega
  | succ m ih =>
    intro i hm h1 hin hun t ht hr
    have hr2 := hr
    obtain ⟨_, ot, hot, hdep⟩ := mem_ready.1 hr
    have hts : t < ops.size := (Array.getElem?_eq_some_iff.1 hot).1
    have dep : ∀ j, Region.waitsFor md ops t j = true → listed.getD j false = true := fun j hj => by
      obtain ⟨o2, ho2, e, he, hb, hon⟩ := Region.waitsFor_spec hj
      have : o2 = ot := Option.some.inj (ho2.symm.trans hot)
      subst this
      rw [← hon]; exact hdep e he hb
    rcases Nat.lt_or_ge n t with hlt | hge
    · have h3 := List.all_eq_true.1 hc t (List.mem_range.2 hts)
      rw [Bool.or_eq_true, decide_eq_true_eq] at h3
      rcases h3 with h3 | h3
      · omega
      · have h4 := dep _ h3
        have h5 := inv.tail (t - 1) (by omega) (by omega)
        rw [getD_both h5] at h4
        cases h4
    · obtain rfl : t = n := by omega
      have h3 := List.all_eq_true.1 hs i (List.mem_range.2 hin)
      rw [Bool.or_eq_true, decide_eq_true_eq] at h3
      rcases h3 with h3 | h3
      · omega
      obtain ⟨j, hj, hj2⟩ := List.any_eq_true.1 h3
      rw [Bool.and_eq_true, decide_eq_true_eq] at hj2
      have hjt : j ≤ t := by have := List.mem_range.1 hj; omega
      have hi0 := getD_both hun
      rcases Nat.lt_or_ge j t with hjlt | hjge
      · refine ih j (by omega) (by omega) hjlt ?_ t (Nat.le_refl _) hr2
        refine getD_in (by rw [inv.size]; omega) ?_
        cases hl : listed.getD j false with
        | false => rfl
        | true =>
          obtain ⟨oj, hoj, e, he, hb, hon⟩ := Region.waitsFor_spec hj2.2
          have h6 := inv.closed j oj hoj hl e he hb
          rw [hon, hi0] at h6
          cases h6
      · obtain rfl : j = t := by omega
        have h6 := dep i hj2.2
        rw [hi0] at h6
        cases h6
theorem anyM_first1 {n i : Nat} {oi : Oper} {v : Value} {L : Array Bool → Act → Prop} (hi : ops[i]? = some oi) (hsel : ∀ (j : Nat) (o : Oper) cs b, ops[j]? = some o → o.op ≠ .select cs b)
    (hs : sink1 md ops n = true) (hc : Region.chainB md ops n = true) (hn : n < ops.size) (hin : i < n) (hi1 : 1 ≤ i)
    (hdone : ∀ listed a, L listed a → ∀ j ∈ Region.ready md ops listed, n ≤ j) :
    ∀ (f : Nat) (listed : Array Bool) (a : Act), HeadInv md ops n listed →
      (∀ j oj, ops[j]? = some oj → j ≠ i → listed.getD j true = false → (∀ e ∈ oj.after, Region.binds md e = true → e.on ≠ i) → oi.apart ops oj = true) →
      i ∈ Region.ready md ops listed → Yl P ops C D oi v a →
      anyM P md ops C D n L f (listed.setIfInBounds i true) (a.put oi.dst v) → anyM P md ops C D n L (f + 1) listed a := by
  intro f
  induction f with
  | zero =>
    intro listed a inv _ hr hy H
    have hun := (mem_ready.1 hr).1
    refine ⟨fun h => (by rw [h] at hr; cases hr), fun j hj => ?_⟩
    have hjn : j < n := Nat.lt_of_not_le fun h => absurd hj (waits1 hs hc inv hn _ i (Nat.le_add_left _ _) hi1 hin hun j h)
    refine ⟨hjn, ?_⟩
    by_cases e : j = i
    · subst e; exact at1_of_Yl hi hy H
    · have := hdone _ _ H j (ready_mono hj e)
      omega
  | succ f ih =>
    intro listed a inv hfree hr hy H
    have hun := (mem_ready.1 hr).1
    refine ⟨fun h => (by rw [h] at hr; cases hr), fun j hj => ?_⟩
    have hjn : j < n := Nat.lt_of_not_le fun h => absurd hj (waits1 hs hc inv hn _ i (Nat.le_add_left _ _) hi1 hin hun j h)
    refine ⟨hjn, ?_⟩
    by_cases e : j = i
    · subst e; exact at1_of_Yl hi hy H
    · obtain ⟨hjun, oj, hoj, hall⟩ := mem_ready.1 hj
      have hnot : ∀ x ∈ oj.after, Region.binds md x = true → x.on ≠ i := fun x hx hb heq => by
        have g1 := hall x hx hb
        rw [heq, getD_both hun] at g1
        cases g1
      have hsw := at1_swap hoj (hfree j oj hoj e hjun hnot) (fun cs b => hsel i oi cs b hi) (fun cs b => hsel j oj cs b hoj) hy (H.2 j (ready_mono hj e)).2
      refine at1_mono (fun b hb => ih (listed.setIfInBounds j true) b (inv.set hj hjn) (fun k ok hk hki hun2 hno => ?_) (ready_mono hr (Ne.symm e)) hb.1 ?_) hsw
      · refine hfree k ok hk hki ?_ hno
        by_cases hjk : j = k
        · subst hjk; exact hjun
        · rw [getD_set_ne true hjk] at hun2; exact hun2
      · rw [Array.setIfInBounds_comm _ _ e]
        exact hb.2
theorem anyM_text1 {n g : Nat} {Lq : Act → Prop} (hsel : Region.noSelect ops = true) (hs : sink1 md ops n = true) (hc : Region.chainB md ops n = true) (hn : n < ops.size) :
    ∀ (l : List Oper) (k : Nat) (listed : Array Bool) (a : Act), 1 ≤ k → (∀ j, j < l.length → l[j]? = ops[k + j]?) → k + l.length = n → HeadInv md ops n listed →
    Region.lexHead md ops g l.length k listed = true → wpL P ops C D Lq l a →
    anyM P md ops C D n (fun listed2 a2 => Region.seqB md ops g n listed2 = true ∧ Lq a2) l.length listed a
  | [], k, listed, a, _, _, hk, _, hB, h => by
    have : k = n := by simpa using hk
    subst this
    exact ⟨by simpa [Region.lexHead] using hB, h⟩
  | o :: l, k, listed, a, hk1, hl, hk, inv, hB, h => by
    have h0 : ops[k]? = some o := by simpa using (hl 0 (by simp)).symm
    simp only [List.length_cons, Region.lexHead, Bool.and_eq_true] at hB
    obtain ⟨⟨hr, hf⟩, hB2⟩ := hB
    have hkn : k < n := by simp only [List.length_cons] at hk; omega
    have hr2 : k ∈ Region.ready md ops listed := by simpa using hr
    have hst : at1 P ops C D k (wpL P ops C D Lq l) a := by unfold at1; rw [h0]; exact h
    obtain ⟨v, hy, hK⟩ := Yl_of_at1 h0 hst
    exact anyM_first1 h0 (Region.noSelect_spec hsel) hs hc hn hkn hk1 (fun listed2 a2 hL => seqB_ready hL.1) l.length listed a inv (Region.free_spec h0 hf) hr2 hy
      (anyM_text1 hsel hs hc hn l (k + 1) _ _ (by omega) (fun j hj => by have := hl (j + 1) (by simp; omega); simpa [Nat.add_assoc, Nat.add_comm 1 j] using this) (by simp only [List.length_cons] at hk; omega) (inv.set hr2 hkn) hB2 hK)
theorem held_of_any {Q : Exit → Act → World → Prop} : ∀ (fuel : Nat) (listed : Array Bool) (a : Act) (w : World), wpAny P md ops Q fuel listed a w → wpAnyH P md ops Q (fun _ => True) fuel listed a w
  | 0, _, _, _, h => h
  | fuel + 1, _, _, _, h => ⟨h.1, fun i hi => wpOp_mono (fun a' w' h' => ⟨trivial, held_of_any fuel _ a' w' h'⟩) (h.2 i hi)⟩
def lexF (ops : Array Oper) (n : Nat) : Bool :=
  Region.noSelect ops && decide (n < ops.size) && decide (1 ≤ n) && sink1 .any ops n && Region.chainB .any ops n && Region.free .any ops (Array.replicate ops.size false) 0 && (Region.ready .any ops (Array.replicate ops.size false)).contains 0
    && Region.lexHead .any ops (ops.size - n) (n - 1) 1 ((Array.replicate ops.size false).setIfInBounds 0 true)
end
theorem wp_looseF_tail {P : Program} {id : Nat} {Q : Exit → Act → World → Prop} {a : Act} {w : World} {o : Oper} {l : List Oper} (ds : List Nat) (n : Nat) (x : Operand) (hop : o.op = .move x) (hg : o.guard = none) (hm : P.follows .mixedOrders = true) (hB : lexF (o :: l).toArray n = true)
    (hQ : ∀ c b v, Q (.panic c) (b.put o.dst (a.eval x)) v → Q (.panic c) b v)
    (h : wpL P (o :: l).toArray (fun v => ∃ n, v = w.drewN n) (fun i => ds.contains i) (fun a2 => After ds a2 fun b m => wpList P (o :: l).toArray Q ((o :: l).drop n) b (w.drewN m)) (l.take (n - 1)) (a.put o.dst (a.eval x))) : (Code.region id (o :: l).toArray true).wp P Q a w := by
  simp only [lexF, Bool.and_eq_true, decide_eq_true_eq] at hB
  obtain ⟨⟨⟨⟨⟨⟨⟨hsel, hn⟩, hn1⟩, hs⟩, hc⟩, hf⟩, hr⟩, hlex⟩ := hB
  have hn2 : n < l.length + 1 := by simpa using hn
  have htl : (l.take (n - 1)).length = n - 1 := by simp; omega
  have hdl : ((o :: l).drop n).length = (o :: l).toArray.size - n := by simp
  have inv0 : HeadInv .any (o :: l).toArray n (Array.replicate (o :: l).toArray.size false) :=
    ⟨by simp, fun j oj _ hl => (by rw [getD_replicate_false] at hl; cases hl), fun t _ ht => getD_in (by simpa using ht) (getD_replicate_false _ _)⟩
  have inv1 := inv0.set (i := 0) (by simpa using hr) (by omega)
  have H := anyM_text1 (md := .any) (g := (o :: l).toArray.size - n) hsel hs hc hn (l.take (n - 1)) 1 _ _ (Nat.le_refl _) (fun j hj => by
    have hj2 : j < n - 1 := by rw [htl] at hj; exact hj
    rw [Nat.add_comm 1 j]
    simp [hj2]) (by rw [htl]; omega) inv1 (by rw [htl]; exact hlex) h
  refine wp_region_held (S := fun _ => True) hm ?_
  have hsz : (o :: l).toArray.size = (n - 1 + ((o :: l).toArray.size - n)) + 1 := by omega
  rw [hsz]
  refine wpAnyH_take (i := 0) (oi := o) (v := a.eval x) (by simp) hsel (by rw [← hsz]; exact hf) (by rw [← hsz]; exact hr) hQ (.inl ⟨wanted_none hg _, fun w2 _ => BigFrame.run_move x hop w2⟩) trivial (held_of_any _ _ _ _ ?_)
  rw [← hsz]
  have := wpAny_of_anyM (Q2 := Q) (g := (o :: l).toArray.size - n) (fun listed a2 b w2 hw hab hL => by
    obtain ⟨m, rfl⟩ := hw
    have := wpAny_of_seq (md := .any) (Q' := Q) ((o :: l).drop n) n listed b (w.drewN m) (fun j => by simp [List.getElem?_drop]) (by rw [hdl]; exact hL.1) (hL.2 b hab m)
    rwa [hdl] at this) _ _ _ _ { w with drawn := w.drawn + 1 } ⟨1, rfl⟩ (AR.refl _ _) H
  rw [htl] at this
  exact this
end Lo
end Go.Proofs.Ytfgebggfoboalaa
